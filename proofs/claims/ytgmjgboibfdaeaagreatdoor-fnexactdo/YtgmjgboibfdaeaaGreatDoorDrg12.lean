import Derived.Test.YtgmjgboibfdaeaaGreatDoorDrg07
set_option linter.unusedVariables false
set_option linter.unusedSimpArgs false
set_option maxRecDepth 100000
set_option maxHeartbeats 40000000
namespace Go.Proofs.YtgmjgboibfdaeaaGreatDoor
open Go.ChangeShapes Go.WideShapes Go.ChangeAt Go.RowKit
variable {F R T:Nat ->Int}{S:Sx}{a x:Option Addr}{b c cap d hi i jc js k k0 lo n:Nat}{l la lb ls:List Lf}{p:List ByteArray}{v vw:Value}{w' w0 w1:World}{y:Lf}
def mP (l:List Lf)(k0:Nat):Nat ->Nat
 | 0=>k0
 | i+1=>mP l k0 i+(gL l i).p.length+4
def mLf (k n:Nat):Lf:=⟨(List.range n).map fun t=>mkT (k+t),((k+n:Nat):Int)%3==0,((k+n+1:Nat):Int),((k+n+2:Nat):Int),mkT (k+n+3)⟩
def mkL (l:List Lf)(k0:Nat):List Lf:=(List.range l.length).map fun i=>mLf (mP l k0 i) (gL l i).p.length
theorem QeC (l:List Lf)(k0:Nat):(mkL l k0).length=l.length:=by simp [mkL]
theorem Qi8 (l:List Lf)(k0:Nat)(hi:i<l.length):gL (mkL l k0) i=mLf (mP l k0 i) (gL l i).p.length:=by simp [gL,mkL,List.getD,hi]
theorem QcT (k n:Nat):(mLf k n).p.length=n:=by simp [mLf]
theorem QmQ (k n:Nat){t:Nat}(ht:t<n):gS (mLf k n).p t=mkT (k+t):=by simp [gS,mLf,List.getD,ht]
theorem Qi5 {l:List Lf}{k0:Nat}(hp:∀i,(gL l i).p.length<=1048576):∀i,mP l k0 i<=k0+i*1048580
 | 0=>by simp [mP]
 | i+1=>by have:=Qi5 (k0:=k0) hp i;have:=hp i;simp only [mP];omega
structure LWy (lo hi b:Nat)(l:List Lf)(P:Nat ->Option Addr)(G:Nat ->Nat):Prop where
 b1:lo<=b
 b2:b<hi
 g1:∀i,i<l.length ->0<(gL l i).p.length ->P i=some ⟨G i,0,none⟩/\ G i≠b/\ lo<=G i/\ G i<hi
 sep:∀i j,i<l.length ->j<l.length ->0<(gL l i).p.length ->0<(gL l j).p.length ->i≠j ->G i≠G j
structure LIn (w0 w:World)(lo hi b:Nat)(l:List Lf)(P:Nat ->Option Addr)(Q G:Nat ->Nat)(k0 js jc:Nat):Prop where
 low:Btw lo hi w0 w
 run:∀(q:Nat) (cur:Array Value),w0.heap[q]? =some (Obj.cells cur 124 (0,0)) ->w.heap[q]? =w0.heap[q]?
 wr:∃C,Wr w b 106 (l.length*5) C
 pth:∀i,i<l.length ->w.cell? ⟨b,i*5,none⟩=some (.slice (P i) (gL l i).p.length (Q i))
 todo:∀i,js<=i ->i<l.length ->0<(gL l i).p.length ->PMk w (G i) (gL l i).p.length
 done:∀i,i<js ->i<l.length ->0<(gL l i).p.length ->Wr w (G i) 9 (gL l i).p.length (fun t=> .string (mkT (mP l k0 i+t)))
 cel:∀i,i<jc ->i<l.length ->w.cell? ⟨b,i*5+1,none⟩=some (.bool (mLf (mP l k0 i) (gL l i).p.length).fl)/\ w.cell? ⟨b,i*5+2,none⟩=some (.int .i64 (mLf (mP l k0 i) (gL l i).p.length).r)/\ w.cell? ⟨b,i*5+3,none⟩=some (.int .i64 (mLf (mP l k0 i) (gL l i).p.length).q)/\ w.cell? ⟨b,i*5+4,none⟩=some (.string (mLf (mP l k0 i) (gL l i).p.length).v)
theorem LIn.bw {w:World}{P:Nat ->Option Addr}{Q G:Nat ->Nat}(h:LIn w0 w lo hi b l P Q G k0 js jc)(hb:Bl w w'):LIn w0 w' lo hi b l P Q G k0 js jc:=by
 obtain⟨C,k⟩:=h.wr;have e:=hb.block b k.lt;have q:∀i,w'.cell? ⟨b,i,none⟩=w.cell? ⟨b,i,none⟩:=fun i=>World.cell?_of_block (a:=⟨b,i,none⟩) e;refine⟨h.low.trans (Btw.bw hb),fun q j hq=>(hb.block q (Nat.lt_of_lt_of_le (Array.getElem?_eq_some_iff.1 hq).1 h.low.size)).trans (h.run q j hq),⟨C,k.same e⟩,fun i hi=>(q _).trans (h.pth i hi),fun i h1 h2 h3=> ?_,fun i h1 h2 h3=> ?_,fun i h1 h2=> ?_⟩
 ·obtain⟨j,m,r⟩:=h.todo i h1 h2 h3;exact⟨j,(hb.block _ (Array.getElem?_eq_some_iff.1 m).1).trans m,r⟩
 ·exact(h.done i h1 h2 h3).same (hb.block _ (h.done i h1 h2 h3).lt)
 ·rw [q,q,q,q];exact h.cel i h1 h2
theorem LIn.set {w:World}{P:Nat ->Option Addr}{Q G:Nat ->Nat}(hw:LWy lo hi b l P G)(h:LIn w0 w lo hi b l P Q G k0 js jc)(o:Nat)(u:Value)(ho:jc*5<o/\ o<jc*5+5):LIn w0 (w.setCell ⟨b,o,none⟩ u) lo hi b l P Q G k0 js jc:=by
 obtain⟨C,k⟩:=h.wr;have q:∀i,i≠o ->(w.setCell ⟨b,o,none⟩ u).cell? ⟨b,i,none⟩=w.cell? ⟨b,i,none⟩:=fun i hi=>by simp [World.cell?_setCell_other,Ne.symm hi]
 refine⟨h.low.set _ _ hw.b1 hw.b2,fun q cur hq=> ?_,⟨_,k.set o u⟩,fun i hi=>(q _ (by omega)).trans (h.pth i hi),fun i h1 h2 h3=>(h.todo i h1 h2 h3).any,fun i h1 h2 h3=> ?_,fun i h1 h2=> ?_⟩
 ·refine(zH _ _ _ _ ?_).trans (h.run q cur hq);intro e;have m:q=b:=e;subst m;obtain⟨r,j,_⟩:=k;rw [h.run _ _ hq,hq] at j;injection j with j;injection j with _ k2;exact absurd k2 (by decide)
 ·exact(h.done i h1 h2 h3).same (zH _ _ _ _ (hw.g1 i h2 h3).2.1)
 ·rw [q _ (by omega),q _ (by omega),q _ (by omega),q _ (by omega)];exact h.cel i h1 h2
theorem LIn.str {w:World}{P:Nat ->Option Addr}{Q G:Nat ->Nat}(hw:LWy lo hi b l P G)(h:LIn w0 w lo hi b l P Q G k0 js js)(hj:js<l.length)(h0:0<(gL l js).p.length)(hg:w.grownBy w' (some (G js)))(hc:Wr w' (G js) 9 (gL l js).p.length (fun t=> .string (mkT (mP l k0 js+t))))(hpm:∀g' n',PMk w g' n' ->PMk w' g' n'):LIn w0 w' lo hi b l P Q G k0 (js+1) js:=by
 obtain⟨C,r⟩:=h.wr;have k:=hw.g1 js hj h0;have e:=hg.block b r.lt (fun e=>k.2.1 (by injection e with e;exact e.symm));have q:∀i,w'.cell? ⟨b,i,none⟩=w.cell? ⟨b,i,none⟩:=fun i=>World.cell?_of_block (a:=⟨b,i,none⟩) e;refine⟨h.low.trans (Btw.of hg k.2.2.1 k.2.2.2),fun q cur hq=> ?_,⟨C,r.same e⟩,fun i hi=>(q _).trans (h.pth i hi),fun i h1 h2 h3=>hpm _ _ (h.todo i (by omega) h2 h3),fun i h1 h2 h3=> ?_,fun i h1 h2=> ?_⟩
 ·refine(hg.block q (Nat.lt_of_lt_of_le (Array.getElem?_eq_some_iff.1 hq).1 h.low.size) (fun e=> ?_)).trans (h.run q cur hq);injection e with e;subst e;obtain⟨v,j,_⟩:=h.todo js zL hj h0;rw [h.run _ _ hq,hq] at j;injection j with j;injection j with _ k2;exact absurd k2 (by decide)
 ·by_cases m:i=js
  ·subst m;exact hc
  ·have u:=h.done i (by omega) h2 h3;exact u.same (hg.block _ u.lt (fun e=>by injection e with e;exact hw.sep i js h2 hj h3 h0 m e))
 ·rw [q,q,q,q];exact h.cel i h1 h2
theorem LIn.skip {w:World}{P:Nat ->Option Addr}{Q G:Nat ->Nat}(h:LIn w0 w lo hi b l P Q G k0 js jc)(h0:(gL l js).p.length=0):LIn w0 w lo hi b l P Q G k0 (js+1) jc:=
 ⟨h.low,h.run,h.wr,h.pth,fun i h1=>h.todo i (by omega),fun i h1 h2 h3=>by
  by_cases j:i=js
  ·subst j;omega
  ·exact h.done i (by omega) h2 h3,h.cel⟩
theorem LIn.seg {w:World}{P:Nat ->Option Addr}{Q G:Nat ->Nat}(hw:LWy lo hi b l P G)(h:LIn w0 w lo hi b l P Q G k0 l.length l.length)(hs:w.heap.size<=w'.heap.size)(hq:∀q,lo<=q ->q<hi ->q<w.heap.size ->(∀cur,w0.heap[q]? ≠some (Obj.cells cur 124 (0,0))) ->w'.heap[q]? =w.heap[q]?):QbD w' (some ⟨b,0,none⟩) (mkL l k0):=by
 obtain⟨C,m⟩:=h.wr;have y:w'.heap[b]? =w.heap[b]? :=hq b hw.b1 hw.b2 m.lt (fun cur e=>by
  obtain⟨v,j,_⟩:=m;rw [h.run _ _ e,e] at j;injection j with j;injection j with _ k2;exact absurd k2 (by decide))
 have q:∀i,w'.cell? ⟨b,i,none⟩=w.cell? ⟨b,i,none⟩:=fun i=>World.cell?_of_block (a:=⟨b,i,none⟩) y;refine .inr ⟨b,0,rfl,Nat.lt_of_lt_of_le m.lt hs,fun i hi=> ?_⟩;rw [QeC] at hi;have c:=h.cel i hi hi;rw [Qi8 l k0 hi,QcT,q,q,q,q,q];refine⟨P i,Q i,by simpa using h.pth i hi,?_,by simpa using c.1,by simpa using c.2.1,by simpa using c.2.2.1,by simpa using c.2.2.2⟩;by_cases k:0<(gL l i).p.length
 ·have r:=h.done i hi hi k;have z:w'.heap[G i]? =w.heap[G i]? :=hq (G i) (hw.g1 i hi k).2.2.1 (hw.g1 i hi k).2.2.2 r.lt (fun cur e=>by
   obtain⟨v,j,_⟩:=r;rw [h.run _ _ e,e] at j;injection j with j;injection j with _ k2;exact absurd k2 (by decide))
  have u:=r.same z;refine .inr ⟨G i,0,(hw.g1 i hi k).1,u.lt,fun t ht=> ?_⟩;rw [QcT] at ht;rw [QmQ _ _ ht];simpa using u.cell ht
 ·exact .inl (by rw [QcT];omega)
theorem Qi6 (a:Option Addr)(c k0:Nat)(w:World):Cl 30 #[.slice a 0 c,.int .i64 (k0:Int)] w fun e w'=>e=.returned (.int .i64 (k0:Int))/\ w'=w:=by
 go_enter Tryz.func30,Tryz.ntmps30;go_wp2_with fail;refine wp_loop_rounds 1 ?_;rw [rounds_succ];go_wp2_with fail;go_ret;exact⟨rfl,rfl⟩
theorem LIn.mark {w:World}{P:Nat ->Option Addr}{Q G:Nat ->Nat}(hw:LWy lo hi b l P G)(h:LIn w0 w lo hi b l P Q G k0 js js)(hj:js<l.length)(hk:mP l k0 js+(gL l js).p.length<=10000000000000):
  Cl 30 #[.slice (P js) (gL l js).p.length (Q js),.int .i64 (mP l k0 js:Int)] w fun e w'=>e=.returned (.int .i64 ((mP l k0 js+(gL l js).p.length:Nat):Int))/\ LIn w0 w' lo hi b l P Q G k0 (js+1) js:=by
 by_cases j:0<(gL l js).p.length
 ·obtain⟨C,u⟩:=(h.todo js zL hj j).wr;rw [(hw.g1 js hj j).1];refine(Qcs (G js) (gL l js).p.length (Q js) (mP l k0 js) C w hk u).mono ?_;rintro e w' ⟨rfl,k,q,r⟩;exact⟨rfl,h.str hw hj j k q r⟩
 ·have m:(gL l js).p.length=0:=by omega
  rw [m];refine(Qi6 (P js) (Q js) (mP l k0 js) w).mono ?_;rintro e w' ⟨rfl,rfl⟩;exact⟨rfl,h.skip m⟩
theorem Qgj (lo hi b c k0:Nat)(l:List Lf)(P:Nat ->Option Addr)(Q G:Nat ->Nat)(w:World)(hk:k0<=4000000000000)(hn:l.length<=1048576)(hp:∀i,(gL l i).p.length<=1048576)(hw:LWy lo hi b l P G)(h:LIn w w lo hi b l P Q G k0 0 0):
  Cl 53 #[.slice (some ⟨b,0,none⟩) l.length c,.int .i64 (k0:Int)] w fun e w'=>e=.returned (.int .i64 (mP l k0 l.length:Int))/\ LIn w w' lo hi b l P Q G k0 l.length l.length:=by
 have HI:=hid h;have s:=hid hw;have X:Hid (∀j,j<l.length ->∀wr,LIn w wr lo hi b l P Q G k0 j j ->Cl 30 #[.slice (P j) (gL l j).p.length (Q j),.int .i64 (mP l k0 j:Int)] wr fun e w'=>e=.returned (.int .i64 ((mP l k0 j+(gL l j).p.length:Nat):Int))/\ LIn w w' lo hi b l P Q G k0 (j+1) j):=hid (fun j T wr hI=>hI.mark hw T (by have:=Qi5 (k0:=k0) hp j;have:=hp j;omega));have Hd:=hid (Qi5 (l:=l) (k0:=k0) hp);clear h hw;go_enter Tryz.func53,Tryz.ntmps53;go_wp2_with fail;go_loopw [1,5] (fun q i wr=>∃(j m:Nat),j<=l.length/\ i=.int .i64 (j:Int)/\ q=.int .i64 (m:Int)/\ Hid (mP l k0 j=m)/\ Hid (LIn w wr lo hi b l P Q G k0 j j)) (fun _ i _=>l.length - (intOf i).toNat);case atStart=>exact⟨0,k0,Nat.zero_le _,rfl,rfl,hid rfl,HI⟩
 case round=>
  obtain⟨j,m,T,rfl,rfl,u,o⟩:=hrel;by_cases I:j<l.length
  ·have i1:(0:Int)<=(j:Int):=Int.natCast_nonneg _;have i2:(j:Int)<(l.length:Int):=by omega
   have H:=o.pth j I;have y:=hid (X j I wr o);have He:=hp j;have Hg:m<=k0+j*1048580:=by have:=Hd j;rw [u.out] at this;exact this
   have E:Hid (mP l k0 (j+1)=m+(gL l j).p.length+4):=hid (by simp only [mP];rw [u.out]);have t:Hid (∀w',w'.cell? ⟨b,j*5+1,none⟩=some (.bool (((m+(gL l j).p.length:Nat):Int)%3==0)) ->w'.cell? ⟨b,j*5+2,none⟩=some (.int .i64 ((m+(gL l j).p.length+1:Nat):Int)) ->w'.cell? ⟨b,j*5+3,none⟩=some (.int .i64 ((m+(gL l j).p.length+2:Nat):Int)) ->w'.cell? ⟨b,j*5+4,none⟩=some (.string (mkT (m+(gL l j).p.length+3))) ->LIn w w' lo hi b l P Q G k0 (j+1) j ->LIn w w' lo hi b l P Q G k0 (j+1) (j+1)):=hid (fun w' V Y Z R h=>⟨h.low,h.run,h.wr,h.pth,h.todo,h.done,fun i h1 h2=>by
    by_cases ei:i=j
    ·subst ei;rw [u.out];exact⟨V,Y,Z,R⟩
    ·exact h.cel i (by omega) h2⟩)
   obtain⟨np,Hb⟩:=zE ((gL l j).p.length);rw [u.out] at y;rw [Hb] at H He y E t;clear Hb;obtain⟨pj,Ha⟩:=zE (P j);obtain⟨qj,Hc⟩:=zE (Q j);rw [Ha,Hc] at H y;clear Ha Hc;go_wp2_with fail;refine y.mono ?_;rintro e w1 ⟨rfl,M⟩;obtain⟨C,r⟩:=M.wr;have L:=hid M;obtain⟨k,W⟩:=zE (m+np);have Hf:k<=k0+j*1048580+1048576:=by omega
   rw [W] at E t ⊢;have V:=r.cell (i:=j*5+1) (by omega);have Y:=r.cell (i:=j*5+2) (by omega);have Z:=r.cell (i:=j*5+3) (by omega);have f1:=r.frozen (j*5+1);have f2:=r.frozen (j*5+2);have f3:=r.frozen (j*5+3);have K:=hid r;clear r M y W H o X;go_wp2_with fail;obtain⟨F,A⟩:=zE (((w1.setCell ⟨b,j*5+1,none⟩ (.bool ((k:Int)%3==0))).setCell ⟨b,j*5+2,none⟩ (.int .i64 ((k:Int)+1))).setCell ⟨b,j*5+2+1,none⟩ (.int .i64 ((k:Int)+1+1)));rw [A];have B:LIn w F lo hi b l P Q G k0 (j+1) j:=by rw [<- A];exact((L.set s _ _ (by omega)).set s _ _ (by omega)).set s _ _ (by omega)
   have z:=((K.set (j*5+1) (.bool ((k:Int)%3==0))).set (j*5+2) (.int .i64 ((k:Int)+1))).set (j*5+2+1) (.int .i64 ((k:Int)+1+1));rw [A] at z;have O:=QbO (k+3) F (by omega);have S:((k+3:Nat):Int)=(k:Int)+1+1+1:=by omega
   rw [S] at O;clear A V Y Z f1 f2 f3 L S;refine O.mono ?_;rintro e w4 ⟨rfl,U⟩;have D:=B.bw U;have g:=z.same (U.block b z.lt);have R:=g.cell (i:=j*5+4) (by omega);have f4:=g.frozen (j*5+4);have v:=g.set (j*5+4) (.string (mkT (k+3)));have N:Hid (LIn w (w4.setCell ⟨b,j*5+4,none⟩ (.string (mkT (k+3)))) lo hi b l P Q G k0 (j+1) (j+1)):=hid (by
    refine t _ ?_ ?_ ?_ ?_ (D.set s _ _ (by omega))
    ·rw [v.cell (i:=j*5+1) (by omega)];simp
    ·rw [v.cell (i:=j*5+2) (by omega)];simp
    ·rw [v.cell (i:=j*5+3) (by omega)];simp;omega
    ·rw [v.cell (i:=j*5+4) (by omega)];simp)
   obtain⟨t4,J⟩:=zE (mkT (k+3));rw [J] at N;rw [J];clear v g z D B U O J K t;go_wp2_with fail;go_roundw;case rel=>exact⟨j+1,k+4,I,by go_num,by go_num,E,N⟩
   case measure=>simp [intOf];omega
  ·obtain rfl:j=l.length:=by omega
   have HE:=u;clear u;go_wp2_with fail;go_ret;exact⟨by rw [HE.out];rfl,o⟩
theorem Qj8 (a:Option Addr)(n cap k0:Nat)(w:World)(hk0:k0<=9000000000000)(hn1:n<=1000000000)(h:Qa7 w a n (mk3 k0 0) (mk3 k0 1) (mk3 k0 2)):
  Cl 91 #[.slice a n cap,.int .i64 (k0:Int)] w fun e w'=>e=.returned (.int .i64 ((k0+3*n:Nat):Int))/\ w'=w:=by
 rcases h with h|⟨b,v,rfl,t,r⟩
 ·subst h;go_enter Tryz.func91,Tryz.ntmps91;go_wp2;refine wp_loop_rounds 1 ?_;rw [rounds_succ];go_wp2;go_ret;exact⟨rfl,rfl⟩
 ·go_enter Tryz.func91,Tryz.ntmps91;go_wp2;go_loop [1,5] (fun k i=>∃(j m:Nat),j<=n/\ Hid (m=k0+3*j)/\ i=.int .i64 (j:Int)/\ k=.int .i64 (m:Int)) (fun _ i=>n - (intOf i).toNat);case atStart=>exact⟨0,k0,Nat.zero_le _,hid (by omega),rfl,rfl⟩
  case round=>
   obtain⟨j,m,o,q,rfl,rfl⟩:=hrel;by_cases u:j<n
   ·have y:w.cell? ⟨b,v+j*3,none⟩=some (.int .i64 (m:Int)):=by rw [(r j u).1];unfold mk3;have:=q.out;congr 2;omega
    have z:w.cell? ⟨b,v+j*3+1,none⟩=some (.int .i64 ((m:Int)+1)):=by rw [(r j u).2.1];unfold mk3;have:=q.out;congr 2;omega
    have g:w.cell? ⟨b,v+j*3+2,none⟩=some (.int .i64 ((m:Int)+1+1)):=by rw [(r j u).2.2];unfold mk3;have:=q.out;congr 2;omega
    have p:m<=9000000000000+3000000000:=by have:=q.out;omega
    clear r;go_wp2;go_round;case rel=>exact⟨j+1,m+3,u,hid (by have:=q.out;omega),by go_num,by go_num⟩
    case measure=>simp [intOf];omega
   ·obtain rfl:j=n:=by omega
    clear r;have e:=q.out;clear q;subst e;go_wp2;go_ret;exact⟨by simp,rfl⟩
theorem QfV (a:Option Addr)(n cap k0:Nat)(w:World)(hk0:k0<=9000000000000)(hn1:n<=1000000000)(h:Qa7 w a n (mk3 k0 0) (mk3 k0 1) (mk3 k0 2)):
  Cl 57 #[.agg #[.slice a n cap],.int .i64 (k0:Int)] w (Rt w (.int .i64 ((k0+3*n:Nat):Int))):=by
 have j:Hid (Bl w (w.alloc (.cells #[.slice a n cap] 38))):=(Below.refl _ _).alloc (Nat.le_refl _) _;go_enter Tryz.func57,Tryz.ntmps57;go_wp2_with fail;refine(Qj8 a n cap k0 _ hk0 hn1 (h.bw j)).mono ?_;rintro e w1 ⟨rfl,rfl⟩;go_wp2_with fail;go_ret;exact⟨by simp,j⟩
theorem QjL (a:Option Addr)(cap k0:Nat)(w:World):
  Cl 89 #[.slice a 0 cap,.int .i64 (k0:Int)] w fun e w'=>e=.returned (.int .i64 (k0:Int))/\ w'=w:=by
 go_enter Tryz.func89,Tryz.ntmps89;go_wp2;refine wp_loop_rounds 1 ?_;rw [rounds_succ];go_wp2;go_ret;exact⟨rfl,rfl⟩
theorem Qfv (a:Option Addr)(cap k0:Nat)(w:World)(hk0:k0<=9000000000000):
  Cl 54 #[.agg #[.slice a 0 cap],.int .i64 (k0:Int)] w (Rt w (.int .i64 (k0:Int))):=by
 have j:Hid (Bl w (w.alloc (.cells #[.slice a 0 cap] 38))):=(Below.refl _ _).alloc (Nat.le_refl _) _;go_enter Tryz.func54,Tryz.ntmps54;go_wp2_with fail;refine(QjL a cap k0 _).mono ?_;rintro e w1 ⟨rfl,rfl⟩;go_wp2_with fail;go_ret;exact⟨rfl,j⟩
theorem Qlq (a:Option Addr)(n c k0:Nat)(w:World)(hk:k0+n<=10000000000000)(hn:n<=1048576)(h:n=0 \/∃b u,a=some ⟨b,u,none⟩/\ b<w.heap.size/\∀t,t<n ->w.cell? ⟨b,u+t,none⟩=some (.string (mkT (k0+t)))):
  Cl 90 #[.slice a n c,.int .i64 (k0:Int)] w (Rt w (.int .i64 ((k0+n:Nat):Int))):=by
 have Y:=hid h;clear h;go_enter Tryz.func90,Tryz.ntmps90;go_wp2_with fail;go_loopw [1,5] (fun q i wr=>∃(j m:Nat),j<=n/\ m<=10000000000000/\ Hid (m=k0+j)/\ i=.int .i64 (j:Int)/\ q=.int .i64 (m:Int)/\ Hid (Bl w wr)) (fun _ i _=>n - (intOf i).toNat);case atStart=>exact⟨0,k0,Nat.zero_le _,by omega,hid (by omega),rfl,rfl,hid zI⟩
 case round=>
  obtain⟨j,m,H,I,v,rfl,rfl,r⟩:=hrel;by_cases U:j<n
  ·have L:(0:Int)<=(j:Int):=Int.natCast_nonneg _;have N:(j:Int)<(n:Int):=by omega
   obtain⟨g,u,rfl,Q,O⟩:=Y.resolve_left (by omega);have G:g<wr.heap.size:=Nat.lt_of_lt_of_le Q r.size;have y:=(r.cell (p:=⟨g,u+j,none⟩) Q).trans (O j U);have E:mkT (k0+j)=mkT m:=by rw [v.out]
   rw [E] at y;obtain⟨s,z⟩:=zE (mkT m);rw [z] at y;have V:Hid (∀w1,Cl 55 #[.int .i64 (m:Int)] w1 (Rt w1 (.string s))):=hid (fun w1=>by rw [<- z];exact QbO m w1 (by omega));have J:(s.toList==s.toList)=true:=by simp
   clear z E O;go_wp2_with fail;have o:Hid (∀w',Bl wr w' ->(Bl wr w'/\ w'.cell? ⟨g,u+j,none⟩=some (.string s))):=hid (fun w' k=>⟨k,(k.cell (p:=⟨g,_,none⟩) G).trans y⟩);refine zS o (fun qh=> ?_);refine tZ 0 12 ?_;refine tZ 1 13 ?_;refine tZ 2 14 ?_;refine tZ 3 15 ?_;refine tZ 4 16 ?_;refine cZ 5 ?_;intro K M;go_simp;refine(V _).mono ?_;rintro e X ⟨rfl,A⟩;have k:=Qaa qh.1 A;refine M.out _ _ (o _ k) (fun qh=> ?_);clear M K;try simp only [zP]
   refine tZ 6 18 ?_;refine zD ?_;have Z:=hid (r.trans (k.mono r.size));clear qh k A;go_wp2_with fail;go_roundw;case rel=>exact⟨j+1,m+1,U,by have:=v.out;omega,hid (by have:=v.out;omega),by go_num,by go_num,Z⟩
   case measure=>simp [intOf];omega
  ·obtain rfl:j=n:=by omega
   go_wp2_with fail;go_ret;exact⟨by rw [<- v.out];rfl,r⟩
theorem QfW (a:Option Addr)(c k0:Nat)(l:List Lf)(w:World)(hk:k0<=4000000000000)(hn:l.length<=1048576)(hp:∀i,(gL l i).p.length<=1048576)(h:QbD w a (mkL l k0)):
  Cl 56 #[.slice a l.length c,.int .i64 (k0:Int)] w (Rt w (.int .i64 (mP l k0 l.length:Int))):=by
 have HW:=hid h;have Hb:=hid (Qi5 (l:=l) (k0:=k0) hp);clear h;go_enter Tryz.func56,Tryz.ntmps56;go_wp2_with fail;go_loopw [1,5] (fun q i wr=>∃(j m:Nat),j<=l.length/\ i=.int .i64 (j:Int)/\ q=.int .i64 (m:Int)/\ Hid (mP l k0 j=m)/\ Hid (Bl w wr)) (fun _ i _=>l.length - (intOf i).toNat);case atStart=>exact⟨0,k0,Nat.zero_le _,rfl,rfl,hid rfl,hid zI⟩
 case round=>
  obtain⟨j,m,hj,rfl,rfl,Z,O⟩:=hrel;by_cases H:j<l.length
  ·have i1:(0:Int)<=(j:Int):=Int.natCast_nonneg _;have i2:(j:Int)<(l.length:Int):=by omega
   have W:=hp j;have Hh:m<=k0+j*1048580:=by have:=Hb j;rw [Z.out] at this;exact this
   have G:Hid (mP l k0 (j+1)=m+(gL l j).p.length+4):=hid (by simp only [mP];rw [Z.out]);rcases HW.out with h0|⟨b,U,rfl,E,P⟩
   ·rw [QeC] at h0;omega
   obtain⟨pa,pc,A,r,v,y,z,u⟩:=P j (by rw [QeC];exact H);rw [Qi8 l k0 H,QcT] at A;rw [Qi8 l k0 H] at r v y z u;rw [Z.out] at r v y z u;have Hj:b<wr.heap.size:=Nat.lt_of_lt_of_le E O.size;obtain⟨M,T⟩:=zE ((gL l j).p.length);rw [T] at A r v y z u G W;have J:=hid (fun w'(hb':Bl w w')=>Qlq pa M pc m w' (by omega) W (by
    rcases r with r|⟨g,o,rfl,R,Hc⟩
    ·exact .inl (by rw [QcT] at r;exact r)
    ·refine .inr ⟨g,o,rfl,Nat.lt_of_lt_of_le R hb'.size,fun t ht=> ?_⟩;have:=Hc t (by rw [QcT];exact ht);rw [QmQ _ _ ht] at this;exact(hb'.cell (p:=⟨g,o+t,none⟩) R).trans this))
   have Y:Hid (∀w',Bl w w' ->w'.cell? ⟨b,U+j*5,none⟩=some (.slice pa M pc)/\ w'.cell? ⟨b,U+j*5+1,none⟩=some (.bool (((m+M:Nat):Int)%3==0))/\ w'.cell? ⟨b,U+j*5+2,none⟩=some (.int .i64 ((m+M+1:Nat):Int))/\ w'.cell? ⟨b,U+j*5+3,none⟩=some (.int .i64 ((m+M+2:Nat):Int))/\ w'.cell? ⟨b,U+j*5+4,none⟩=some (.string (mkT (m+M+3)))):=hid (fun w' hb'=>⟨(hb'.cell (p:=⟨b,_,none⟩) E).trans A,(hb'.cell (p:=⟨b,_,none⟩) E).trans v,(hb'.cell (p:=⟨b,_,none⟩) E).trans y,(hb'.cell (p:=⟨b,_,none⟩) E).trans z,(hb'.cell (p:=⟨b,_,none⟩) E).trans u⟩);clear P A v y z u r T;obtain⟨k,S⟩:=zE (m+M);rw [S] at G Y J;have Hg:k<=k0+j*1048580+1048576:=by omega
   obtain⟨A,v,y,z,u⟩:=Y wr O;have L:=hid (J wr O);clear S J;have dm:decide ((k:Int)<0)=false:=by simp
   go_wp2_with fail;refine L.mono ?_;rintro e w1 ⟨rfl,N⟩;have V:=hid (O.trans (N.mono O.size));clear A v y z u N L;obtain⟨A,v,y,z,u⟩:=Y w1 V;have B:((k+1:Nat):Int)=(k:Int)+1:=by omega
   have C:((k+2:Nat):Int)=(k:Int)+1+1:=by omega
   rw [B] at y;rw [C] at z;obtain⟨s,r⟩:=zE (mkT (k+3));rw [r] at u;have HT:Hid (∀w1,Cl 55 #[.int .i64 ((k:Int)+1+1+1)] w1 (Rt w1 (.string s))):=hid (fun w1=>by rw [<- r,show (k:Int)+1+1+1=((k+3:Nat):Int) by omega];exact QbO (k+3) w1 (by omega));have Hi:(s.toList==s.toList)=true:=by simp
   obtain⟨F,hF⟩:=zE (((k:Int)%3==0));have Hf:(F !=F)=false:=by simp
   have He:(F==F)=true:=by simp
   rw [hF] at v;clear r B C;have Hd:b<w1.heap.size:=Nat.lt_of_lt_of_le E V.size;go_wp2_with fail;have I:Hid (∀w',Bl w1 w' ->(Bl w1 w'/\ w'.cell? ⟨b,U+j*5+4,none⟩=some (.string s))):=hid (fun w' Q=>⟨Q,(Q.cell (p:=⟨b,_,none⟩) Hd).trans u⟩);refine zS I (fun qh=> ?_);refine tZ 0 52 ?_;refine tZ 1 53 ?_;refine tZ 2 54 ?_;refine tZ 3 55 ?_;refine tZ 4 56 ?_;refine tZ 5 57 ?_;refine cZ 6 ?_;intro K D;go_simp;refine(HT _).mono ?_;rintro e w2 ⟨rfl,X⟩;have Q:=Qaa qh.1 X;refine D.out _ _ (I _ Q) (fun qh=> ?_);clear D K;try simp only [zP]
   refine tZ 7 59 ?_;refine zD ?_;have HZ:=hid (V.trans (Q.mono V.size));have Ha:Hid (mP l k0 (j+1)=k+4):=G;clear qh Q X A v y z u Y I G;go_wp2_with fail;go_roundw;case rel=>exact⟨j+1,k+4,H,by go_num,by go_num,Ha,HZ⟩
   case measure=>simp [intOf];omega
  ·obtain rfl:j=l.length:=by omega
   go_wp2_with fail;go_ret;exact⟨by rw [Z.out];rfl,O⟩
structure SOw (w:World)(lo hi:Nat)(a x:Option Addr)(d:Nat)(S:Sx):Prop where
 lf:QbD w a S.l
 rn:Qa7 w x S.n S.R S.F S.T
 lv:S.l.length=0 \/∃b P Q G,a=some ⟨b,0,none⟩/\ LWy lo hi b S.l P G/\∀k0,LIn w w lo hi b S.l P Q G k0 0 0
 ro:S.n=0 \/∃g ys,x=some ⟨g,0,none⟩/\ g<hi/\ w.ownsRow lo 124 3 (.slice (some ⟨g,0,none⟩) S.n d) S.n ys
 hl:lo<=hi/\ hi<=w.heap.size
theorem LIn.zero {w:World}{P:Nat ->Option Addr}{Q G:Nat ->Nat}(hw:LWy lo hi b l P G)(h:LIn w w lo hi b l P Q G k0 0 0)(hq:∀q,lo<=q ->q<hi ->w'.heap[q]? =w.heap[q]?):LIn w' w' lo hi b l P Q G k0 0 0:=by
 obtain⟨C,r⟩:=h.wr;have j:=hq b hw.b1 hw.b2;refine⟨Btw.refl _ _ _,fun _ _ _=>rfl,⟨C,r.same j⟩,fun i hi=>(World.cell?_of_block (a:=⟨b,_,none⟩) j).trans (h.pth i hi),fun i h1 h2 h3=> ?_,fun i h1=>by omega,fun i h1=>by omega⟩;obtain⟨m,u,v⟩:=h.todo i h1 h2 h3;have k:=hw.g1 i h2 h3;exact⟨m,(hq _ k.2.2.1 k.2.2.2).trans u,v⟩
theorem Qgi (a:Option Addr)(c k0:Nat)(w:World):Cl 53 #[.slice a 0 c,.int .i64 (k0:Int)] w fun e w'=>e=.returned (.int .i64 (k0:Int))/\ w'=w:=by
 go_enter Tryz.func53,Tryz.ntmps53;go_wp2_with fail;refine wp_loop_rounds 1 ?_;rw [rounds_succ];go_wp2_with fail;go_ret;exact⟨rfl,rfl⟩
theorem SOw.markL {w:World}(h:SOw w lo hi a x d S)(hm:S.Sm)(k0:Nat)(hk:k0<=4000000000000):
  Cl 53 #[.slice a S.l.length c,.int .i64 (k0:Int)] w fun e w'=>e=.returned (.int .i64 (mP S.l k0 S.l.length:Int))/\ Btw lo hi w w'/\ (∀(q:Nat) (cur:Array Value),w.heap[q]? =some (Obj.cells cur 124 (0,0)) ->w'.heap[q]? =w.heap[q]?)/\ (∀w2:World,w'.heap.size<=w2.heap.size ->(∀q,lo<=q ->q<hi ->q<w'.heap.size ->(∀cur,w.heap[q]? ≠some (Obj.cells cur 124 (0,0))) ->w2.heap[q]? =w'.heap[q]?) ->QbD w2 a (mkL S.l k0)):=by
 rcases h.lv with k|⟨b,P,Q,G,rfl,m,r⟩
 ·rw [k];refine(Qgi a c k0 w).mono ?_;rintro e w' ⟨rfl,rfl⟩;exact⟨rfl,Btw.refl _ _ _,fun _ _ _=>rfl,fun w2 _ _=> .inl (by rw [QeC,k])⟩
 ·refine(Qgj lo hi b c k0 S.l P Q G w hk hm.l1 hm.p1 m (r k0)).mono ?_;rintro e w' ⟨rfl,j⟩;exact⟨rfl,j.low,j.run,fun w2 h1 h2=>j.seg m h1 h2⟩
structure SMk (w:World)(a x:Option Addr)(S:Sx)(k0:Nat):Prop where
 lf:QbD w a (mkL S.l k0)
 rn:Qa7 w x S.n (mk3 (mP S.l k0 S.l.length) 0) (mk3 (mP S.l k0 S.l.length) 1) (mk3 (mP S.l k0 S.l.length) 2)
def Qjm (w:World)(lo hi:Nat)(a x:Option Addr)(S:Sx)(k0:Nat):Prop:=∀w2:World,w.heap.size<=w2.heap.size ->(∀q,lo<=q ->q<hi ->w2.heap[q]? =w.heap[q]?) ->SMk w2 a x S k0
theorem Qjm.at {w:World}(h:Qjm w lo hi a x S k0):SMk w a x S k0:=h w zL (fun _ _ _=>rfl)
theorem Qjm.move {w:World}(h:Qjm w lo hi a x S k0)(hs:w.heap.size<=w1.heap.size)(hq:∀q,lo<=q ->q<hi ->w1.heap[q]? =w.heap[q]?):Qjm w1 lo hi a x S k0:=
 fun w2 h1 h2=>h w2 (Nat.le_trans hs h1) (fun q h3 h4=>(h2 q h3 h4).trans (hq q h3 h4))
theorem SMk.bw {w:World}(h:SMk w a x S k0)(hb:Bl w w'):SMk w' a x S k0:=⟨h.lf.bw hb,h.rn.bw hb⟩
def mE (S:Sx)(k0:Nat):Nat:=mP S.l k0 S.l.length+3*S.n
theorem QjK(hm:S.Sm)(k0:Nat):mE S k0<=k0+2000000000000/\ mP S.l k0 S.l.length<=k0+1500000000000:=by
 have j:=Qi5 (k0:=k0) hm.p1 S.l.length;have k:=hm.l1;have m:=hm.n1;unfold mE;omega
theorem Qeh{w:World}(h:SOw w lo hi a x d S)(hm:S.Sm)(k0:Nat)(hk:k0<=4000000000000):
  Cl 29 #[.agg #[.slice a S.l.length c,.slice x S.n d],.int .i64 (k0:Int)] w fun e w'=>e=.returned (.int .i64 (mE S k0:Int))/\ Btw lo hi w w'/\ Qjm w' lo hi a x S k0:=by
 obtain⟨W,i⟩:=zE (w.alloc (.cells #[.slice a S.l.length c,.slice x S.n d] 40));have v:Bl w W:=by rw [<- i];exact zO _ _
 have U:Bx2 W w.heap.size (.slice a S.l.length c) (.slice x S.n d):=by rw [<- i];exact Bx2.made _ _ _ _
 have H:SOw W lo hi a x d S:=⟨h.lf.bw v,h.rn.bw v,h.lv.imp id (fun⟨b,P,Q,G,e,hw,hI⟩=>⟨b,P,Q,G,e,hw,fun k0=>(hI k0).zero hw (fun q h1 h2=>v.block q (Nat.lt_of_lt_of_le h2 h.hl.2))⟩),h.ro.imp id (fun⟨g,O,e,s,o⟩=>⟨g,O,e,s,Qbc o v (fun k hk=>by simp [Value.ownBlock] at hk;subst hk;exact Nat.lt_of_lt_of_le s h.hl.2)⟩),h.hl.1,Nat.le_trans h.hl.2 v.size⟩;have L:=hid (H.markL (c:=c) hm k0 hk);have X:=hid H;obtain⟨Hg,Hh⟩:=U.q2;have HB:=hid (Btw.bw (lo:=lo) (hi:=hi) v);have R:=QjK hm k0;have V:=hid U;have HH:=hid h.hl;have t:Hid (mE S k0=mP S.l k0 S.l.length+3*S.n):=hid rfl;obtain⟨E,D⟩:=zE (mE S k0);rw [D] at t R ⊢;clear h v U H D;go_enter Tryz.func29,Tryz.ntmps29;go_wp2_with fail;try rw [i]
 clear i;refine L.mono ?_;rintro e w1 ⟨rfl,M,J,A⟩;have C:=M.block w.heap.size V.lt (.inr HH.2);have r1:=(World.cell?_of_block (a:=⟨w.heap.size,1,none⟩) C).trans V.c1;have Hd:=hid M;have Hi:=hid J;have Hj:=hid A;obtain⟨m,I⟩:=zE (mP S.l k0 S.l.length);have Hc:=hid I;rw [I] at t R ⊢;have N:Hid (Cl 54 #[.agg #[.slice x S.n d],.int .i64 (m:Int)] w1 fun e w'=>e=.returned (.int .i64 (E:Int))/\ Btw lo hi w1 w'/\∀j:World,w'.heap.size<=j.heap.size ->(∀q,lo<=q ->q<hi ->j.heap[q]? =w'.heap[q]?) ->Qa7 j x S.n (mk3 m 0) (mk3 m 1) (mk3 m 2)/\ QbD j a (mkL S.l k0)):=hid (by
  rcases X.ro with h0|⟨g,O,rfl,s,o⟩
  ·rw [h0] at t ⊢;refine(Qfv x d m w1 (by omega)).mono ?_;rintro e w' ⟨rfl,b'⟩;refine⟨by rw [t.out];simp,Btw.bw b',fun j g1 g2=>⟨.inl rfl,A j (Nat.le_trans b'.size g1) (fun q h1 h2 h3 _=>(g2 q h1 h2).trans (b'.block q h3))⟩⟩
  ·have hb:=o.2;have He:=o.lt g rfl;have Hf:w1.ownsRow lo 124 3 (.slice (some ⟨g,0,none⟩) S.n d) S.n O:=by
    obtain⟨q1,z⟩:=o;refine⟨q1,?_⟩;rcases z with ⟨z,_⟩|⟨Z,B,u,e,F,p,r⟩
    ·cases z
    ·exact .inr ⟨Z,B,u,e,F,(J Z u p).trans p,r⟩
   have Ha:∃u,W.heap[g]? =some (Obj.cells u 124 (0,0)):=by
    rcases hb with ⟨z,_⟩|⟨Z,B,u,e,F,p,r⟩
    ·cases z
    ·injection e with e _ _;injection e with e;injection e with e _ _;subst e;exact⟨u,p⟩
   refine(Qd6 lo g S.n d m O w1 (by have:=M.size;have:=X.hl;omega) (by omega) (by have:=hm.n1;omega) Hf).mono ?_;rintro e w' ⟨rfl,Y,rs,z',T⟩;refine⟨by rw [t.out],⟨Y.os,Y.tape,Y.output,z',fun q h1 h2=>T q h1 (by omega)⟩,fun j g1 g2=>⟨rs.same g1 (fun y hy=>by have:=Option.some.inj hy;rw [<- this];exact g2 g He.1 s),A j (Nat.le_trans z' g1) (fun q h1 h2 h3 h4=>(g2 q h1 h2).trans (T q h3 (fun e=> ?_)))⟩⟩;rw [e] at h4;obtain⟨u,hc⟩:=Ha;exact h4 u hc)
 clear M J A I L Hg Hh C V;go_wp2_with fail;refine N.mono ?_;rintro e j ⟨rfl,t2,K⟩;have Hb:=hid ((HB.trans Hd).trans t2);have HK:Hid (Qjm j lo hi a x S k0):=hid (fun w3 g1 g2=>⟨(K w3 g1 g2).2,by rw [Hc.out];exact(K w3 g1 g2).1⟩);clear t2 K N r1;go_wp2_with fail;go_ret;exact⟨rfl,Hb,HK⟩
theorem Qeb{w:World}(hm:S.Sm)(k0:Nat)(hk:k0<=4000000000000)(h:SMk w a x S k0):
  Cl 31 #[.agg #[.slice a S.l.length c,.slice x S.n d],.int .i64 (k0:Int)] w (Rt w (.int .i64 (mE S k0:Int))):=by
 obtain⟨W,k⟩:=zE (w.alloc (.cells #[.slice a S.l.length c,.slice x S.n d] 40));have z:Bl w W:=by rw [<- k];exact zO _ _
 have q:Bx2 W w.heap.size (.slice a S.l.length c) (.slice x S.n d):=by rw [<- k];exact Bx2.made _ _ _ _
 have t:=h.bw z;have u:=hid (QfW a c k0 S.l W hk hm.l1 hm.p1 t.lf);have v:=hid t.rn;obtain⟨O,Q⟩:=q.q2;have s:=hid z;have p:=QjK hm k0;have Y:=hm.n1;have y:=hid q;have i:Hid (mE S k0=mP S.l k0 S.l.length+3*S.n):=hid rfl;obtain⟨E,g⟩:=zE (mE S k0);obtain⟨m,o⟩:=zE (mP S.l k0 S.l.length);rw [g,o] at i;rw [g] at p ⊢;rw [o] at p u v;clear h z q t g o;have V:decide ((m:Int)<0)=false:=by simp
 have U:decide ((E:Int)<0)=false:=by simp
 go_enter Tryz.func31,Tryz.ntmps31;go_wp2_with fail;try rw [k]
 clear k;refine u.mono ?_;rintro e w1 ⟨rfl,j⟩;have r1:=(y.bw j y.lt).c1;have r:=hid (QfV x S.n d m w1 (by omega) (by omega) (v.bw j));rw [<- i.out] at r;have A:=hid (Qaa s j);clear j u O Q y v;go_wp2_with fail;refine r.mono ?_;rintro e Z ⟨rfl,b⟩;have M:=hid (Qaa A b);clear b r r1;go_wp2_with fail;go_ret;exact⟨rfl,M⟩
open Go.Deep
theorem QbR {w:World}{B g size:Nat}{e:TypeId}{C:Nat ->Value}(h:w.ownsRow B e size (.slice (some ⟨g,0,none⟩) n cap) n ((List.range (n*size)).map C)):Wr w g e (n*size) C:=by
 rcases h.2 with ⟨y,_⟩|⟨v,t,m,z,p,r,o,i,b,q⟩
 ·cases y
 ·have u:g=v:=by injection z with k _ _;exact congrArg Addr.block (Option.some.inj k)
  rw [<- u] at r;refine⟨m,r,?_,fun j hj=> ?_⟩
  ·have:=congrArg List.length q;simp at this;omega
  ·have k:(m.toList.take (n*size))[j]? =((List.range (n*size)).map C)[j]? :=by rw [q]
   rw [List.getElem?_take_of_lt hj] at k;rw [<- Array.getElem?_toList,k];simp [List.getElem?_range hj]
theorem Qdg (t e:TypeId)(i:TypeInfo)(z:Value)(size bytes:Nat)(ht:Tryz.prog.underlying t=some (.slice e))(hi:Tryz.prog.info? e=some i)(hz:i.zero=some z)(hsize:i.size=size)(hby:i.bytes=bytes)(hzs:z.cells.size=size)(hsz:0<size)(hb2:bytes<=64)(q g off m c:Nat)(C:Nat ->Value)(w:World)(B:Nat)(hm:m<=1048576)(ho:w.ownsRow B e size (.slice (some ⟨q,0,none⟩) 0 0) 0 [])(hB:B<=w.heap.size)(hC:∀j,j<m*size ->w.cell? ⟨g,off+j,none⟩=some (C j))(h1:∀j,j<m*size ->(C j).oneCell'=true):
  ∃v o w',(Builtin.append_ #[t,t] t #[.slice (some ⟨q,0,none⟩) 0 0,.slice (some ⟨g,off,none⟩) m c]).run Tryz.prog w=.ok (.slice (some ⟨v,0,none⟩) m o) w'/\ w'.ownsRow B e size (.slice (some ⟨v,0,none⟩) m o) m ((List.range (m*size)).map C)/\ w.grownBy w' (some q)/\ (v=q \/v=w.heap.size):=by
 obtain⟨v',w',M,p,A,E,y⟩:=run_append_own_at (P:=Tryz.prog) w B t t e i z size bytes ht hi hz hsize hby hzs hsz (.slice (some ⟨q,0,none⟩) 0 0) 0 [] ho ⟨g,off,none⟩ m c ((List.range (m*size)).map C) (by simp) (fun j u b=>by
  simp only [List.getElem?_map,Option.map_eq_some_iff] at b;obtain⟨q,k,rfl⟩:=b;have s:j<m*size:=by
   rcases Nat.lt_or_ge j (m*size) with h|h
   ·exact h
   ·rw [List.getElem?_eq_none (by simpa using h)] at k;cases k
  rw [List.getElem?_range s] at k;have k:=Option.some.inj k;rw [<- k,Qbf];exact hC j s) (fun u hu=>by
  obtain⟨j,b,rfl⟩:=List.mem_map.1 hu;exact h1 j (by simpa using b)) (by unfold maxLen;omega) (by
   have:m*bytes<=1048576*64:=Nat.mul_le_mul hm hb2;rw [Nat.zero_add];omega) hB
 rw [Nat.zero_add,List.nil_append] at p;rcases p.2 with ⟨O,_⟩|⟨v,o,Q,rfl,r⟩
 ·have:=E.1 O;exact absurd this.1 (by simp)
 ·refine⟨v,o,w',M,p,A,?_⟩;rcases y with y|y
  ·exact .inl (by simpa [Value.ownBlock] using y)
  ·exact .inr (by simpa [Value.ownBlock] using y)
theorem Ql4 (g off m c:Nat)(p:List ByteArray)(w:World)(hp:p.length=m)(hm:m<=1048576)(hg:g<w.heap.size)(h:∀t,t<m ->w.cell? ⟨g,off+t,none⟩=some (.string (gS p t))):
  Cl 92 #[.slice (some ⟨g,off,none⟩) m c] w fun e w'=>∃q u,e=.returned (.slice (some ⟨q,0,none⟩) m u)/\ Bl w w'/\ w.heap.size<=q/\ q<w'.heap.size/\ Wr w' q 9 m (fun t=> .string (gS p t)):=by
 obtain⟨U,hi,M,O,Q⟩:=info_parts QcO;have r:Bl w (w.alloc (.cells #[] 9)):=zO _ _;have i:(w.alloc (.cells #[] 9)).ownsRow w.heap.size 9 1 (.slice (some ⟨w.heap.size,0,none⟩) 0 0) 0 []:=by
  have:=World.ownsRow_lit (base:=w.heap.size) (e:=9) (size:=1) w #[] 0 zL (by unfold maxLen;omega) rfl;simpa using this
 obtain⟨q,u,w',z,s,o,b⟩:=Qdg 30 9 U _ 1 16 Tryz.underlying30 hi M O Q rfl (by decide) (by omega) w.heap.size g off m c (fun t=> .string (gS p t)) (w.alloc (.cells #[] 9)) w.heap.size hm i (by simp) (fun j hj=>(r.cell (p:=⟨g,off+j,none⟩) hg).trans (h j (by omega))) (fun _ _=>rfl);have v:=QbR s;rw [Nat.mul_one] at v;have A:Hid (Bl w w'):=hid (r.grown o r.size (fun k e=>by injection e with e;omega));have y:=hid v;have E:Hid (w.heap.size<=q):=hid (by rcases b with e|e<;>rw [e];exact Nat.le_refl _;simp);clear s o b v h i r;go_enter Tryz.func92,Tryz.ntmps92;go_wp2_with (at_builtin;refine Qab rfl _ _ _ _ rfl z (by rfl) (by rfl) rfl ?_;clear z);go_ret;exact⟨q,u,rfl,A,E,y.lt,y⟩
theorem Ql2 (g m c:Nat)(y:Lf)(w:World)(hp:y.p.length=m)(hm:m<=1048576)(hg:g<w.heap.size)(h:∀t,t<m ->w.cell? ⟨g,t,none⟩=some (.string (gS y.p t))):
  Cl 60 #[.agg #[.slice (some ⟨g,0,none⟩) m c,.bool y.fl,.int .i64 y.r,.int .i64 y.q,.string y.v]] w fun e w'=>∃q z,e=.returned (.agg #[.slice (some ⟨q,0,none⟩) m z,.bool y.fl,.int .i64 y.r,.int .i64 y.q,.string y.v])/\ Bl w w'/\ w.heap.size<=q/\ q<w'.heap.size/\ Wr w' q 9 m (fun t=> .string (gS y.p t)):=by
 obtain⟨W,j⟩:=zE ((w.alloc (.cells #[.slice (some ⟨g,0,none⟩) m c,.bool y.fl,.int .i64 y.r,.int .i64 y.q,.string y.v] 106)).alloc (.cells #[.slice none 0 0,.bool false,.int .i64 0,.int .i64 0,.string ⟨#[]⟩] 106));have k:Bl w W:=by rw [<- j];exact Qae _ _ _
 have o:Bx5 W w.heap.size (.slice (some ⟨g,0,none⟩) m c) (.bool y.fl) (.int .i64 y.r) (.int .i64 y.q) (.string y.v):=by rw [<- j];exact(Bx5.new _ _ _ _ _ _ _).up _
 have i:Bx5 W (w.heap.size+1) (.slice none 0 0) (.bool false) (.int .i64 0) (.int .i64 0) (.string ⟨#[]⟩):=by
  rw [<- j];have:=Bx5.new (w.alloc (.cells #[.slice (some ⟨g,0,none⟩) m c,.bool y.fl,.int .i64 y.r,.int .i64 y.q,.string y.v] 106)) (.slice none 0 0) (.bool false) (.int .i64 0) (.int .i64 0) (.string ⟨#[]⟩) 106;simpa using this
 have A:=hid (Ql4 g 0 m c y.p W hp hm (Nat.lt_of_lt_of_le hg k.size) (fun t ht=>by rw [Nat.zero_add];exact(k.cell (p:=⟨g,t,none⟩) hg).trans (h t ht)));have k0:=o.c0;have s:=hid o;have E:=hid i;have V:=hid k;have P:w.heap.size+1<W.heap.size:=i.lt;clear k o i h;go_enter Tryz.func60,Tryz.ntmps60;go_wp2_with fail;try rw [j]
 clear j;refine A.mono ?_;rintro e w1 ⟨q,z,rfl,u,O,Q,U⟩;have b:=s.bw u s.lt;have M:=E.bw u E.lt;obtain⟨L,N,X,B,C,D⟩:=b.p5;obtain⟨I,r1,r2,J,K,F⟩:=M.p5;have G:=hid U;have Y:=hid (Qaa V u);have Z:Hid (W.heap.size<=q/\ q<w1.heap.size):=hid ⟨O,Q⟩;clear k0 A U O Q u b M;go_wp2_with fail;have H:=Z.out;refine zF (v:=.agg #[.slice (some ⟨q,0,none⟩) m z,.bool y.fl,.int .i64 y.r,.int .i64 y.q,.string y.v]) (by simp [results,Tryz.results60,go_sem,I,r1,r2,J,K]) ⟨q,z,rfl,?_,by omega,?_,?_⟩
 ·repeat (refine Below.setCell ?_ (by simp) _)
  exact Y
 ·simp [World.setCell];exact H.2
 ·repeat (refine Wr.same (w:=_) ?_ (zH _ _ _ _ (by simp;omega)))
  exact G
def lCp (l:List Lf)(P Q:Nat ->Nat)(j:Nat):Value:=
 if j%5=0 then .slice (some ⟨P (j/5),0,none⟩) (gL l (j/5)).p.length (Q (j/5)) else if j%5=1 then .bool (gL l (j/5)).fl else if j%5=2 then .int .i64 (gL l (j/5)).r else if j%5=3 then .int .i64 (gL l (j/5)).q else .string (gL l (j/5)).v
theorem QnH (l:List Lf)(P Q:Nat ->Nat)(i:Nat):lCp l P Q (i*5)=.slice (some ⟨P i,0,none⟩) (gL l i).p.length (Q i)/\ lCp l P Q (i*5+1)=.bool (gL l i).fl/\ lCp l P Q (i*5+2)=.int .i64 (gL l i).r/\ lCp l P Q (i*5+3)=.int .i64 (gL l i).q/\ lCp l P Q (i*5+4)=.string (gL l i).v:=by
 unfold lCp;refine⟨?_,?_,?_,?_,?_⟩
 ·rw [if_pos (by omega),show i*5/5=i by omega]
 ·rw [if_neg (by omega),if_pos (by omega),show (i*5+1)/5=i by omega]
 ·rw [if_neg (by omega),if_neg (by omega),if_pos (by omega),show (i*5+2)/5=i by omega]
 ·rw [if_neg (by omega),if_neg (by omega),if_neg (by omega),if_pos (by omega),show (i*5+3)/5=i by omega]
 ·rw [if_neg (by omega),if_neg (by omega),if_neg (by omega),if_neg (by omega),show (i*5+4)/5=i by omega]
theorem QgS (l:List Lf)(P Q:Nat ->Nat)(k p q:Nat):(List.range ((k+1)*5)).map (lCp l (fun i=>if i=k then p else P i) (fun i=>if i=k then q else Q i))=(List.range (k*5)).map (lCp l P Q)++[.slice (some ⟨p,0,none⟩) (gL l k).p.length q,.bool (gL l k).fl,.int .i64 (gL l k).r,.int .i64 (gL l k).q,.string (gL l k).v]:=by
 rw [show (k+1)*5=k*5+1+1+1+1+1 by omega];simp only [List.range_succ,List.map_append,List.map_cons,List.map_nil,List.append_assoc,List.cons_append,List.nil_append];obtain⟨m,u,y,z,h⟩:=QnH l (fun i=>if i=k then p else P i) (fun i=>if i=k then q else Q i) k;rw [m,u,y,z,h];simp only [if_pos];congr 1;refine List.map_congr_left fun j hj=> ?_;have t:j<k*5:=by simpa using hj
 unfold lCp;have g:j/5≠k:=by omega
 simp only [if_neg g]
theorem Qb5 (w:World)(v0 v1 v2 v3 v4:Value)(t:TypeId):∀j u,[v0,v1,v2,v3,v4][j]? =some u ->(w.alloc (.cells #[v0,v1,v2,v3,v4] t)).cell? ((⟨w.heap.size,0,none⟩:Addr).add j)=some u:=by
 intro j u k;have m:=Bx5.new w v0 v1 v2 v3 v4 t;rw [Qbf,Nat.zero_add];match j,k with
 | 0,k=>rw [m.c0];simpa using k
 | 1,k=>rw [m.c1];simpa using k
 | 2,k=>rw [m.c2];simpa using k
 | 3,k=>rw [m.c3];simpa using k
 | 4,k=>rw [m.c4];simpa using k
 | j+5,k=>simp at k
structure LC (w:World)(lo:Nat)(v:Value)(l:List Lf)(P Q:Nat ->Nat):Prop where
 row:w.ownsRow lo 106 5 v l.length ((List.range (l.length*5)).map (lCp l P Q))
 pt:∀i,i<l.length ->lo<=P i/\ P i<w.heap.size/\ some (P i)≠v.ownBlock/\ Wr w (P i) 9 (gL l i).p.length (fun t=> .string (gS (gL l i).p t))/\ (gL l i).p.length<=Q i/\ Q i<=9223372036854775807
def Sep (P:Nat ->Nat)(n:Nat):Prop:=∀i j,i<n ->j<n ->i≠j ->P i≠P j
def LB (w:World)(lo:Nat)(v:Value)(l:List Lf):Prop:=∃P Q,LC w lo v l P Q/\ Sep P l.length
section
variable {w w' : World} {lo : Nat} {v : Value} {l : List Lf} {P Q : Nat -> Nat}
theorem LC.nil (w:World)(lo:Nat)(P Q:Nat ->Nat):LC w lo (.slice none 0 0) [] P Q:=⟨⟨rfl,.inl ⟨rfl,rfl⟩⟩,fun i hi=>by simp at hi⟩
theorem LC.move (h:LC w lo v l P Q)(hz:w.heap.size<=w'.heap.size)(hs:∀q,lo<=q ->q<w.heap.size ->w'.heap[q]? =w.heap[q]?):LC w' lo v l P Q:=
 ⟨Qa6 h.row (fun g hg=>hs g (h.row.lt g hg).1 (h.row.lt g hg).2),fun i hi=>by
  obtain⟨j,k,r,m⟩:=h.pt i hi;exact⟨j,Nat.lt_of_lt_of_le k hz,r,m.1.same (hs _ j k),m.2⟩⟩
theorem LC.bw (h:LC w lo v l P Q)(hb:Bl w w'):LC w' lo v l P Q:=h.move hb.size (fun q _ h2=>hb.block q h2)
theorem LB.move (h:LB w lo v l)(hz:w.heap.size<=w'.heap.size)(hs:∀q,lo<=q ->q<w.heap.size ->w'.heap[q]? =w.heap[q]?):LB w' lo v l:=by
 obtain⟨P,Q,j,k⟩:=h;exact⟨P,Q,j.move hz hs,k⟩
theorem LB.bw (h:LB w lo v l)(hb:Bl w w'):LB w' lo v l:=h.move hb.size (fun q _ h2=>hb.block q h2)
theorem LB.lt (h:LB w lo v l):∀g,v.ownBlock=some g ->lo<=g/\ g<w.heap.size:=by
 obtain⟨P,Q,j,k⟩:=h;exact fun g hg=>j.row.lt g hg
theorem LB.nil (w:World)(lo:Nat):LB w lo (.slice none 0 0) []:=⟨fun _=>0,fun _=>0,LC.nil w lo _ _,fun i j hi=>by simp at hi⟩
end
theorem LB.form {w:World}(h:LB w lo v l):∃a c,v=.slice a l.length c:=by
 obtain⟨P,Q,m,_⟩:=h;rcases m.row.2 with ⟨e,k⟩|⟨g,j,q,e,_⟩
 ·exact⟨none,0,by rw [e,k]⟩
 ·exact⟨_,j,e⟩
theorem Qik (l:List Lf)(y:Lf)(hi:i<l.length):gL (l++[y]) i=gL l i:=by simp [gL,List.getD,List.getElem?_append_left hi]
theorem Qij (l:List Lf)(y:Lf):gL (l++[y]) l.length=y:=by simp [gL,List.getD]
theorem Ql9 (l:List Lf)(y:Lf)(P Q:Nat ->Nat)(p q:Nat):(List.range ((l.length+1)*5)).map (lCp (l++[y]) (fun i=>if i=l.length then p else P i) (fun i=>if i=l.length then q else Q i))=(List.range (l.length*5)).map (lCp l P Q)++[.slice (some ⟨p,0,none⟩) y.p.length q,.bool y.fl,.int .i64 y.r,.int .i64 y.q,.string y.v]:=by
 rw [QgS,Qij];congr 1;refine List.map_congr_left fun j hj=> ?_;have k:j<l.length*5:=by simpa using hj
 unfold lCp;rw [Qik l y (show j/5<l.length by omega)]
theorem LC.app {w:World}{P Q:Nat ->Nat}(h:LC w lo v l P Q)(hb:Bl w w1)(hlo:lo<=w.heap.size)(hk:l.length<=1048576)(y:Lf)(p pc:Nat)(hp1:lo<=p)(hp2:p<w1.heap.size)(hp3:some p≠v.ownBlock)(hw:Wr w1 p 9 y.p.length (fun t=> .string (gS y.p t)))(hpc:y.p.length<=pc/\ pc<=9223372036854775807):
  ∃j k z,(Builtin.append_ #[35,35] 35 #[v,.slice (some ⟨w1.heap.size,0,none⟩) 1 1]).run Tryz.prog (w1.alloc (.cells #[.slice (some ⟨p,0,none⟩) y.p.length pc,.bool y.fl,.int .i64 y.r,.int .i64 y.q,.string y.v] 106))=.ok (.slice (some ⟨j,0,none⟩) (l.length+1) k) z/\
   LC z lo (.slice (some ⟨j,0,none⟩) (l.length+1) k) (l++[y]) (fun i=>if i=l.length then p else P i) (fun i=>if i=l.length then pc else Q i)/\ Gr w1 z v (.slice (some ⟨j,0,none⟩) (l.length+1) k):=by
 obtain⟨D,hi,X,B,C⟩:=info_parts QbY;have N:=h.bw hb;have s:Bl w1 (w1.alloc (.cells #[.slice (some ⟨p,0,none⟩) y.p.length pc,.bool y.fl,.int .i64 y.r,.int .i64 y.q,.string y.v] 106)):=zO _ _;have M:=N.bw s;have J:=hw.same (s.block p hp2);have Y:=Qb5 w1 (.slice (some ⟨p,0,none⟩) y.p.length pc) (.bool y.fl) (.int .i64 y.r) (.int .i64 y.q) (.string y.v) 106;obtain⟨o,V⟩:=zE (w1.alloc (.cells #[.slice (some ⟨p,0,none⟩) y.p.length pc,.bool y.fl,.int .i64 y.r,.int .i64 y.q,.string y.v] 106));rw [V] at M J Y s ⊢;have hz:o.heap.size=w1.heap.size+1:=by rw [<- V];simp
 have W:=hb.size;obtain⟨v',z,H,E,A,R,m⟩:=run_append_own_at (P:=Tryz.prog) o lo 35 35 106 D _ 5 64 Tryz.underlying35 hi X B C rfl (by decide) v l.length _ M.row ⟨w1.heap.size,0,none⟩ 1 1 [.slice (some ⟨p,0,none⟩) y.p.length pc,.bool y.fl,.int .i64 y.r,.int .i64 y.q,.string y.v] rfl Y (fun u hu=>by
  simp only [List.mem_cons,List.not_mem_nil,or_false] at hu;rcases hu with e|e|e|e|e<;>rw [e]<;>rfl) (by unfold maxLen;omega) (by omega) (by omega)
 rcases E.2 with ⟨I,S⟩|⟨j,k,F,I,r⟩
 ·omega
 rw [I] at H E m;have G:some j=v.ownBlock \/j=o.heap.size:=by
  rcases m with m|m
  ·exact .inl (by simpa [Value.ownBlock] using m)
  ·exact .inr (by simpa [Value.ownBlock] using m)
 have T:=A.size;have L:Gr w1 z v (.slice (some ⟨j,0,none⟩) (l.length+1) k):=by
  refine(Gr.of_below (b:=v) s).trans ⟨A,?_⟩;rcases G with e|e
  ·exact .inl e
  ·exact .inr ⟨j,rfl,by omega⟩
 refine⟨j,k,z,H,⟨?_,fun i hi=> ?_⟩,L⟩
 ·rw [List.length_append,List.length_singleton,Ql9];exact E
 ·have Z:∀b,some b≠v.ownBlock ->b<o.heap.size ->some b≠(Value.slice (some ⟨j,0,none⟩) (l.length+1) k).ownBlock:=fun b hb1 hb2 e=>by
   have e:b=j:=by simpa [Value.ownBlock] using e
   rcases G with g|g
   ·exact hb1 (by rw [e];exact g)
   ·omega
  by_cases e:i=l.length
  ·subst e;simp only [if_pos];rw [Qij];exact⟨hp1,by omega,Z p hp3 (by omega),J.same (A.block p (by omega) hp3),hpc⟩
  ·have hi':i<l.length:=by simp at hi;omega
   simp only [if_neg e];rw [Qik l y hi'];obtain⟨K,g,O,U⟩:=M.pt i hi';exact⟨K,by omega,Z _ O g,U.1.same (A.block _ g O),U.2⟩
theorem Sep.app {P:Nat ->Nat}{p:Nat}(h:Sep P n)(hp:∀i,i<n ->P i≠p):Sep (fun i=>if i=n then p else P i) (n+1):=by
 intro i j hi q m;dsimp only;by_cases e:i=n
 ·rw [if_pos e,if_neg (by omega)];exact fun k=>hp j (by omega) k.symm
 ·rw [if_neg e];by_cases k:j=n
  ·rw [if_pos k];exact hp i (by omega)
  ·rw [if_neg k];exact h i j (by omega) (by omega) m
theorem LB.app {w:World}(h:LB w lo v l)(hb:Bl w w1)(hlo:lo<=w.heap.size)(hk:l.length<=1048576)(y:Lf)(p pc:Nat)(hp1:w.heap.size<=p)(hp2:p<w1.heap.size)(hw:Wr w1 p 9 y.p.length (fun t=> .string (gS y.p t)))(hpc:y.p.length<=pc/\ pc<=9223372036854775807):
  ∃k j m,(Builtin.append_ #[35,35] 35 #[v,.slice (some ⟨w1.heap.size,0,none⟩) 1 1]).run Tryz.prog (w1.alloc (.cells #[.slice (some ⟨p,0,none⟩) y.p.length pc,.bool y.fl,.int .i64 y.r,.int .i64 y.q,.string y.v] 106))=.ok (.slice (some ⟨k,0,none⟩) (l.length+1) j) m/\
   LB m lo (.slice (some ⟨k,0,none⟩) (l.length+1) j) (l++[y])/\ Gr w1 m v (.slice (some ⟨k,0,none⟩) (l.length+1) j):=by
 obtain⟨P,Q,u,b⟩:=h;obtain⟨k,j,m,z,g,o⟩:=u.app hb hlo hk y p pc (by omega) hp2 (fun e=>by have:=(u.row.lt p e.symm).2;omega) hw hpc;exact⟨k,j,m,z,⟨_,_,g,by rw [List.length_append,List.length_singleton];exact b.app (fun i hi=>by have:=(u.pt i hi).2.1;omega)⟩,o⟩
def Qg8 (w:World)(vw:Value)(p:List ByteArray):Prop:=(vw=.slice none 0 0/\ p=[]) \/∃g c,vw=.slice (some ⟨g,0,none⟩) p.length c/\ g<w.heap.size/\∀t,t<p.length ->w.cell? ⟨g,t,none⟩=some (.string (gS p t))
theorem Qg8.move {w:World}(h:Qg8 w vw p)(hz:w.heap.size<=w'.heap.size)(hs:∀g,vw.ownBlock=some g ->w'.heap[g]? =w.heap[g]?):Qg8 w' vw p:=by
 rcases h with h|⟨g,c,rfl,k,j⟩
 ·exact .inl h
 ·exact .inr ⟨g,c,rfl,by omega,fun t ht=>(World.cell?_of_block (a:=⟨g,t,none⟩) (hs g rfl)).trans (j t ht)⟩
theorem Qg8.lt {w:World}(h:Qg8 w vw p):∀g,vw.ownBlock=some g ->g<w.heap.size:=by
 rcases h with ⟨rfl,_⟩|⟨g,c,rfl,k,m⟩
 ·intro g e;cases e
 ·intro j e;have e:g=j:=by simpa [Value.ownBlock] using e
  omega
theorem Qg8.bw {w:World}(h:Qg8 w vw p)(hb:Bl w w'):Qg8 w' vw p:=h.move hb.size (fun g hg=>hb.block g (h.lt g hg))
def QcH (p:List ByteArray):List Value:=(List.range (p.length*1)).map fun t=> .string (gS p t)
theorem Qm9 (p:List ByteArray)(s:ByteArray)(hi:i<p.length):gS (p++[s]) i=gS p i:=by simp [gS,List.getD,List.getElem?_append_left hi]
theorem Qm8 (p:List ByteArray)(s:ByteArray):gS (p++[s]) p.length=s:=by simp [gS,List.getD]
theorem QiM (p:List ByteArray)(s:ByteArray):QcH (p++[s])=QcH p++[.string s]:=by
 unfold QcH;rw [Nat.mul_one,Nat.mul_one,List.length_append,List.length_singleton,List.range_succ,List.map_append,List.map_singleton,Qm8];congr 1;refine List.map_congr_left fun j hj=> ?_;rw [Qm9 p s (by simpa using hj)]
theorem QhT (g m c:Nat)(p:List ByteArray)(w:World)(hp:p.length=m)(hm:m<=1048576)(hg:g<w.heap.size)(h:∀t,t<m ->w.cell? ⟨g,t,none⟩=some (.string (gS p t))):
  Cl 168 #[.slice (some ⟨g,0,none⟩) m c] w fun e w'=>∃q r,e=.returned (.slice (some ⟨q,0,none⟩) m r)/\ Bl w w'/\ w'.ownsRow w.heap.size 9 1 (.slice (some ⟨q,0,none⟩) m r) m (QcH p):=by
 obtain⟨O,hi,A,E,M⟩:=info_parts QcO;have u:Bl w (w.alloc (.cells #[] 9)):=zO _ _;have z:(w.alloc (.cells #[] 9)).ownsRow w.heap.size 9 1 (.slice (some ⟨w.heap.size,0,none⟩) 0 0) 0 []:=by
  have:=World.ownsRow_lit (base:=w.heap.size) (e:=9) (size:=1) w #[] 0 zL (by unfold maxLen;omega) rfl;simpa using this
 obtain⟨q,r,w',v,o,y,s⟩:=Qdg 30 9 O _ 1 16 Tryz.underlying30 hi A E M rfl (by decide) (by omega) w.heap.size g 0 m c (fun t=> .string (gS p t)) (w.alloc (.cells #[] 9)) w.heap.size hm z (by simp) (fun j hj=>by rw [Nat.zero_add];exact(u.cell (p:=⟨g,j,none⟩) hg).trans (h j (by omega))) (fun _ _=>rfl);have i:Hid (Bl w w'):=hid (u.grown y u.size (fun k e=>by injection e with e;omega));have b:Hid (w'.ownsRow w.heap.size 9 1 (.slice (some ⟨q,0,none⟩) m r) m (QcH p)):=hid (by unfold QcH;rw [hp];exact o);have Q:∀w:World,(binOp .eql 30 (.slice (some ⟨g,0,none⟩) m c) (.slice none 0 0)).run Tryz.prog w=.ok (.bool false) w:=fun _=>rfl;clear o y s h z u;go_enter Tryz.func168,Tryz.ntmps168;go_wp2_with (at_builtin;refine Qab rfl _ _ _ _ rfl v (by rfl) (by rfl) rfl ?_;clear v);go_ret;exact⟨q,r,rfl,i,b⟩
theorem Qmu (w:World):Cl 168 #[.slice none 0 0] w fun e w'=>e=.returned (.slice none 0 0)/\ w'=w:=by
 have j:∀w:World,(binOp .eql 30 (.slice none 0 0) (.slice none 0 0)).run Tryz.prog w=.ok (.bool true) w:=fun _=>rfl;go_enter Tryz.func168,Tryz.ntmps168;go_wp2_with fail;go_ret;exact⟨rfl,rfl⟩
theorem Qmv (vw:Value)(p:List ByteArray)(w:World)(hp:p.length<=1048576)(h:Qg8 w vw p):
  Cl 168 #[vw] w fun e w'=>∃v,e=.returned v/\ Bl w w'/\ w'.ownsRow w.heap.size 9 1 v p.length (QcH p):=by
 rcases h with ⟨rfl,rfl⟩|⟨g,c,rfl,j,k⟩
 ·refine(Qmu w).mono ?_;rintro e w' ⟨rfl,rfl⟩;exact⟨_,rfl,zI,⟨rfl,.inl ⟨rfl,rfl⟩⟩⟩
 ·refine(QhT g p.length c p w rfl hp j k).mono ?_;rintro e w' ⟨q,u,rfl,m,r⟩;exact⟨_,rfl,m,r⟩
theorem QlI {w:World}(h:w.ownsRow lo 9 1 v p.length (QcH p))(hlo:lo<=w.heap.size)(hp:p.length<=1048576)(s:ByteArray)(b:Nat)(hb:w.cell? ⟨b,0,none⟩=some (.string s)):
  ∃q cap k,(Builtin.append_ #[30,30] 30 #[v,.slice (some ⟨b,0,none⟩) 1 1]).run Tryz.prog w=.ok (.slice (some ⟨q,0,none⟩) (p.length+1) cap) k/\ k.ownsRow lo 9 1 (.slice (some ⟨q,0,none⟩) (p.length+1) cap) (p.length+1) (QcH (p++[s]))/\ w.grownBy k v.ownBlock/\ lo<=q/\ (v.ownBlock=some q \/q=w.heap.size):=by
 obtain⟨O,hi,A,E,M⟩:=info_parts QcO;obtain⟨v',k,z,m,i,U,y⟩:=run_append_own_at (P:=Tryz.prog) w lo 30 30 9 O _ 1 16 Tryz.underlying30 hi A E M rfl (by decide) v p.length _ h ⟨b,0,none⟩ 1 1 [.string s] rfl (fun j u hj=>by
  match j,hj with
  | 0,hj=>simp at hj;rw [<- hj,Qbf];exact hb
  | j+1,hj=>simp at hj) (fun u hu=>by
  simp only [List.mem_cons,List.not_mem_nil,or_false] at hu;rw [hu];rfl) (by unfold maxLen;omega) (by omega) (by omega)
 rcases m.2 with ⟨g,V⟩|⟨t,o,Q,g,r⟩
 ·omega
 rw [g] at z m y;exact⟨t,o,k,z,by rw [QiM];exact m,i,(m.lt t rfl).1,y.imp (fun e=>e.symm) (fun e=>by simpa [Value.ownBlock] using e)⟩
theorem Qk6 {w:World}(h:w.ownsRow lo 9 1 v p.length (QcH p))(hlo:lo<=w.heap.size)(hp:p.length<=1048576)(s:ByteArray)(b:Nat)(hb:w.cell? ⟨b,0,none⟩=some (.string s)):
  ∃q k j,(Builtin.append_ #[30,30] 30 #[v,.slice (some ⟨b,0,none⟩) 1 1]).run Tryz.prog w=.ok (.slice (some ⟨q,0,none⟩) (p.length+1) k) j/\ j.ownsRow lo 9 1 (.slice (some ⟨q,0,none⟩) (p.length+1) k) (p.length+1) (QcH (p++[s]))/\ w.grownBy j v.ownBlock/\ lo<=q:=by
 obtain⟨q,k,j,m,r,u,y,_⟩:=QlI h hlo hp s b hb;exact⟨q,k,j,m,r,u,y⟩
theorem QcV {w:World}{q m:Nat}(h:w.ownsRow lo 9 1 (.slice (some ⟨q,0,none⟩) m cap) m (QcH p))(hp:p.length=m):Qg8 w (.slice (some ⟨q,0,none⟩) m cap) p/\ Wr w q 9 m (fun t=> .string (gS p t)):=by
 unfold QcH at h;rw [hp] at h;have j:=QbR h;rw [Nat.mul_one] at j;exact⟨.inr ⟨q,cap,by rw [hp],j.lt,fun t ht=>j.cell (by omega)⟩,j⟩
noncomputable def uL (l:List Lf)(p:List ByteArray):Nat ->List Lf
 | 0=>[]
 | k+1=>if yes (nx p (gL l k)≠none)=true then uL l p k++[gL l k] else uL l p k
noncomputable def wL (l:List Lf):Nat ->List ByteArray ->List Lf
 | 0,_=>[]
 | f+1,p=>(kS l p l.length).flatMap fun y=>if y.2=3 then wL l f (p++[y.1]) else dsK l p y l.length
theorem Qkr (l:List Lf)(p:List ByteArray)(s:ByteArray):∀k,dsK l p (s,3) k=uL l (p++[s]) k
 | 0=>rfl
 | k+1=>by
  have j:=Qkr l p s k;by_cases h:nx p (gL l k)=some (s,3)
  ·rw [Qb7 h];simp only [uL];rw [if_pos (Qah (Qfz.1 h)),j]
  ·rw [QbL h];simp only [uL];rw [if_neg (by rw [Qaf (fun hh=>h (Qfz.2 hh))];simp),j]
theorem QbM {α β:Type}{f g:α ->List β}:∀{ys:List α},(∀y∈ys,f y=g y) ->ys.flatMap f=ys.flatMap g
 | [],_=>rfl
 | a::r,h=>by
  rw [List.flatMap_cons,List.flatMap_cons,h a (List.mem_cons_self),QbM (fun y hy=>h y (List.mem_cons_of_mem _ hy))]
theorem Qfl {R F T:Nat ->Int}{n:Nat}{l:List Lf}(p:List ByteArray)(h:QbT R F T n l l.length):∀k,k<=l.length ->(kS l p k).flatMap (fun y=>dsK l p y k)=uL l p k
 | 0,_=>rfl
 | k+1,hk=>by
  have b:=Qfl p h k (by omega);cases e:nx p (gL l k) with
  | none=>
   rw [QcQ e];have:(kS l p k).flatMap (fun y=>dsK l p y (k+1))=(kS l p k).flatMap (fun y=>dsK l p y k):=QbM fun y _=>QbL (by rw [e];simp);rw [this,b];simp only [uL];rw [if_neg (by rw [Qaf (fun hh=>hh e)];simp)]
  | some y=>
   have O:uL l p (k+1)=uL l p k++[gL l k]:=by simp only [uL];rw [if_pos (Qah (by rw [e];simp))]
   obtain⟨r,s⟩:=Qfs p h k (by omega);rw [O,<- b,QcR e];by_cases m:(kS l p k).getLast? =some y
   ·rw [if_pos (Qah m)];obtain⟨i,u⟩:=List.getLast?_eq_some_iff.1 m;have v:y ∉ i:=fun hm=>by
     rw [u] at r;have:=(List.pairwise_append.1 r).2.2 y hm y (List.mem_singleton.2 rfl);rw [QaX.key.irr] at this;omega
    rw [u,List.flatMap_append,List.flatMap_append];simp only [List.flatMap_cons,List.flatMap_nil,List.append_nil];rw [Qb7 e,<- List.append_assoc];congr 2;exact QbM fun z q=>QbL (by rw [e];simp;exact fun hh=>v (hh ▸ q))
   ·rw [if_neg (by rw [Qaf m];simp)];have v:y ∉ kS l p k:=fun hm=>by
     obtain⟨i,u⟩:=zE (kS l p k);rw [u] at r m hm;rcases List.eq_nil_or_concat i with A|⟨Y,z,q⟩
     ·rw [A] at hm;cases hm
     ·rw [q] at m hm r;simp only [List.concat_eq_append] at m hm r;have Q:z≠y:=fun hh=>m (by rw [hh];simp);rcases List.mem_append.1 hm with t|t
      ·have E:=(List.pairwise_append.1 r).2.2 y t z (List.mem_singleton.2 rfl);obtain⟨j,o,g⟩:=(s z).1 (by rw [u,q];simp);have U:=QbZ (h.lt k o (by omega)) g e;have V:=(QaX.key.neg y z).1 E;omega
      ·exact Q (List.mem_singleton.1 t).symm
    have M:dsK l p y k=[]:=by
     cases hd:dsK l p y k with
     | nil=>rfl
     | cons x xs=>
      obtain⟨j,o,g,_⟩:=Qbs.1 (show x∈dsK l p y k by rw [hd];exact List.mem_cons_self);exact absurd ((s y).2 ⟨j,o,g⟩) v
    rw [List.flatMap_append];simp only [List.flatMap_cons,List.flatMap_nil,List.append_nil];rw [Qb7 e,M,List.nil_append];congr 1;exact QbM fun z q=>QbL (by rw [e];simp;exact fun hh=>v (hh ▸ q))
theorem Qnv {R F T:Nat ->Int}{n:Nat}{l:List Lf}(h:QbT R F T n l l.length):∀f p,p.length+f=8 ->wL l f p=uL l p l.length
 | 0,p,hp=>by
  have:∀k,k<=l.length ->uL l p k=[]:=fun k=>by
   induction k with
   | zero=>intro _;rfl
   | succ k ih=>
    intro m;simp only [uL];rw [if_neg (by
     rw [Qaf (fun hh=> ?_)]
     ·simp
     ·have:=(Qgn.1 hh).2;have:=(h k (by omega)).1.1.2.1;omega),ih (by omega)]
  exact(this _ zL).symm
 | f+1,p,hp=>by
  rw [<- Qfl p h l.length zL];show (kS l p l.length).flatMap _=_;refine QbM fun y _=> ?_;by_cases j:y.2=3
  ·rw [if_pos j,Qnv h f (p++[y.1]) (by rw [List.length_append];simp;omega),<- Qkr];rw [show (y.1,(3:Int))=y by rw [<- j]]
  ·rw [if_neg j]
theorem QkG {R F T:Nat ->Int}{n:Nat}{l:List Lf}(h:QbT R F T n l l.length):∀k,k<=l.length ->uL l [] k=l.take k
 | 0,_=>by simp [uL]
 | k+1,hk=>by
  simp only [uL];rw [if_pos (Qah (Qgn.2 ⟨List.nil_prefix,by have:=(h k (by omega)).1.1.1;simp;omega⟩)),QkG h k (by omega),List.take_add_one];congr 1;simp [gL,List.getD,show k<l.length by omega]
theorem QkI(h:QbT R F T n l l.length):wL l 8 []=l:=by
 rw [Qnv h 8 [] rfl,QkG h _ zL,List.take_length]
def lfK (x:Lf):List ByteArray×Int×Dt:=(x.p,kd x.fl,x.r,x.q)
theorem Qi4:QaX (fun x y:List ByteArray×Int×Dt=>orI (QaD x.1 y.1) (orI (QaU x.2.1 y.2.1) (Qb6 x.2.2 y.2.2))):=QaX.path.pair (QaX.int.pair QaX.dot)
theorem Qeu (x y:Lf):QaM x y<0↔0<QaM y x:=Qi4.neg (lfK x) (lfK y)
theorem Qkn (x y:Lf):QaM x y=0↔lfK x=lfK y:=Qi4.z (lfK x) (lfK y)
theorem QlA {x:Lf}(h:lfK x=lfK y):x.p=y.p/\ x.fl=y.fl/\ x.r=y.r/\ x.q=y.q:=by
 unfold lfK at h;have j:=congrArg Prod.fst h;have k:=congrArg (fun z=>z.2.1) h;have m:=congrArg (fun z=>z.2.2.1) h;have u:=congrArg (fun z=>z.2.2.2) h;exact⟨j,Qiw k,m,u⟩
noncomputable def Qcq (x:Lf):List Lf ->List Lf
 | []=>[x]
 | y::r=>if yes (QaM y x<0)=true then y::Qcq x r else x::y::r
theorem Qdi {x z:Lf}:∀{ls:List Lf},z∈Qcq x ls↔z=x \/z∈ls
 | []=>by simp [Qcq]
 | y::r=>by
  have j:=Qdi (x:=x) (z:=z) (ls:=r);simp only [Qcq];split
  ·rw [List.mem_cons,j,List.mem_cons];constructor
   ·rintro(h|h|h)
    ·exact .inr (.inl h)
    ·exact .inl h
    ·exact .inr (.inr h)
   ·rintro(h|h|h)
    ·exact .inr (.inl h)
    ·exact .inl h
    ·exact .inr (.inr h)
  ·rw [List.mem_cons]
theorem Qbq (x:Lf):∀ls:List Lf,(Qcq x ls).length=ls.length+1
 | []=>rfl
 | y::r=>by
  simp only [Qcq];split
  ·simp [Qbq x r]
  ·simp
theorem Qcr {x:Lf}:∀{ls:List Lf},ls.Pairwise (fun a b=>QaM a b<0) ->(∀y∈ls,lfK y≠lfK x) ->(Qcq x ls).Pairwise (fun a b=>QaM a b<0)
 | [],_,_=>by simp [Qcq]
 | y::r,h,hne=>by
  have k:=List.pairwise_cons.1 h;have q:=Qcr k.2 (fun z hz=>hne z (List.mem_cons_of_mem _ hz));simp only [Qcq];by_cases j:QaM y x<0
  ·rw [if_pos (Qah j)];refine List.pairwise_cons.2 ⟨fun z hz=> ?_,q⟩;rcases Qdi.1 hz with e|e
   ·rw [e];exact j
   ·exact k.1 z e
  ·rw [if_neg (by rw [Qaf j];simp)];have u:QaM y x≠0:=fun e=>hne y (List.mem_cons_self) ((Qkn y x).1 e);have m:QaM x y<0:=(Qeu x y).2 (by omega);refine List.pairwise_cons.2 ⟨fun z hz=> ?_,h⟩;rcases List.mem_cons.1 hz with e|e
   ·rw [e];exact m
   ·exact QfN m (k.1 z e)
noncomputable def QdO (P:Lf ->Prop)(ls:List Lf)(out:List Lf):Nat ->List Lf
 | 0=>out
 | k+1=>if yes (P (gL ls k))=true then Qcq (gL ls k) (QdO P ls out k) else QdO P ls out k
theorem QeH {P:Lf ->Prop}{out:List Lf}(h:P (gL ls k)):QdO P ls out (k+1)=Qcq (gL ls k) (QdO P ls out k):=by simp only [QdO];rw [if_pos (Qah h)]
theorem Qgs {P:Lf ->Prop}{out:List Lf}(h:¬P (gL ls k)):QdO P ls out (k+1)=QdO P ls out k:=by simp only [QdO];rw [if_neg (by rw [Qaf h];simp)]
theorem Qcb {P:Lf ->Prop}{ls out:List Lf}{z:Lf}:∀{k:Nat},z∈QdO P ls out k↔z∈out \/∃j,j<k/\ P (gL ls j)/\ gL ls j=z
 | 0=>by simp [QdO]
 | k+1=>by
  have v:=Qcb (P:=P) (ls:=ls) (out:=out) (z:=z) (k:=k);by_cases h:P (gL ls k)
  ·rw [QeH h,Qdi,v];constructor
   ·rintro(e|e|⟨j,u,m,q⟩)
    ·exact .inr ⟨k,by omega,h,e.symm⟩
    ·exact .inl e
    ·exact .inr ⟨j,by omega,m,q⟩
   ·rintro(e|⟨j,u,m,q⟩)
    ·exact .inr (.inl e)
    ·by_cases r:j=k
     ·subst r;exact .inl q.symm
     ·exact .inr (.inr ⟨j,by omega,m,q⟩)
  ·rw [Qgs h,v];constructor
   ·rintro(e|⟨j,u,m,q⟩)
    ·exact .inl e
    ·exact .inr ⟨j,by omega,m,q⟩
   ·rintro(e|⟨j,u,m,q⟩)
    ·exact .inl e
    ·by_cases r:j=k
     ·subst r;exact absurd m h
     ·exact .inr ⟨j,by omega,m,q⟩
theorem Qdk {P:Lf ->Prop}{ls out:List Lf}:∀k,(QdO P ls out k).length<=out.length+k
 | 0=>by simp [QdO]
 | k+1=>by
  have j:=Qdk (P:=P) (ls:=ls) (out:=out) k;simp only [QdO];split
  ·rw [Qbq];omega
  ·omega
theorem Qcu {P:Lf ->Prop}{ls out:List Lf}(ho:out.Pairwise (fun a b=>QaM a b<0))(hl:∀i j,i<j ->j<ls.length ->QaM (gL ls i) (gL ls j)<0)(hne:∀j,j<ls.length ->P (gL ls j) ->∀y∈out,lfK y≠lfK (gL ls j)):∀k,k<=ls.length ->(QdO P ls out k).Pairwise (fun a b=>QaM a b<0)
 | 0,_=>ho
 | k+1,hk=>by
  have m:=Qcu ho hl hne k (by omega);by_cases h:P (gL ls k)
  ·rw [QeH h];refine Qcr m (fun y hy=> ?_);rcases Qcb.1 hy with e|⟨j,q,u,r⟩
   ·exact hne k (by omega) h y e
   ·intro e;rw [<- r] at e;have:=(Qkn _ _).2 e;have:=hl j k q (by omega);omega
  ·rw [Qgs h];exact m
noncomputable def jnL (la lb:List Lf)(hasA hasB:Lf ->Prop):List Lf:=QdO (fun x=>¬hasA x) lb (QdO (fun x=>x∈lb \/¬hasB x) la [] la.length) lb.length
theorem Qai{x:Lf}:x∈l↔∃j,j<l.length/\ gL l j=x:=by
 constructor
 ·intro h;obtain⟨j,k,e⟩:=List.getElem_of_mem h;exact⟨j,k,by simp [gL,List.getD,k,e]⟩
 ·rintro⟨j,k,e⟩;rw [<- e];have:gL l j=l[j]:=by simp [gL,List.getD,k]
  rw [this];exact List.getElem_mem k
theorem Qd0{hasA hasB:Lf ->Prop}{z:Lf}:z∈jnL la lb hasA hasB↔(z∈la/\ (z∈lb \/¬hasB z)) \/(z∈lb/\¬hasA z):=by
 unfold jnL;rw [Qcb,Qcb];constructor
 ·rintro((e|⟨j,m,k,q⟩)|⟨j,m,k,q⟩)
  ·cases e
  ·rw [q] at k;exact .inl ⟨Qai.2 ⟨j,m,q⟩,k⟩
  ·rw [q] at k;exact .inr ⟨Qai.2 ⟨j,m,q⟩,k⟩
 ·rintro(⟨m,k⟩|⟨m,k⟩)
  ·obtain⟨j,r,e⟩:=Qai.1 m;exact .inl (.inr ⟨j,r,by rw [e];exact k,e⟩)
  ·obtain⟨j,r,e⟩:=Qai.1 m;exact .inr ⟨j,r,by rw [e];exact k,e⟩
theorem Qhx{hasA hasB:Lf ->Prop}(hA:∀i j,i<j ->j<la.length ->QaM (gL la i) (gL la j)<0)(hB:∀i j,i<j ->j<lb.length ->QaM (gL lb i) (gL lb j)<0)(hk:∀x∈la,hasA x)(hd:∀x y,lfK x=lfK y ->(hasA x↔hasA y)):(jnL la lb hasA hasB).Pairwise (fun a b=>QaM a b<0):=by
 unfold jnL;refine Qcu (Qcu List.Pairwise.nil hA (fun j _ _ y hy=>by cases hy) _ zL) hB (fun j hj hP y hy e=> ?_) _ zL;rcases Qcb.1 hy with h|⟨i,k,_,m⟩
 ·cases h
 ·exact hP ((hd _ _ e).1 (hk y (Qai.2 ⟨i,k,m⟩)))
theorem QgX:∀{a b:List Lf},a.Pairwise (fun x y=>QaM x y<0) ->b.Pairwise (fun x y=>QaM x y<0) ->(∀z,z∈a↔z∈b) ->a=b
 | [],[],_,_,_=>rfl
 | [],y::_,_,_,h=>by have:=(h y).2 (List.mem_cons_self);cases this
 | x::_,[],_,_,h=>by have:=(h x).1 (List.mem_cons_self);cases this
 | x::r,y::s,ha,hb,h=>by
  have m:=List.pairwise_cons.1 ha;have q:=List.pairwise_cons.1 hb;have u:∀z:Lf,¬QaM z z<0:=fun z j=>by have:=(Qeu z z).1 j;omega
  have e:x=y:=by
   rcases List.mem_cons.1 ((h x).1 (List.mem_cons_self)) with e|e
   ·exact e
   ·rcases List.mem_cons.1 ((h y).2 (List.mem_cons_self)) with k|k
    ·exact k.symm
    ·exact absurd (QfN (m.1 y k) (q.1 x e)) (u x)
  subst e;congr 1;refine QgX m.2 q.2 fun z=> ?_;constructor
  ·intro j;rcases List.mem_cons.1 ((h z).1 (List.mem_cons_of_mem _ j)) with e|e
   ·subst e;exact absurd (m.1 z j) (u z)
   ·exact e
  ·intro j;rcases List.mem_cons.1 ((h z).2 (List.mem_cons_of_mem _ j)) with e|e
   ·subst e;exact absurd (q.1 z j) (u z)
   ·exact e
def StW (R F T:Nat ->Int)(n:Nat)(l:List Lf):Prop:=(Qd8 R F T n/\ n<=2000)/\ l.length<=1000/\ QbT R F T n l l.length/\ Dis l l.length
theorem QaT.w(h:QaT R F T n l):StW R F T n l:=⟨by have:=Qax.1 h.1;exact⟨this.1,by omega⟩,h.2⟩
def QbH (R F T:Nat ->Int)(n:Nat)(x:Lf):Prop:=QbG R F T x.r x.q x.q n=true
theorem QgK{x:Lf}(h:lfK x=lfK y):QbH R F T n x↔QbH R F T n y:=by
 obtain⟨_,_,j,k⟩:=QlA h;unfold QbH;rw [j,k]
theorem QmN {x:Lf}(h:Way x=Way y)(h0:0<x.p.length)(hd:(x.r,x.q)=(y.r,y.q))(hv:x.v=y.v):x=y:=by
 obtain⟨j,z⟩:=QdM h h0;have k:=Qiw z;have m:x.r=y.r:=congrArg Prod.fst hd;have u:x.q=y.q:=congrArg Prod.snd hd;cases x;cases y;simp only at j k m u hv;subst j k m u hv;rfl
theorem QhE(hd:Dis l l.length){z:List Ky}{d:Dt}{v:ByteArray}:Mk l l.length z d=some v↔∃x∈l,Way x=z/\ (x.r,x.q)=d/\ x.v=v:=by
 rw [QhF hd];constructor
 ·rintro⟨j,y,k,m,u⟩;exact⟨gL l j,Qai.2 ⟨j,y,rfl⟩,k,m,u⟩
 ·rintro⟨x,g,k,m,u⟩;obtain⟨j,h,e⟩:=Qai.1 g;exact⟨j,h,by rw [e];exact k,by rw [e];exact m,by rw [e];exact u⟩
theorem QfQ(hd:Dis l l.length){x:Lf}(hx:x∈l)(hy:y∈l)(h:x.r=y.r/\ x.q=y.q):x=y:=by
 obtain⟨i,hi,k⟩:=Qai.1 hx;obtain⟨j,u,m⟩:=Qai.1 hy;rcases Nat.lt_trichotomy i j with e|e|e
 ·have:=hd j u i e;exact absurd (by rw [k,m];exact h) this
 ·subst e;rw [<- k,<- m]
 ·have:=hd i hi j e;exact absurd (by rw [k,m];exact⟨h.1.symm,h.2.symm⟩) this
theorem Qf5(h:l.Pairwise (fun a b=>QaM a b<0)){j:Nat}(hij:i<j)(hj:j<l.length):QaM (gL l i) (gL l j)<0:=by
 have:=List.pairwise_iff_getElem.1 h i j (by omega) hj hij;have k:gL l i=l[i]:=by simp [gL,List.getD,show i<l.length by omega]
 have m:gL l j=l[j]:=by simp [gL,List.getD,hj]
 rw [k,m];exact this
section
variable {R F T : Nat -> Int} {n : Nat} {la : List Lf} {R' F' T' : Nat -> Int} {n' : Nat} {lb : List Lf}
noncomputable def jn (R F T:Nat ->Int)(n:Nat)(la:List Lf)(R' F' T':Nat ->Int)(n':Nat)(lb:List Lf):List Lf:=jnL la lb (QbH R F T n) (QbH R' F' T' n')
theorem Qd2 (h:StW R F T n la)(h':StW R' F' T' n' lb):(jn R F T n la R' F' T' n' lb).Pairwise (fun a b=>QaM a b<0):=
 Qhx (fun i j h1 h2=>h.2.2.1.lt j h1 h2) (fun i j h1 h2=>h'.2.2.1.lt j h1 h2) (fun x hx=>by
  obtain⟨j,k,e⟩:=Qai.1 hx;have:=(h.2.2.1 j k).2.1;rw [e] at this;exact this) (fun x y e=>QgK e)
theorem Qd1 (z:Lf)(hz:z∈jn R F T n la R' F' T' n' lb):z∈la \/(z∈lb/\¬QbH R F T n z):=by
 rcases Qd0.1 hz with h|h
 ·exact .inl h.1
 ·exact .inr h
theorem QgL (h:StW R F T n la)(h':StW R' F' T' n' lb):Dis (jn R F T n la R' F' T' n' lb) (jn R F T n la R' F' T' n' lb).length:=fun i hi j u hh=>by
 have g:=Qf5 (Qd2 h h') u hi;have m:=Qd1 _ (Qai.2 ⟨j,by omega,rfl⟩:gL (jn R F T n la R' F' T' n' lb) j∈_);have k:=Qd1 _ (Qai.2 ⟨i,hi,rfl⟩:gL (jn R F T n la R' F' T' n' lb) i∈_);have v:∀z∈la,QbH R F T n z:=fun z hz=>by
  obtain⟨j,u,e⟩:=Qai.1 hz;have:=(h.2.2.1 j u).2.1;rw [e] at this;exact this
 have same:∀{x y:Lf},x.r=y.r/\ x.q=y.q ->(QbH R F T n x↔QbH R F T n y):=fun{x y} e=>by unfold QbH;rw [e.1,e.2]
 have b:∀z:Lf,¬QaM z z<0:=fun z hz=>by have:=(Qeu z z).1 hz;omega
 have e:gL (jn R F T n la R' F' T' n' lb) j=gL (jn R F T n la R' F' T' n' lb) i:=by
  rcases m with m|⟨m,o⟩
  ·rcases k with k|⟨k,t⟩
   ·exact QfQ h.2.2.2 m k hh
   ·exact absurd ((same hh).1 (v _ m)) t
  ·rcases k with k|⟨k,t⟩
   ·exact absurd ((same hh).2 (v _ k)) o
   ·exact QfQ h'.2.2.2 m k hh
 rw [e] at g;exact b _ g
theorem QnF {U V X:Nat ->Int}{m:Nat}(h:StW R F T n la)(h':StW R' F' T' n' lb)(hu:∀z:Lf,QbH R F T n z \/QbH R' F' T' n' z ->QbH U V X m z):QbT U V X m (jn R F T n la R' F' T' n' lb) (jn R F T n la R' F' T' n' lb).length:=fun i hi=>by
 have r:=Qd2 h h';have k:=Qd1 _ (Qai.2 ⟨i,hi,rfl⟩:gL (jn R F T n la R' F' T' n' lb) i∈_);refine⟨?_,?_,fun h0=>Qf5 r (by omega) hi⟩
 ·rcases k with k|⟨k,_⟩
  ·obtain⟨j,q,e⟩:=Qai.1 k;rw [<- e];exact(h.2.2.1 j q).1
  ·obtain⟨j,q,e⟩:=Qai.1 k;rw [<- e];exact(h'.2.2.1 j q).1
 ·refine hu _ ?_;rcases k with k|⟨k,_⟩
  ·obtain⟨j,q,e⟩:=Qai.1 k;refine .inl ?_;have:=(h.2.2.1 j q).2.1;rw [e] at this;exact this
  ·obtain⟨j,q,e⟩:=Qai.1 k;refine .inr ?_;have:=(h'.2.2.1 j q).2.1;rw [e] at this;exact this
theorem Qlx (h:StW R F T n la)(h':StW R' F' T' n' lb)(z:List Ky)(d:Dt)(v:ByteArray):
  Mk (jn R F T n la R' F' T' n' lb) (jn R F T n la R' F' T' n' lb).length z d=some v↔(Mk la la.length z d=some v/\ (Mk lb lb.length z d=some v \/QbG R' F' T' d.1 d.2 d.2 n'=false)) \/(Mk lb lb.length z d=some v/\ QbG R F T d.1 d.2 d.2 n=false):=by
 have A:∀b:Bool,¬b=true↔b=false:=fun b=>by cases b<;>simp
 rw [QhE (QgL h h'),QhE h.2.2.2,QhE h'.2.2.2];constructor
 ·rintro⟨x,i,m,k,u⟩;have t:x.r=d.1:=congrArg Prod.fst k;have o:x.q=d.2:=congrArg Prod.snd k;rcases Qd0.1 i with ⟨E,s⟩|⟨E,s⟩
  ·refine .inl ⟨⟨x,E,m,k,u⟩,s.imp (fun g=>⟨x,g,m,k,u⟩) (fun g=> ?_)⟩;unfold QbH at g;rw [t,o] at g;exact(A _).1 g
  ·refine .inr ⟨⟨x,E,m,k,u⟩,?_⟩;unfold QbH at s;rw [t,o] at s;exact(A _).1 s
 ·rintro(⟨⟨x,i,m,k,u⟩,g⟩|⟨⟨x,i,m,k,u⟩,g⟩)
  ·have t:x.r=d.1:=congrArg Prod.fst k;have o:x.q=d.2:=congrArg Prod.snd k;have M:0<x.p.length:=by
    obtain⟨j,O,e⟩:=Qai.1 i;have:=(h.2.2.1 j O).1.1.1;rw [e] at this;omega
   refine⟨x,Qd0.2 (.inl ⟨i,?_⟩),m,k,u⟩;rcases g with ⟨y,Q,U,V,Y⟩|g
   ·have:x=y:=QmN (m.trans U.symm) M (k.trans V.symm) (u.trans Y.symm);rw [this];exact .inl Q
   ·refine .inr ?_;unfold QbH;rw [t,o];exact(A _).2 g
  ·have t:x.r=d.1:=congrArg Prod.fst k;have o:x.q=d.2:=congrArg Prod.snd k;refine⟨x,Qd0.2 (.inr ⟨i,?_⟩),m,k,u⟩;unfold QbH;rw [t,o];exact(A _).2 g
end
theorem Ql6 (a a':Option Addr)(c c':Nat)(p p':List ByteArray)(fl fl':Bool)(r q r' q':Int)(v v':ByteArray)(w:World)(hc:p.length<=c)(hc':p'.length<=c')(E:c<=9223372036854775807)(hx':c'<=9223372036854775807)(h:Qaw w a p)(h':Qaw w a' p'):
  Cl 98 #[.agg #[.slice a p.length c,.bool fl,.int .i64 r,.int .i64 q,.string v],.agg #[.slice a' p'.length c',.bool fl',.int .i64 r',.int .i64 q',.string v']] w (Rt w (.bool (yes ((⟨p,fl,r,q,v⟩:Lf)=⟨p',fl',r',q',v'⟩)))):=by
 obtain⟨W,j⟩:=zE ((w.alloc (.cells #[.slice a p.length c,.bool fl,.int .i64 r,.int .i64 q,.string v] 106)).alloc (.cells #[.slice a' p'.length c',.bool fl',.int .i64 r',.int .i64 q',.string v'] 106));have M:Bl w W:=by rw [<- j];exact Qae _ _ _
 have k0:W.cell? ⟨w.heap.size,0,none⟩=some (.slice a p.length c):=by rw [<- j];simp
 have Z:W.cell? ⟨w.heap.size,1,none⟩=some (.bool fl):=by rw [<- j];simp
 have G:W.cell? ⟨w.heap.size,2,none⟩=some (.int .i64 r):=by rw [<- j];simp
 have H:W.cell? ⟨w.heap.size,3,none⟩=some (.int .i64 q):=by rw [<- j];simp
 have I:W.cell? ⟨w.heap.size,4,none⟩=some (.string v):=by rw [<- j];simp
 have C:W.cell? ⟨w.heap.size+1,0,none⟩=some (.slice a' p'.length c'):=by rw [<- j];simp
 have J:W.cell? ⟨w.heap.size+1,1,none⟩=some (.bool fl'):=by rw [<- j];simp
 have K:W.cell? ⟨w.heap.size+1,2,none⟩=some (.int .i64 r'):=by rw [<- j];simp
 have L:W.cell? ⟨w.heap.size+1,3,none⟩=some (.int .i64 q'):=by rw [<- j];simp
 have N:W.cell? ⟨w.heap.size+1,4,none⟩=some (.string v'):=by rw [<- j];simp
 have b:=hid M;have O:=hid (QcL p p' a a' c c' W hc hc' E hx' (h.bw M) (h'.bw M));have g:Hid (yes ((⟨p,fl,r,q,v⟩:Lf)=⟨p',fl',r',q',v'⟩)=true↔QaD p p'=0/\ fl=fl'/\ r=r'/\ q=q'/\ v=v'):=hid (by
  rw [Qds];constructor
  ·intro e;have e:(⟨p,fl,r,q,v⟩:Lf)=⟨p',fl',r',q',v'⟩:=Classical.byContradiction fun hn=>by rw [Qaf hn] at e;cases e
   injection e with Q t U e4 e5;exact⟨Q,t,U,e4,e5⟩
  ·rintro⟨rfl,rfl,rfl,rfl,rfl⟩;exact Qah rfl)
 obtain⟨B,V⟩:=zE (yes ((⟨p,fl,r,q,v⟩:Lf)=⟨p',fl',r',q',v'⟩));obtain⟨x,E⟩:=zE (QaD p p');rw [V,E] at g;rw [E] at O;rw [V];clear M h h' V E;go_enter Tryz.func98,Tryz.ntmps98;go_wp2_with fail;try rw [j]
 clear j;refine O.mono ?_;rintro e w1 ⟨rfl,k,m⟩;have D:w1.cell? ⟨w.heap.size,1,none⟩=some (.bool fl):=by rw [m];exact Z
 have F:w1.cell? ⟨w.heap.size,2,none⟩=some (.int .i64 r):=by rw [m];exact G
 have P:w1.cell? ⟨w.heap.size,3,none⟩=some (.int .i64 q):=by rw [m];exact H
 have R:w1.cell? ⟨w.heap.size,4,none⟩=some (.string v):=by rw [m];exact I
 have S:w1.cell? ⟨w.heap.size+1,1,none⟩=some (.bool fl'):=by rw [m];exact J
 have T:w1.cell? ⟨w.heap.size+1,2,none⟩=some (.int .i64 r'):=by rw [m];exact K
 have Ha:w1.cell? ⟨w.heap.size+1,3,none⟩=some (.int .i64 q'):=by rw [m];exact L
 have Hb:w1.cell? ⟨w.heap.size+1,4,none⟩=some (.string v'):=by rw [m];exact N
 have A:Hid (Bl w w1):=hid (by rw [m];exact⟨b.os,b.tape,b.output,b.size,b.block⟩);clear m k0 Z G H I C J K L N O b;have z:¬(x=0/\ fl=fl'/\ r=r'/\ q=q'/\ v=v') ->Hid (B=false):=fun hn=>hid (by
  cases hb:B with
  | false=>rfl
  | true=>exact absurd (g.1 hb) hn)
 by_cases y:x=0
 ·have X:(x==0)=true:=by simp [y]
  by_cases o:fl=fl'
  ·have Q:(fl==fl')=true:=by simp [o]
   have Y:∀w:World,(binOp .eql 104 (.agg #[.int .i64 r,.int .i64 q]) (.agg #[.int .i64 r',.int .i64 q'])).run Tryz.prog w=.ok (.bool (r==r' && q==q')) w:=fun w=>Qks r q r' q' w;by_cases i:r=r'/\ q=q'
   ·have t:(r==r' && q==q')=true:=by simp [i]
    rw [t] at Y;by_cases s:v=v'
    ·have U:(v.toList==v'.toList)=true:=by simp [s]
     have u:Hid (B=true):=hid (g.2 ⟨y,o,i.1,i.2,s⟩);clear g z t y o i s;go_wp2_with fail;go_ret;exact⟨Qay u.symm,A⟩
    ·have U:(v.toList==v'.toList)=false:=by simpa using fun h=>s (Qbd h)
     have u:=z (fun h=>s h.2.2.2.2);clear g z t y o i s;go_wp2_with fail;go_ret;exact⟨Qay u.symm,A⟩
   ·have t:(r==r' && q==q')=false:=by
     cases hb:(r==r' && q==q') with
     | false=>rfl
     | true=>exact absurd (by simpa using hb) i
    rw [t] at Y;have u:=z (fun h=>i ⟨h.2.2.1,h.2.2.2.1⟩);clear g z t y o i;go_wp2_with fail;go_ret;exact⟨Qay u.symm,A⟩
  ·have Q:(fl==fl')=false:=by simpa using o
   have u:=z (fun h=>o h.2.1);clear g z y o;go_wp2_with fail;go_ret;exact⟨Qay u.symm,A⟩
 ·have X:(x==0)=false:=by simpa using y
  have u:=z (fun h=>y h.1);clear g z y;go_wp2_with fail;go_ret;exact⟨Qay u.symm,A⟩
theorem Ql0 (a a':Option Addr)(c c':Nat)(l:List Lf)(p':List ByteArray)(fl':Bool)(r' q':Int)(v':ByteArray)(w:World)(hl:l.length<=1048576)(hc':p'.length<=c')(hx':c'<=9223372036854775807)(h:QcF w a l)(h':Qaw w a' p'):
  Cl 69 #[.slice a l.length c,.agg #[.slice a' p'.length c',.bool fl',.int .i64 r',.int .i64 q',.string v']] w fun e w'=>(∃i:Int,e=.returned (.int .i64 i)/\ (0<=i↔(⟨p',fl',r',q',v'⟩:Lf)∈l))/\ Bl w w':=by
 obtain⟨W,U⟩:=zE (w.alloc (.cells #[.slice a' p'.length c',.bool fl',.int .i64 r',.int .i64 q',.string v'] 106));have Q:Bl w W:=by rw [<- U];exact zO _ _
 have X0:Bx5 W w.heap.size (.slice a' p'.length c') (.bool fl') (.int .i64 r') (.int .i64 q') (.string v'):=by rw [<- U];exact Bx5.new _ _ _ _ _ _ _
 have HX:=hid X0;have R:=hid Q;have HL:=hid (h.bw Q);have HP:=hid (h'.bw Q);have HC:=hid (And.intro hc' hx');clear X0 Q h h' hc' hx';go_enter Tryz.func69,Tryz.ntmps69;go_wp2_with fail;try rw [U]
 clear U;go_loopw [5] (fun i wr=>∃j:Nat,j<=l.length/\ i=.int .i64 j/\ Hid (Bl W wr)/\ Hid (∀t,t<j ->gL l t≠⟨p',fl',r',q',v'⟩)) (fun i _=>l.length - (intOf i).toNat);case atStart=>exact⟨0,Nat.zero_le _,rfl,hid zI,hid (fun t L=>by omega)⟩
 case round=>
  obtain⟨j,hj,rfl,m,Z⟩:=hrel;by_cases J:j<l.length
  ·have i1:(0:Int)<=(j:Int):=Int.natCast_nonneg _;have i2:(j:Int)<(l.length:Int):=by omega
   obtain⟨b,O,rfl,hb,Ha⟩:=(HL.bw m).resolve_left (by omega);obtain⟨pa,pc,⟨g,d0⟩,sg,s,A,E,M⟩:=Ha j J;have u:=hid (fun w1 (k:Bl wr w1)=>Ql6 pa a' pc c' (gL l j).p p' (gL l j).fl fl' (gL l j).r (gL l j).q r' q' (gL l j).v v' w1 d0.1 HC.1 d0.2 HC.2 (sg.bw k) ((HP.bw m).bw k));have Hc:Hid (gL l j=⟨(gL l j).p,(gL l j).fl,(gL l j).r,(gL l j).q,(gL l j).v⟩):=hid rfl;obtain⟨y,N⟩:=zE (gL l j);have HY:=hid N;rw [N] at g s A E M u;obtain⟨C,X,F,D,P⟩:=y;dsimp only at g s A E M u;obtain⟨B,I⟩:=zE (yes ((⟨C,X,F,D,P⟩:Lf)=⟨p',fl',r',q',v'⟩));have T:=hid I;rw [I] at u;have G:=HX.bw m HX.lt;have V:Hid (∀w',Bl wr w' ->(w'.cell? ⟨b,O+j*5,none⟩=some (.slice pa C.length pc)/\ w'.cell? ⟨b,O+j*5+1,none⟩=some (.bool X)/\ w'.cell? ⟨b,O+j*5+2,none⟩=some (.int .i64 F)/\ w'.cell? ⟨b,O+j*5+3,none⟩=some (.int .i64 D)/\ w'.cell? ⟨b,O+j*5+4,none⟩=some (.string P)/\ w'.cell? ⟨w.heap.size,0,none⟩=some (.slice a' p'.length c')/\ w'.cell? ⟨w.heap.size,1,none⟩=some (.bool fl')/\ w'.cell? ⟨w.heap.size,2,none⟩=some (.int .i64 r')/\ w'.cell? ⟨w.heap.size,3,none⟩=some (.int .i64 q')/\ w'.cell? ⟨w.heap.size,4,none⟩=some (.string v'))):=hid (fun w' k=>by
    have q:=fun o=>k.cell (p:=⟨b,o,none⟩) hb;have z:=G.bw k G.lt;exact⟨(q _).trans g,(q _).trans s,(q _).trans A,(q _).trans E,(q _).trans M,z.c0,z.c1,z.c2,z.c3,z.c4⟩)
   clear N I Ha sg G;go_wp2_with fail;refine zS V (fun qh=> ?_);clear g s A E M;refine tZ 0 12 ?_;refine tZ 1 13 ?_;refine tZ 2 14 ?_;refine tZ 3 15 ?_;refine tZ 4 16 ?_;refine cZ 5 ?_;intro K hK;go_simp;refine(u _ zI.drew).mono ?_;rintro e w1 ⟨rfl,k⟩;have H:Bl wr w1:=⟨k.os,k.tape,k.output,k.size,k.block⟩;refine hK.out _ _ (V _ H) (fun qh=> ?_);clear hK K;try simp only [zP]
   refine zD ?_;have S:=hid (m.trans (H.mono m.size));clear qh k H V u;cases B with
   | true=>
    have Y:Hid ((⟨p',fl',r',q',v'⟩:Lf)∈l):=hid (by
     have e:(⟨C,X,F,D,P⟩:Lf)=⟨p',fl',r',q',v'⟩:=Classical.byContradiction fun hn=>by have:=T.out;rw [Qaf hn] at this;cases this
     rw [<- e,<- HY.out];exact Qai.2 ⟨j,J,rfl⟩)
    go_wp2_with fail;go_ret;exact⟨⟨(j:Int),rfl,⟨fun _=>Y.out,fun _=>i1⟩⟩,Qaa R S⟩
   | false=>
    have Hb:Hid (∀t,t<j+1 ->gL l t≠⟨p',fl',r',q',v'⟩):=hid (fun t L=>by
     by_cases e:t=j
     ·rw [e,HY.out];intro e2;have:=T.out;rw [Qah e2] at this;cases this
     ·exact Z t (by omega))
    clear Z m;go_wp2_with fail;go_roundw;case rel=>exact⟨j+1,J,by go_num,S,Hb⟩
    case measure=>simp [intOf];omega
  ·obtain rfl:j=l.length:=by omega
   have Y:Hid (¬(⟨p',fl',r',q',v'⟩:Lf)∈l):=hid (fun hm=>by
    obtain⟨t,L,e⟩:=Qai.1 hm;exact Z t L e)
   go_wp2_with fail;go_ret;exact⟨⟨-1,rfl,⟨fun h=>by omega,fun h=>absurd h Y⟩⟩,Qaa R m⟩
end Go.Proofs.YtgmjgboibfdaeaaGreatDoor
