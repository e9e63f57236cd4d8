import Derived.Test.YtgmjgboibfdaeaaGreatDoorDrg13
set_option linter.unusedVariables false
set_option linter.unusedSimpArgs false
set_option maxRecDepth 100000
set_option maxHeartbeats 40000000
namespace Go.Proofs.YtgmjgboibfdaeaaGreatDoor
open Go.ChangeShapes Go.WideShapes Go.ChangeAt Go.RowKit Go.Maps Go.Sort
variable {B bm c g k lo n:Nat}{L:Int ->List (Int×Int)}{P:Program}{a x:Option Addr}{l sa sb:List Rn}{qf qr qt r:Int}{u5 u6 v:Value}{w w' w1 wr:World}
def SK (f:Int ->Nat):Nat ->Nat
 | 0=>0
 | k+1=>SK f k+f (k:Int)
theorem QhI {f:Int ->Nat}(h:∀r,f r=0):∀k,SK f k=0
 | 0=>rfl
 | k+1=>by simp only [SK];rw [QhI h k,h]
theorem QhH {f f':Int ->Nat}{x:Int}(ho:∀r,r≠x ->f' r=f r):∀k:Nat,((k:Int)<=x \/x<0) ->SK f' k=SK f k
 | 0,_=>rfl
 | k+1,h=>by simp only [SK];rw [QhH ho k (by omega),ho k (by omega)]
theorem Qkj {f f':Int ->Nat}{x:Int}(ho:∀r,r≠x ->f' r=f r)(h0:0<=x):∀k:Nat,x<k ->SK f' k+f x=SK f k+f' x
 | 0,h=>by omega
 | k+1,h=>by
  simp only [SK];by_cases e:x=(k:Int)
  ·rw [QhH ho k (by omega),<- e];omega
  ·have:=Qkj ho h0 k (by omega);rw [ho k (fun h=>e h.symm)];omega
theorem QgA {f:Int ->Nat}{c:Nat}(h:∀r,f r<=c):∀k,SK f k<=c*k
 | 0=>Nat.le_refl _
 | k+1=>by have:=QgA h k;have:=h (k:Int);simp only [SK];rw [Nat.mul_succ];omega
theorem QeE (L:Int ->List (Int×Int)):∀k,(QdA L k).length=SK (fun r=>(L r).length) k
 | 0=>rfl
 | k+1=>by
  by_cases e:(L (k:Int)).isEmpty=true
  ·rw [QdB e,QeE L k];have:L (k:Int)=[]:=by simpa using e
   simp [SK,this]
  ·rw [QdC (by simpa using e),List.length_append,QeE L k];simp [SK,tag]
theorem Qld{D:DataW Value}{G:Int ->Value}(h:QeV w bm n D G L)(hL:∀r,L r≠[] ->0<=r/\ r<8)(hl:∀r,(L r).length<=4000):
  Cl 142 #[.map (some bm)] w (Rt w (.int .i64 (((QdA L 8).length:Nat):Int))):=by
 have Hf:=h.own.lt;have K:=h.own;have z:=hid h;have R:=hid hL;have A:=hid hl;have E:=hid (QeE L 8);clear h hL hl;obtain⟨Hd,B⟩:=zE ((QdA L 8).length);rw [B] at E ⊢;clear B;go_enter Tryz.func142,Tryz.ntmps142;go_wp2_with (at_range;refine wpList_range_own _ rfl _ 158 rfl 3 215 (int_keyed Tryz.underlying3) Tryz.underlying158 Qcj bm n D rfl K ?_;intro w0 N Y Hb);go_frame;have O:Bl w w0:=zI.grown Y zL (fun _ h=>by cases h);go_loopw [3] (fun v wr=>∃(m:Lit ->Bool) (Q q:Nat),v=.int .i64 (q:Int)/\ wr.ranges Tryz.prog 3 Qcj bm w.heap.size n D m Q/\ Hid (q=SK (fun r=>if m (kI r) then 0 else(L r).length) 8)/\ Hid (Bl w wr))
  (fun _ wr=>wr.rangeLeft bm w.heap.size)
 case atStart=>
  refine⟨_,_,0,rfl,N,hid ?_,hid O⟩;rw [QhI (fun r=> ?_)];cases e:Maps.has D (kI r) with
  | true=>rfl
  | false=>
   rw [z.has' r] at e;have:L r=[]:=by simpa using e
   simp [this]
 case round=>
  clear N Y Hb O K;obtain⟨m,Q,q,rfl,g,b,s⟩:=hrel;have He:q<=32000:=by
   rw [b.out];have:=QgA (f:=fun r=>if m (kI r) then 0 else(L r).length) (c:=4000) (fun r=>by have:=A r;show (if _ then _ else _)<=_;split<;>omega) 8;omega
  go_wp2_with (at_next;refine Qbm _ rfl _ rfl 3 (int_keyed Tryz.underlying3) Tryz.underlying3 bm w.heap.size n _ _ _ rfl g ?_ ?_)
  ·intro H;have P:Hid (q=Hd):=by
    have j:=b.out;rw [show (fun r=>if m (kI r) then 0 else(L r).length)=fun r=>(L r).length from funext fun r=>by rw [H (kI r)];rfl] at j;exact hid (j.trans E.symm)
   clear H g;go_wp2_with fail;go_ret;exact⟨Qbv (by rw [P.out]),s⟩
  ·intro x va t vc w1 Ha Hi J p X I Z Hc Hg;have V:G x=.slice va t vc:=by
    have j:=z.at' x;rw [p] at j;injection j with j;exact j.symm
   obtain⟨a',c',U,_⟩:=QcA (z.rows x);rw [V] at U;injection U with ea en ec;subst ea ec;have C:0<=x/\ x<8:=by
    have j:=has_true_of_atKey p;rw [z.has' x] at j;exact R x (fun e=>by rw [e] at j;cases j)
   have Hh:t<=4000:=by rw [en];exact A x
   have W:Hid (q+t=SK (fun r=>if (m (kI r) && !(kI r).sameKey (kI x)) then 0 else(L r).length) 8):=by
    obtain⟨u,o⟩:∃u:Int ->Nat,u=fun r=>if m (kI r) then 0 else(L r).length:=⟨_,rfl⟩;obtain⟨y,i⟩:∃y:Int ->Nat,y=fun r=>if (m (kI r) && !(kI r).sameKey (kI x)) then 0 else(L r).length:=⟨_,rfl⟩;have j:=Qkj (f:=u) (f':=y) (x:=x) (fun r hr=>by rw [o,i];show (if _ then _ else _)=(if _ then _ else _);rw [Qb3];simp [hr]) C.1 8 C.2;have h2:u x=0:=by rw [o];show (if _ then _ else _)=_;rw [J];rfl
    have h3:y x=(L x).length:=by rw [i];show (if _ then _ else _)=_;rw [Qb3];simp
    have h4:=b.out;rw [<- o] at h4;rw [<- i];exact hid (by omega)
   have F:Hid (Bl w w1):=hid (s.grown Z s.size (fun k hk=>by injection hk with hk;omega));have S:=hid g.left_eq;have M:=hid X;have T:=hid I;clear g Z Hc p V en J X I;go_wp2_with fail;go_roundw;case rel=>exact⟨_,Ha,q+t,by go_num,M,W,F⟩
   case measure=>rw [M.left_eq,S.out];exact T
def Qaq (l:List Rn):List Value:=l.flatMap fun p=>[.int .i64 p.1,.int .i64 p.2.1,.int .i64 p.2.2]
theorem Qdu (l:List Rn)(p:Rn):Qaq (l++[p])=Qaq l++[.int .i64 p.1,.int .i64 p.2.1,.int .i64 p.2.2]:=by simp [Qaq]
def FR (w:World)(B:Nat)(v:Value)(l:List Rn):Prop:=w.ownsRow B 124 3 v l.length (Qaq l)
theorem QeV.look{D:DataW Value}{G:Int ->Value}(h:QeV w bm n D G L)(r:Int)(hr:(Lit.int .i64 r).wf=true):
  (Instr.lookup 158 (.map (some bm)) (.int .i64 r) false).run Tryz.prog w=.ok (G r) w:=by
 obtain⟨v,ps,k,m⟩:=h.own.lookup (int_keyed Tryz.underlying3) Tryz.underlying158 (QfD w) (zd:=.held (.slice none 0 0)) (zp:=[]) rfl (keyOf_int_mk Tryz.underlying3 hr);have:=h.at' r;obtain⟨j,_⟩:=Qdl m;unfold kI at this;rw [this] at j;have e:v=G r:=by injection j with j;exact j.symm
 rw [k,e]
theorem Qhz{D:DataW Value}{G:Int ->Value}(h:QeV w bm n D G L)(hL:∀r,L r≠[] ->0<=r/\ r<8):(KS L 8).Perm (intKeys D)/\ Maps.size D=(KS L 8).length:=by
 obtain⟨u,j,g,_⟩:=h.own.entries (int_keyed Tryz.underlying3);obtain⟨y,k,z⟩:=h.own.keysOf;obtain rfl:u=y:=by rw [j] at k;simpa using k
 have q:(KS L 8).Perm (intKeys D):=by
  have m:=h.has';rw [j] at m ⊢;refine perm_intKeys g (fun p hp=>by obtain⟨v,t⟩:=z p hp;obtain⟨x,_,o,_⟩:=Maps.keyOf_i64 Tryz.underlying3 t;exact⟨x,o⟩) ((QkM L 8).imp (fun h=>by omega)) (fun x=> ?_);have:=m x;unfold kI at this;rw [this,QeY];constructor
  ·rintro⟨_,_,c⟩;rw [c];rfl
  ·intro c;have c':(L x).isEmpty=false:=by simpa using c
   have:=hL x (by intro e;rw [e] at c';cases c');exact⟨this.1,this.2,c'⟩
 refine⟨q,?_⟩;rw [q.length_eq,j];simp [Maps.size_eq,intKeys]
def QeX (L:Int ->List (Int×Int))(ks:List Int):Nat ->List Rn
 | 0=>[]
 | k+1=>QeX L ks k++tag (ks.getD k 0) (L (ks.getD k 0))
theorem Qf3 (L:Int ->List (Int×Int))(ks:List Int):∀k,k<=ks.length ->QeX L ks k=(ks.take k).flatMap fun r=>tag r (L r)
 | 0,_=>by simp [QeX]
 | k+1,h=>by
  have e:ks.take (k+1)=ks.take k++[ks.getD k 0]:=by
   rw [List.take_add_one];simp [List.getD,show k<ks.length by omega]
  rw [e,List.flatMap_append,<- Qf3 L ks k (by omega)];simp [QeX]
theorem Qha {L:Int ->List (Int×Int)}(hL:∀r,(L r).length<=4000)(ks:List Int):∀k,(QeX L ks k).length<=4000*k
 | 0=>by simp [QeX]
 | k+1=>by
  have:=Qha hL ks k;have:=hL (ks.getD k 0);simp only [QeX,List.length_append,tag,List.length_map];omega
theorem Qka{l:List (Int×Int)}{t:Nat}(h:t<l.length):(tag r l).take (t+1)=(tag r l).take t++[(r,sF l t,sT l t)]:=by
 rw [List.take_add_one];simp [tag,sF,sT,List.getD,h]
theorem QhV{D:DataW Value}{G:Int ->Value}(h:QeV w bm n D G L)(hL:∀r,L r≠[] ->0<=r/\ r<8)(hl:∀r,(L r).length<=4000):
  Cl 144 #[.map (some bm)] w fun e w'=>∃v,e=.returned (.agg #[v])/\ FR w' w.heap.size v (QdA L 8)/\ Bl w w':=by
 obtain⟨i0,hi,G3,G4,G5⟩:=info_parts Tryz.infoRun;have G9:=h.own.lt;obtain⟨kp,H0⟩:=Qhz h hL;obtain⟨q,R⟩:=zE (KS L 8);have Gv:Hid (QdA L 8=QeX L q q.length):=by
  refine hid ?_;rw [Qf3 L q _ zL,List.take_length,<- R];rfl
 have Kc:q.length<=8:=by rw [<- R];exact Qg6 L 8
 have Hs:Hid (∀x∈q,0<=x/\ x<8/\ L x≠[]):=fun x S=>by
  rw [<- R] at S;have:=(QeY L 8 x).1 S;exact⟨this.1,by omega,fun e=>by rw [e] at this;simp at this⟩
 have Ga:Hid (∀ss:List Int,ss.Perm (intKeys D) ->ss.mergeSort (fun x y=>decide (x<=y))=q/\ ss.length=q.length):=fun ss hs=>by rw [<- R];exact⟨QeZ kp hs,by rw [hs.length_eq,<- kp.length_eq]⟩
 rw [R] at H0;clear R kp hL;have HG:=hid h;have H8:=hid hl;have Hh:Hid (∀r g,(G r).ownBlock=some g ->g<w.heap.size):=fun r g O=>((h.rows r).lt g O).2;clear h hl;obtain⟨V,I⟩:=zE ((w.alloc (.cells #[.slice none 0 0] 38)).alloc (.cells #[.slice none 0 0] 38));have H3:Hid (Bl w V):=by rw [<- I];exact hid (Qae _ _ _)
 have X:Hid (V.heap.size=w.heap.size+2):=by rw [<- I];exact hid (by simp)
 have c2:V.cell? ⟨w.heap.size,0,none⟩=some (.slice none 0 0):=by rw [<- I];simp
 have c3:V.cell? ⟨w.heap.size+1,0,none⟩=some (.slice none 0 0):=by rw [<- I];simp
 have f2:V.frozen? ⟨w.heap.size,0,none⟩=false:=by rw [<- I];simp
 have f3:V.frozen? ⟨w.heap.size+1,0,none⟩=false:=by rw [<- I];simp
 have Hg:=hid (HG.bw H3);go_enter Tryz.func144,Tryz.ntmps144;go_wp2_with fail;try rw [I]
 refine(QmK (some bm) V).mono ?_;rintro e w3 ⟨rfl,rfl⟩;go_wp2_with fail;refine(QiO bm n D Qcj V Hg.own (by rw [H0];unfold maxLen;omega) (by rw [H0];omega)).mono ?_;rintro e o ⟨v4,ss,rfl,He,Hc,K⟩;obtain⟨Ge,Gf⟩:=Ga ss He;rw [Ge,Gf] at Hc;have z4:w.heap.size+2<=o.heap.size:=by have:=K.size;have:=X.out;omega
 have d2:=(K.cell (p:=⟨w.heap.size,0,none⟩) (by have:=X.out;show w.heap.size<_;omega)).trans c2;have d3:=(K.cell (p:=⟨w.heap.size+1,0,none⟩) (by have:=X.out;show w.heap.size+1<_;omega)).trans c3;have k2:=((Qcm K).2 w.heap.size 0 (by have:=X.out;omega)).trans f2;have k3:=((Qcm K).2 (w.heap.size+1) 0 (by have:=X.out;omega)).trans f3;have H4:=hid (Qaa H3 K);have H6:=hid (HG.bw H4);clear He Ge Gf Ga K I c2 c3 Hg f2 f3;have G0:Hid (q.length=0 \/∃g E,v4=.slice (some ⟨g,0,none⟩) q.length E/\ g<o.heap.size/\ w.heap.size+2<=g/\ q.length<=E/\ E<=9223372036854775807/\∀i,i<q.length ->o.cell? ⟨g,i,none⟩=some (.int .i64 (q.getD i 0))):=by
  refine hid ?_;have hr:=Hc;rcases Hc.2 with ⟨_,e0⟩|⟨g,E,Hu,rfl,G8,O,G2,Gy,Ka,Gl⟩
  ·exact .inl e0
  ·have:=X.out;unfold maxLen at Gy;exact .inr ⟨g,E,rfl,(hr.lt g rfl).2,by omega,G2,by omega,Qhf hr rfl⟩
 obtain⟨x4,Gb,e4⟩:∃x c,v4=.slice x q.length c:=by
  rcases Hc.2 with ⟨rfl,e0⟩|⟨g,E,Hu,rfl,_⟩
  ·exact⟨none,0,by rw [e0]⟩
  ·exact⟨_,_,rfl⟩
 subst e4;clear Hc;go_wp2_with fail;go_loopw [12] (fun iv wr=>∃(k:Nat) (v:Value),k<=q.length/\ iv=.int .i64 k/\ wr.cell? ⟨w.heap.size+1,0,none⟩=some v/\ wr.cell? ⟨w.heap.size,0,none⟩=some (.slice none 0 0)/\ wr.frozen? ⟨w.heap.size,0,none⟩=false/\ wr.frozen? ⟨w.heap.size+1,0,none⟩=false/\ Hid (FR wr o.heap.size v (QeX L q k))/\ Hid (o.grownBy wr (some (w.heap.size+1)))) (fun iv _=>q.length - (intOf iv).toNat);case atStart=>exact⟨0,_,Nat.zero_le _,rfl,d3,d2,k2,k3,hid (World.ownsRow_nil _ _ _ _),hid ⟨rfl,rfl,rfl,Nat.le_refl _,fun _ _ _=>rfl⟩⟩
 case round=>
  clear d2 d3 k2 k3;obtain⟨k,v,hk,rfl,Y,z,T,W,Hk,Hn⟩:=hrel;by_cases Hz:k<q.length
  ·have Hb:∃g,x4=some ⟨g,0,none⟩/\ q.length<=Gb/\ Gb<=9223372036854775807/\ wr.cell? ⟨g,k,none⟩=some (.int .i64 (q.getD k 0)):=by
    rcases G0.out with h|⟨g,E,e,O,Kb,q1,q2,hc⟩
    ·omega
    ·injection e with e1 z Y;subst e1 Y;have Hm:some g≠some (w.heap.size+1):=fun e=>by injection e with e;omega
     exact⟨g,rfl,q1,q2,Hn.cell (hc k Hz) Hm⟩
   obtain⟨g,rfl,Ke,Kf,Gh⟩:=Hb;have Hl:=Hs (q.getD k 0) (by simp [List.getD,Hz]);have Hi:Hid (QeX L q (k+1)=QeX L q k++tag (q.getD k 0) (L (q.getD k 0))):=hid rfl;have Kd:=Qha H8 q k;obtain⟨x,S⟩:=zE (q.getD k 0);rw [S] at Hl Gh Hi;have Gn:(Lit.int .i64 x).wf=true:=wfI (by omega) (by omega);have gw:QeV wr bm n D G L:=H6.gr Hn (fun e=>by injection e with e;omega) (fun r g O e=>by injection e with e;have:=Hh r g O;omega);have Hy:=gw.look x Gn;obtain⟨xs,cs,eG,Gk,Hv,Gz⟩:=QcA (H6.rows x);rw [eG] at Hy;have Hx:=H8 x;obtain⟨m,hm⟩:=zE ((L x).length);have H9:=hid Gk;have Gw:Hid (∀a,xs=some a ->a.block<w.heap.size):=hid fun a ha=>by
    have:=Hh x a.block (by rw [eG,ha];rfl);exact this
   rw [hm] at Hy Hv Hx H9;have HM:=hid hm;have HX:=hid S;clear gw eG Gk hm S Hl Gn;go_wp2_with fail;go_loopw [20] (fun iv wr2=>∃(t:Nat) (v2:Value),t<=m/\ iv=.int .i64 t/\ wr2.cell? ⟨w.heap.size+1,0,none⟩=some v2/\ wr2.cell? ⟨w.heap.size,0,none⟩=some (.slice none 0 0)/\ wr2.frozen? ⟨w.heap.size,0,none⟩=false/\ wr2.frozen? ⟨w.heap.size+1,0,none⟩=false/\ Hid (FR wr2 o.heap.size v2 (QeX L q k++(tag x (L x)).take t))/\ Hid (o.grownBy wr2 (some (w.heap.size+1)))) (fun iv _=>m - (intOf iv).toNat);case atStart=>exact⟨0,v,Nat.zero_le _,rfl,Y,z,T,W,hid (by simpa using Hk.out),Hn⟩
   case round=>
    clear Y z Hy Hk Gh T W;obtain⟨t,v2,ht,rfl,Y,z,T,W,F,P⟩:=hrel;have zr:=P.size;have G1:(QeX L q k++(tag x (L x)).take t).length<=4000*k+4000:=by simp only [List.length_append,List.length_take];omega
    obtain⟨fl,Hw⟩:=zE (QeX L q k++(tag x (L x)).take t);rw [Hw] at F G1;have H5:=hid Hw;clear Hw;by_cases H1:t<m
    ·have Hb:∃Z Hf,xs=some ⟨Z,Hf,none⟩/\ wr.cell? ⟨Z,Hf+t*2,none⟩=some (.int .i64 (sF (L x) t))/\ wr.cell? ⟨Z,Hf+t*2+1,none⟩=some (.int .i64 (sT (L x) t)):=by
      rcases H9.out with h|⟨Z,Hf,e,O,hc⟩
      ·omega
      ·have H:=Gw _ e;have Hm:some Z≠some (w.heap.size+1):=fun e=>by injection e with e;have H:Z<w.heap.size:=H;omega
       exact⟨Z,Hf,e,P.cell (hc t H1).1 Hm,P.cell (hc t H1).2 Hm⟩
     obtain⟨Z,Hf,rfl,s0,s1⟩:=Hb;have Ht:=hid (Qka (r:=x) (l:=L x) (t:=t) (by have:=HM.out;omega));obtain⟨qf,Gi⟩:=zE (sF (L x) t);obtain⟨qt,Gj⟩:=zE (sT (L x) t);rw [Gi] at s0 Ht;rw [Gj] at s1 Ht;clear Gi Gj;obtain⟨s,J⟩:=zE (wr.alloc (.cells #[.int .i64 qf,.int .i64 qt] 233));have B:Bl wr s:=by rw [<- J];exact zO _ _
     have r0:s.cell? ⟨wr.heap.size,0,none⟩=some (.int .i64 qf):=by rw [<- J];simp
     have r1:s.cell? ⟨wr.heap.size,1,none⟩=some (.int .i64 qt):=by rw [<- J];simp
     have Gd:=(B.cell (p:=⟨w.heap.size+1,0,none⟩) (show w.heap.size+1<wr.heap.size by omega)).trans Y;have Gr:Hid (FR s o.heap.size v2 fl):=by rw [<- J];exact World.ownsRow.alloc F _
     have Gt:Hid (o.grownBy s (some (w.heap.size+1))):=by rw [<- J];exact hid (P.andThen (World.grownBy_alloc wr _ none) (fun j hj=>by cases hj))
     have Ho:=hid ((B.cell (p:=⟨w.heap.size,0,none⟩) (show w.heap.size<wr.heap.size by omega)).trans z);have Hq:=hid (((Qcm B).2 w.heap.size 0 (by omega)).trans T);have Hr:=hid (((Qcm B).2 (w.heap.size+1) 0 (by omega)).trans W);have z5:=B.size;have H2:Hid (∀g,v2.ownBlock=some g ->o.heap.size<=g):=hid fun g O=>(World.ownsRow.lt F g O).1;clear B F P z T W;go_wp2_with (at_builtin;(try rw [J]);refine Qao rfl _ _ 36 rfl o.heap.size 124 i0 _ 3 24 Tryz.underlying36 hi G3 G4 G5 rfl (by decide) _ _ _ rfl (World.ownsRow.alloc Gr _) ⟨s.heap.size,0,none⟩ 1 1 [.int .i64 x,.int .i64 qf,.int .i64 qt] rfl rfl ?c1 ?c2 ?c3 ?c4 ?c5 ?_);case c1=>exact QaI _ _ _ _ _
     case c2=>intro u hu;simp at hu;rcases hu with rfl|rfl|rfl<;>rfl
     case c3=>unfold maxLen;omega
     case c4=>omega
     case c5=>simp;omega
     intro b A Ha N Hd;obtain⟨y7,n7,c7,rfl⟩:=QaK Ha;obtain⟨b,Gm⟩:∃b,b=Value.slice y7 n7 c7:=⟨_,rfl⟩;rw [<- Gm] at Ha Hd;have Gg:some (w.heap.size+1)≠v2.ownBlock:=fun e=>by have:=H2 _ e.symm;omega
     have Hj:some w.heap.size≠v2.ownBlock:=fun e=>by have:=H2 _ e.symm;omega
     have C:Bl s (s.alloc (.cells #[.int .i64 x,.int .i64 qf,.int .i64 qt] 124)):=zO _ _;have Gx:=N.cell ((C.cell (p:=⟨w.heap.size+1,0,none⟩) (show w.heap.size+1<s.heap.size by omega)).trans Gd) Gg;have Gc:=N.cell ((C.cell (p:=⟨w.heap.size,0,none⟩) (show w.heap.size<s.heap.size by omega)).trans Ho) Hj;have z7:=N.size;have z6:=C.size;have G7:A.frozen? ⟨w.heap.size+1,0,none⟩=false:=(World.frozen?_of_block (N.block (w.heap.size+1) (by omega) Gg)).trans (((Qcm C).2 (w.heap.size+1) 0 (by omega)).trans Hr);have G6:A.frozen? ⟨w.heap.size,0,none⟩=false:=(World.frozen?_of_block (N.block w.heap.size (by omega) Hj)).trans (((Qcm C).2 w.heap.size 0 (by omega)).trans Hq);have Hp:Hid (FR A o.heap.size b (QeX L q k++(tag x (L x)).take (t+1))):=by
      rw [Ht.out,<- List.append_assoc,H5.out];unfold FR;rw [Qdu,List.length_append];exact hid Ha
     have H7:Hid (o.grownBy A (some (w.heap.size+1))):=hid ((Gt.andThen (World.grownBy_alloc s _ none) (fun j hj=>by cases hj)).andThen N (fun j hj=> .inl (H2 j hj)));have Gs:Hid (FR (A.setCell ⟨w.heap.size+1,0,none⟩ b) o.heap.size b (QeX L q k++(tag x (L x)).take (t+1))):=by
      refine hid ?_;refine World.ownsRow.kept Hp (Qan A ⟨w.heap.size+1,0,none⟩ b) ?_;cases e:b.ownBlock with
      | none=>exact .inl rfl
      | some g=>exact .inr (fun z=>by have:=(World.ownsRow.lt Hp g e).1;injection z with z;have z:g=w.heap.size+1:=z;omega)
     have Gu:Hid (o.grownBy (A.setCell ⟨w.heap.size+1,0,none⟩ b) (some (w.heap.size+1))):=hid (H7.andThen (Qan A ⟨w.heap.size+1,0,none⟩ b) (fun j hj=> .inr hj));have Gp:=World.cell?_setCell_same A ⟨w.heap.size+1,0,none⟩ b Gx;have Go:(A.setCell ⟨w.heap.size+1,0,none⟩ b).cell? ⟨w.heap.size,0,none⟩=some (.slice none 0 0):=(World.cell?_setCell_far A ⟨w.heap.size+1,0,none⟩ ⟨w.heap.size,0,none⟩ b (by show w.heap.size+1≠w.heap.size;omega)).trans Gc;have HK:=hid (And.intro Gp Go);subst Gm;clear Ha N Hd Gd r0 r1 s0 s1 C Y J Gp Go Gc Hp H7;go_wp2_with fail;go_roundw;case rel=>exact⟨t+1,_,H1,by go_num,HK.1,HK.2,by simpa using G6,by simpa using G7,Gs,Gu⟩
     case measure=>simp [intOf];omega
    ·obtain rfl:t=m:=by omega
     have Gq:Hid (FR wr o.heap.size v2 (QeX L q (k+1))):=by
      rw [Hi.out];have H:=F.out;rw [<- H5.out,List.take_of_length_le (by simp only [tag,List.length_map];have:=HM.out;omega)] at H;exact hid H
     clear F;go_wp2_with fail;go_roundw;case rel=>exact⟨k+1,v2,Hz,by go_num,Y,z,T,W,Gq,P⟩
     case measure=>simp [intOf];omega
  ·obtain rfl:k=q.length:=by omega
   obtain⟨U,Q,M,rfl⟩:=QaK Hk;have HF:Hid (FR (wr.setCell ⟨w.heap.size,0,none⟩ (.slice U Q M)) w.heap.size (.slice U Q M) (QdA L 8)):=by
    rw [Gv.out];have H:=Hk.out;have h2:FR wr w.heap.size (.slice U Q M) (QeX L q q.length):=by
     obtain⟨q1,q2⟩:=H;refine⟨q1,q2.imp id ?_⟩;rintro⟨g,E,Hu,e,O,r⟩;exact⟨g,E,Hu,e,by omega,r⟩
    refine hid (World.ownsRow.kept h2 (Qan wr ⟨w.heap.size,0,none⟩ (.slice U Q M)) ?_);cases e:(Value.slice U Q M).ownBlock with
    | none=>exact .inl rfl
    | some g=>exact .inr (fun z=>by have:=(World.ownsRow.lt H g e).1;injection z with z;have z:g=w.heap.size:=z;omega)
   have HB:Hid (Bl w (wr.setCell ⟨w.heap.size,0,none⟩ (.slice U Q M))):=hid ((H4.grown Hn (by omega) (fun k hk=>by injection hk with hk;omega)).setCell (p:=⟨w.heap.size,0,none⟩) zL (.slice U Q M));have k2:=World.cell?_setCell_same wr ⟨w.heap.size,0,none⟩ (.slice U Q M) z;clear Hk;go_wp2_with fail;refine zF (v:=.agg #[.slice U Q M]) (by simp [results,Tryz.results144,go_sem,k2]) ⟨_,rfl,HF,HB⟩
def gR (l:List Rn)(i:Nat):Rn:=l.getD i (0,0,0)
def FS (w:World)(a:Option Addr)(l:List Rn):Prop:=
 l.length=0 \/∃g off,a=some ⟨g,off,none⟩/\ g<w.heap.size/\∀i,i<l.length ->w.cell? ⟨g,off+i*3,none⟩=some (.int .i64 (gR l i).1)/\ w.cell? ⟨g,off+i*3+1,none⟩=some (.int .i64 (gR l i).2.1)/\ w.cell? ⟨g,off+i*3+2,none⟩=some (.int .i64 (gR l i).2.2)
theorem Qj2{cap:Nat}(h:w.ownsRow B 124 3 (.slice (some ⟨g,0,none⟩) n cap) n (Qaq l))(hl:l.length=n):
  ∀i,i<n ->w.cell? ⟨g,i*3,none⟩=some (.int .i64 (gR l i).1)/\ w.cell? ⟨g,i*3+1,none⟩=some (.int .i64 (gR l i).2.1)/\ w.cell? ⟨g,i*3+2,none⟩=some (.int .i64 (gR l i).2.2):=by
 intro i hi;have j:∀(l:List Rn) (i:Nat),i<l.length ->(Qaq l)[i*3]? =some (.int .i64 (gR l i).1)/\ (Qaq l)[i*3+1]? =some (.int .i64 (gR l i).2.1)/\ (Qaq l)[i*3+2]? =some (.int .i64 (gR l i).2.2):=by
  intro l;induction l with
  | nil=>intro i hi;simp at hi
  | cons a l ih=>
   intro i hi;cases i with
   | zero=>simp [Qaq,gR]
   | succ i=>
    have:=ih i (by simpa using hi);have e:Qaq (a::l)=.int .i64 a.1::.int .i64 a.2.1::.int .i64 a.2.2::Qaq l:=by simp [Qaq]
    rw [e,show (i+1)*3=i*3+1+1+1 from by omega];simpa [gR] using this
 rw [h.cellAt _ (by omega),h.cellAt _ (by omega),h.cellAt _ (by omega)];exact j l i (by omega)
theorem FR.fs(h:FR w B v l):∃a c,v=.slice a l.length c/\ FS w a l/\ l.length<=c/\ c<=9223372036854775807:=by
 rcases h.2 with ⟨e,j⟩|⟨g,m,u,e,y,_,r,q,_⟩
 ·exact⟨none,0,by rw [e,j],.inl j,by omega,by omega⟩
 ·refine⟨_,m,e,.inr ⟨g,0,rfl,(World.ownsRow.lt h g (by rw [e];rfl)).2,fun i hi=> ?_⟩,r,by unfold maxLen at q;omega⟩;have k:w.ownsRow B 124 3 v l.length (Qaq l):=h;rw [e] at k;rw [Nat.zero_add];exact Qj2 k rfl i hi
theorem QdZ (l:List Rn):(Qaq l).length=l.length*3:=by
 induction l with
 | nil=>rfl
 | cons a l ih=>simp [Qaq] at*;omega
theorem FS.rseg(h:FS w a l):Qa7 w a l.length (fun i=>(gR l i).1) (fun i=>(gR l i).2.1) (fun i=>(gR l i).2.2):=h
theorem FR.gr{row:Option Nat}(h:FR w B v l)(hg:w.grownBy w' row)(hne:∀g,v.ownBlock=Option.some g ->Option.some g≠row):FR w' B v l:=
 World.ownsRow.kept h hg (by
  cases e:v.ownBlock with
  | none=>exact .inl rfl
  | some g=>exact .inr (hne g e))
theorem FR.bw(h:FR w B v l)(hb:Bl w w'):FR w' B v l:=
 h.gr (row:=none) ⟨hb.os,hb.tape,hb.output,hb.size,fun k hk _=>hb.block k hk⟩ (by simp)
def stK (l:List Rn)(r:Rn)(k:Nat):List Rn×Rn×List Rn:=(l.take k).foldl QaE ([],r,[])
theorem QeO{r:Rn}(h:k<l.length):stK l r (k+1)=QaE (stK l r k) (gR l k):=by
 unfold stK;rw [List.take_add_one,List.foldl_append];simp [gR,List.getD,h]
theorem QiT (l:List Rn)(r:Rn):stK l r l.length=Qga l r:=by unfold stK Qga;rw [List.take_length]
def Bnd (p:Rn):Prop:=(-2000000000<=p.1/\ p.1<=2000000000)/\ (-2000000000<=p.2.1/\ p.2.1<=2000000000)/\ -2000000000<=p.2.2/\ p.2.2<=2000000000
theorem Rok.bnd {p:Rn}(h:Rok p):Bnd p:=by unfold Rok at h;unfold Bnd;omega
theorem Qgb {s:List Rn×Rn×List Rn}{q:Rn}(h:Bnd s.2.1)(hq:Bnd q):Bnd (QaE s q).2.1:=by
 unfold QaE;split
 ·exact h
 ·split
  ·exact h
  ·unfold Bnd at*;simp only;omega
theorem Qgc (s:List Rn×Rn×List Rn)(q:Rn):(QaE s q).1.length+(QaE s q).2.2.length<=s.1.length+s.2.2.length+1:=by
 unfold QaE;split
 ·simp;omega
 ·split
  ·simp;omega
  ·simp
theorem Qg0 (l:List Rn)(r:Rn):∀k,k<=l.length ->(stK l r k).1.length+(stK l r k).2.2.length<=k
 | 0,_=>by simp [stK]
 | k+1,h=>by
  rw [QeO (by omega)];have:=Qgc (stK l r k) (gR l k);have:=Qg0 l r k (by omega);omega
theorem Qku(h:k<l.length):gR l k∈l:=by simp [gR,List.getD,h]
theorem QiU {l:List Rn}{r:Rn}(hl:∀p∈l,Bnd p)(hr:Bnd r):∀k,k<=l.length ->Bnd (stK l r k).2.1
 | 0,_=>by simpa [stK] using hr
 | k+1,h=>by rw [QeO (by omega)];exact Qgb (QiU hl hr k (by omega)) (hl _ (Qku (by omega)))
theorem QbU {t r' f' f t':Int}:QaC r t r' f'=true↔Apt (r,f,t) (r',f',t'):=by unfold QaC Apt;simp
structure IL (w wr:World)(u5 u6:Value)(sb:List Rn)(qr qf qt:Int)(sa:List Rn):Prop where
 b:FR wr (w.heap.size+1) u5 sb
 a:FR wr (w.heap.size+1) u6 sa
 ne:∀g,u5.ownBlock=some g ->u6.ownBlock≠some g
 nb:u5.ownBlock≠none
 na:u6.ownBlock≠none
 bel:Bl w wr
 sz:w.heap.size+1<=wr.heap.size
 c0:wr.cell? ⟨w.heap.size,0,none⟩=some (.int .i64 qr)
 c1:wr.cell? ⟨w.heap.size,1,none⟩=some (.int .i64 qf)
 c2:wr.cell? ⟨w.heap.size,2,none⟩=some (.int .i64 qt)
 f1:wr.frozen? ⟨w.heap.size,1,none⟩=false
 f2:wr.frozen? ⟨w.heap.size,2,none⟩=false
theorem IL.q2(h:IL w wr u5 u6 sb qr qf qt sa):(wr.cell? ⟨w.heap.size,0,none⟩=some (.int .i64 qr))/\ (wr.cell? ⟨w.heap.size,1,none⟩=some (.int .i64 qf)):=⟨h.c0,h.c1⟩
theorem IL.q3(h:IL w wr u5 u6 sb qr qf qt sa):(wr.cell? ⟨w.heap.size,0,none⟩=some (.int .i64 qr))/\ (wr.cell? ⟨w.heap.size,1,none⟩=some (.int .i64 qf))/\ (wr.cell? ⟨w.heap.size,2,none⟩=some (.int .i64 qt)):=⟨h.c0,h.c1,h.c2⟩
theorem IL.box5(h:IL w wr u5 u6 sb qr qf qt sa):some w.heap.size≠u5.ownBlock:=fun e=>by have:=(World.ownsRow.lt h.b _ e.symm).1;omega
theorem IL.bw(h:IL w wr u5 u6 sb qr qf qt sa)(hb:Bl wr w1):IL w w1 u5 u6 sb qr qf qt sa:=by
 have j:=h.sz;have k:=hb.size;exact⟨QbS h.b hb,QbS h.a hb,h.ne,h.nb,h.na,h.bel.trans (hb.mono (by omega)),by omega,(hb.cell (p:=⟨w.heap.size,0,none⟩) (show w.heap.size<wr.heap.size by omega)).trans h.c0,(hb.cell (p:=⟨w.heap.size,1,none⟩) (show w.heap.size<wr.heap.size by omega)).trans h.c1,(hb.cell (p:=⟨w.heap.size,2,none⟩) (show w.heap.size<wr.heap.size by omega)).trans h.c2,((Qcm hb).2 w.heap.size 1 (by omega)).trans h.f1,((Qcm hb).2 w.heap.size 2 (by omega)).trans h.f2⟩
theorem IL.app5(h:IL w wr u5 u6 sb qr qf qt sa)(p:Rn)(hown:w1.ownsRow (w.heap.size+1) 124 3 v (sb.length+1) (Qaq sb++[.int .i64 p.1,.int .i64 p.2.1,.int .i64 p.2.2]))
  (hg:wr.grownBy w1 u5.ownBlock) (hloc:v.ownBlock=u5.ownBlock \/v.ownBlock=some wr.heap.size):IL w w1 v u6 (sb++[p]) qr qf qt sa:=by
 have r:=h.sz;have u:=hg.size;have m:=h.box5;have q:=hg.block w.heap.size (by omega) m;refine⟨?_,World.ownsRow.kept h.a hg ?_,fun g e1 e2=> ?_,?_,h.na,h.bel.grown hg (by omega) (fun k hk=>by have:=(World.ownsRow.lt h.b k hk).1;omega),by omega,hg.cell h.c0 m,hg.cell h.c1 m,hg.cell h.c2 m,(World.frozen?_of_block q).trans h.f1,(World.frozen?_of_block q).trans h.f2⟩
 ·unfold FR;rw [Qdu,List.length_append];exact hown
 ·cases e:u6.ownBlock with
  | none=>exact .inl rfl
  | some g=>exact .inr (fun e2=>h.ne g e2.symm e)
 ·rcases hloc with j|j
  ·exact h.ne g (j ▸ e1) e2
  ·rw [j] at e1;injection e1 with e1;have:=(World.ownsRow.lt h.a g e2).2;omega
 ·rcases hloc with j|j
  ·rw [j];exact h.nb
  ·rw [j];simp
theorem IL.app6(h:IL w wr u5 u6 sb qr qf qt sa)(p:Rn)(hown:w1.ownsRow (w.heap.size+1) 124 3 v (sa.length+1) (Qaq sa++[.int .i64 p.1,.int .i64 p.2.1,.int .i64 p.2.2]))
  (hg:wr.grownBy w1 u6.ownBlock) (hloc:v.ownBlock=u6.ownBlock \/v.ownBlock=some wr.heap.size):IL w w1 u5 v sb qr qf qt (sa++[p]):=by
 have k:IL w wr u6 u5 sa qr qf qt sb:=⟨h.a,h.b,fun g e1 e2=>h.ne g e2 e1,h.na,h.nb,h.bel,h.sz,h.c0,h.c1,h.c2,h.f1,h.f2⟩;have j:=k.app5 p hown hg hloc;exact⟨j.a,j.b,fun g e1 e2=>j.ne g e2 e1,j.na,j.nb,j.bel,j.sz,j.c0,j.c1,j.c2,j.f1,j.f2⟩
theorem IL.row_set(h:FR wr (w.heap.size+1) v l)(i:Nat)(u:Value):FR (wr.setCell ⟨w.heap.size,i,none⟩ u) (w.heap.size+1) v l:=by
 refine World.ownsRow.kept h (Qan wr ⟨w.heap.size,i,none⟩ u) ?_;cases e:v.ownBlock with
 | none=>exact .inl rfl
 | some g=>exact .inr (fun j=>by have:=(World.ownsRow.lt h g e).1;injection j with j;have j:g=w.heap.size:=j;omega)
theorem IL.set1(h:IL w wr u5 u6 sb qr qf qt sa)(z:Int):IL w (wr.setCell ⟨w.heap.size,1,none⟩ (.int .i64 z)) u5 u6 sb qr z qt sa:=
 ⟨IL.row_set h.b _ _,IL.row_set h.a _ _,h.ne,h.nb,h.na,h.bel.setCell (p:=⟨w.heap.size,1,none⟩) zL _,by simpa using h.sz,(World.cell?_setCell_other _ _ _ _ (by simp)).trans h.c0,World.cell?_setCell_same _ _ _ h.c1,(World.cell?_setCell_other _ _ _ _ (by simp)).trans h.c2,by simpa using h.f1,by simpa using h.f2⟩
theorem IL.set2(h:IL w wr u5 u6 sb qr qf qt sa)(z:Int):IL w (wr.setCell ⟨w.heap.size,2,none⟩ (.int .i64 z)) u5 u6 sb qr qf z sa:=
 ⟨IL.row_set h.b _ _,IL.row_set h.a _ _,h.ne,h.nb,h.na,h.bel.setCell (p:=⟨w.heap.size,2,none⟩) zL _,by simpa using h.sz,(World.cell?_setCell_other _ _ _ _ (by simp)).trans h.c0,(World.cell?_setCell_other _ _ _ _ (by simp)).trans h.c1,World.cell?_setCell_same _ _ _ h.c2,by simpa using h.f1,by simpa using h.f2⟩
theorem IL.drew(h:IL w wr u5 u6 sb qr qf qt sa):IL w wr.drew u5 u6 sb qr qf qt sa:=h.bw zI.drew
theorem Qea (l:List Rn):∀u∈Qaq l,u.oneCell'=true:=by
 intro u j;unfold Qaq at j;obtain⟨p,_,h⟩:=List.mem_flatMap.1 j;simp at h;rcases h with rfl|rfl|rfl<;>rfl
theorem Qez (l l':List Rn):Qaq (l++l')=Qaq l++Qaq l':=by simp [Qaq]
theorem Qel (r f t r' f' t':Int)(w:World)(h0: -2000000000<=t)(h1:t<=2000000000):
  Cl 97 #[.agg #[.int .i64 r,.int .i64 f,.int .i64 t],.agg #[.int .i64 r',.int .i64 f',.int .i64 t']] w (Rt w (.bool (QaC r t r' f'))):=by
 by_cases q:r<r'
 ·have j:=hid (Qbb (t:=t) (f':=f') (.inl q));go_enter Tryz.func97,Tryz.ntmps97;go_wp2_with fail;go_ret;exact⟨QbE j.symm,Qae _ _ _⟩
 ·by_cases k:r=r'
  ·subst k;by_cases m:t+1<f'
   ·have j:=hid (Qbb (r:=r) (r':=r) (.inr ⟨rfl,m⟩));go_enter Tryz.func97,Tryz.ntmps97;go_wp2_with fail;go_ret;exact⟨QbE j.symm,Qae _ _ _⟩
   ·have j:=hid (QaS (r:=r) (r':=r) (t:=t) (f':=f') (by omega));go_enter Tryz.func97,Tryz.ntmps97;go_wp2_with fail;go_ret;exact⟨QbE j.symm,Qae _ _ _⟩
  ·have m:(r==r')=false:=by simp;exact k
   have j:=hid (QaS (r:=r) (r':=r') (t:=t) (f':=f') (by omega));go_enter Tryz.func97,Tryz.ntmps97;go_wp2_with fail;go_ret;exact⟨QbE j.symm,Qae _ _ _⟩
theorem QjW (a:Option Addr)(c:Nat)(l:List Rn)(rr rf rt:Int)(w:World)(hn:l.length<=100000)(h:FS w a l)(hl:∀p∈l,Bnd p)(hr:Bnd (rr,rf,rt)):
  Cl 95 #[.slice a l.length c,.agg #[.int .i64 rr,.int .i64 rf,.int .i64 rt]] w fun e w'=>∃v,e=.returned v/\ FR w' w.heap.size v (ins l (rr,rf,rt))/\ Bl w w':=by
 obtain⟨i0,hi,Hr,Hs,Ht⟩:=info_parts Tryz.infoRun;obtain⟨A,Hi⟩:=zE (stK l (rr,rf,rt));obtain⟨n,F⟩:=zE l.length;have HI:Hid (∀k,k<=n ->Bnd (A k).2.1):=by rw [<- Hi,<- F];exact hid (QiU hl hr)
 have HS:Hid (∀k,k<n ->A (k+1)=QaE (A k) (gR l k)):=by rw [<- Hi,<- F];exact hid fun k C=>QeO C
 have HZ:Hid (A 0=([],(rr,rf,rt),[])):=by rw [<- Hi];exact hid rfl
 have HE:Hid (ins l (rr,rf,rt)=(A n).1++[(A n).2.1]++(A n).2.2):=by rw [<- Hi,<- F,QiT];exact hid rfl
 have Hy:Hid (∀k,k<=n ->(A k).1.length+(A k).2.2.length<=k):=by rw [<- Hi,<- F];exact hid (Qg0 l _)
 have Gb:Hid (∀k,k<n ->Bnd (gR l k)):=by rw [<- F];exact hid fun k C=>hl _ (Qku C)
 have Ga:Hid (n=0 \/∃g y,a=some ⟨g,y,none⟩/\ g<w.heap.size/\∀i,i<n ->w.cell? ⟨g,y+i*3,none⟩=some (.int .i64 (gR l i).1)/\ w.cell? ⟨g,y+i*3+1,none⟩=some (.int .i64 (gR l i).2.1)/\ w.cell? ⟨g,y+i*3+2,none⟩=some (.int .i64 (gR l i).2.2)):=by rw [<- F];exact hid h
 rw [F] at hn ⊢;clear Hi F h hl;obtain⟨Z,J⟩:=zE (w.alloc (.cells #[.int .i64 rr,.int .i64 rf,.int .i64 rt] 124));have z0:Z.heap.size=w.heap.size+1:=by rw [<- J];simp
 have H6:Hid (Bl w Z):=by rw [<- J];exact hid (zO _ _)
 have x0:Z.cell? ⟨w.heap.size,0,none⟩=some (.int .i64 rr):=by rw [<- J];simp
 have x1:Z.cell? ⟨w.heap.size,1,none⟩=some (.int .i64 rf):=by rw [<- J];simp
 have x2:Z.cell? ⟨w.heap.size,2,none⟩=some (.int .i64 rt):=by rw [<- J];simp
 have y1:Z.frozen? ⟨w.heap.size,1,none⟩=false:=by rw [<- J];simp
 have y2:Z.frozen? ⟨w.heap.size,2,none⟩=false:=by rw [<- J];simp
 go_enter Tryz.func95,Tryz.ntmps95;go_wp2_with fail;try rw [J]
 have Hm:Hid (IL w ((Z.alloc (.cells #[] 124)).alloc (.cells #[] 124)) (.slice (some ⟨w.heap.size+1,0,none⟩) 0 0) (.slice (some ⟨w.heap.size+1+1,0,none⟩) 0 0) [] rr rf rt []):=by
  refine hid ?_;have I:Bl Z ((Z.alloc (.cells #[] 124)).alloc (.cells #[] 124)):=Qae _ _ _;have q1:=World.ownsRow_lit (base:=w.heap.size+1) (e:=124) (size:=3) Z #[] 0 (by omega) (by unfold maxLen;omega) rfl;have q2:=World.ownsRow_lit (base:=w.heap.size+1) (e:=124) (size:=3) (Z.alloc (.cells #[] 124)) #[] 0 (by simp;omega) (by unfold maxLen;omega) rfl;have zz:(Z.alloc (.cells #[] 124)).heap.size=w.heap.size+1+1:=by simp;omega
  rw [z0] at q1;rw [zz] at q2;refine⟨World.ownsRow.alloc q1 _,q2,fun g e1 e2=> ?_,by simp [Value.ownBlock],by simp [Value.ownBlock],H6.trans (I.mono (by omega)),by simp;omega,(I.cell (p:=⟨w.heap.size,0,none⟩) (show w.heap.size<_ by omega)).trans x0,(I.cell (p:=⟨w.heap.size,1,none⟩) (show w.heap.size<_ by omega)).trans x1,(I.cell (p:=⟨w.heap.size,2,none⟩) (show w.heap.size<_ by omega)).trans x2,((Qcm I).2 w.heap.size 1 (by omega)).trans y1,((Qcm I).2 w.heap.size 2 (by omega)).trans y2⟩;simp [Value.ownBlock] at e1 e2;omega
 clear x0 x1 x2 y1 y2 z0 J;go_loopw [5,6,7] (fun u5 u6 iv wr=>∃(k:Nat),k<=n/\ iv=.int .i64 k/\ Hid (IL w wr u5 u6 (A k).1 (A k).2.1.1 (A k).2.1.2.1 (A k).2.1.2.2 (A k).2.2)) (fun _ _ iv _=>n - (intOf iv).toNat);case atStart=>exact⟨0,Nat.zero_le _,rfl,by rw [HZ.out];exact Hm⟩
 case round=>
  clear Hm;obtain⟨k,C,rfl,V⟩:=hrel;have Hf:=HI k C;by_cases L:k<n
  ·have Hc:=HS k L;have Hv:=Hy k C;have H1:=Gb k L;have Hn:∃g y,a=some ⟨g,y,none⟩/\ g<w.heap.size/\ w.cell? ⟨g,y+k*3,none⟩=some (.int .i64 (gR l k).1)/\ w.cell? ⟨g,y+k*3+1,none⟩=some (.int .i64 (gR l k).2.1)/\ w.cell? ⟨g,y+k*3+2,none⟩=some (.int .i64 (gR l k).2.2):=by
    rcases Ga.out with h|⟨g,y,e,hg,hc⟩
    ·omega
    ·exact⟨g,y,e,hg,hc k L⟩
   obtain⟨g,y,rfl,hg,p0,p1,p2⟩:=Hn;generalize Hq:A k=sk at*;obtain⟨M,⟨o,t,q⟩,E⟩:=sk;generalize Hz:gR l k=gk at*;obtain⟨O,z,m⟩:=gk;simp only at p0 p1 p2 V Hv;unfold Bnd at Hf H1;simp only at Hf H1;have Hu:=hid Hc;have HP:=hid (And.intro p0 (And.intro p1 p2));have e0:=(V.bel.cell (p:=⟨g,y+k*3,none⟩) hg).trans p0;have e1:=(V.bel.cell (p:=⟨g,y+k*3+1,none⟩) hg).trans p1;have e2:=(V.bel.cell (p:=⟨g,y+k*3+2,none⟩) hg).trans p2;obtain⟨c0,c1,X⟩:=V.q3;have zr:=V.sz;have HK:=hid Hq;have Gh:=hid Hz;clear Hc Hq Hz p0 p1 p2;go_wp2_with fail;refine zR (S:=fun w'=>w'.cell? ⟨g,y+k*3,none⟩=some (.int .i64 O)/\ w'.cell? ⟨g,y+k*3+1,none⟩=some (.int .i64 z)/\ w'.cell? ⟨g,y+k*3+2,none⟩=some (.int .i64 m)/\ w'.cell? ⟨w.heap.size,0,none⟩=some (.int .i64 o)/\ w'.cell? ⟨w.heap.size,1,none⟩=some (.int .i64 t)/\ w'.cell? ⟨w.heap.size,2,none⟩=some (.int .i64 q)) ⟨e0,e1,e2,c0,c1,X⟩ (fun qh=> ?_);refine tZ 0 16 ?_;refine tZ 1 17 ?_;refine tZ 2 18 ?_;refine tZ 3 19 ?_;refine tZ 4 20 ?_;refine cZ 5 ?_;intro K hK;go_simp;refine(Qel O z m o t q _ (by omega) (by omega)).mono ?_;rintro e w1 ⟨rfl,b1⟩;have Hg:Bl wr w1:=(Below.refl _ wr).drew.trans b1;have Ha:=hid (V.bw Hg);have z1:=Hg.size;have s0:=(Hg.cell (p:=⟨g,y+k*3,none⟩) (show g<wr.heap.size by omega)).trans e0;have s1:=(Hg.cell (p:=⟨g,y+k*3+1,none⟩) (show g<wr.heap.size by omega)).trans e1;have s2:=(Hg.cell (p:=⟨g,y+k*3+2,none⟩) (show g<wr.heap.size by omega)).trans e2;obtain⟨t0,t1,t2⟩:=Ha.q3;refine hK.out _ _ ⟨s0,s1,s2,t0,t1,t2⟩ (fun qh=> ?_);clear hK K;try simp only [zP]
   refine zD ?_;clear qh e0 e1 e2 c0 c1 X b1 Hg V;by_cases hA:Apt (O,z,m) (o,t,q)
   ·rw [show QaC O m o t=true from QbU.2 hA];have N:Hid (A (k+1)=(M++[(O,z,m)],(o,t,q),E)):=by
     refine hid ?_;rw [Hu.out];unfold QaE;simp only;rw [if_pos hA]
    clear t0 t1 t2;go_wp2_with (at_builtin;refine Qao rfl _ _ 36 rfl (w.heap.size+1) 124 i0 _ 3 24 Tryz.underlying36 hi Hr Hs Ht rfl (by decide) _ _ _ rfl (World.ownsRow.alloc Ha.b _) ⟨w1.heap.size,0,none⟩ 1 1 [.int .i64 O,.int .i64 z,.int .i64 m] rfl rfl ?n1 ?n2 ?n3 ?n4 ?n5 ?_);try (case n1=>exact QaI _ _ _ _ _)
    case n2=>first|exact⟨rfl,rfl,rfl⟩|(intro u R;simp at R;rcases R with rfl|rfl|rfl<;>rfl)
    case n3=>unfold maxLen;omega
    case n4=>omega
    case n5=>first|omega|(simp;omega)
    intro v7 w7 P B D;have G:=hid ((Ha.bw (zO _ _)).app5 (O,z,m) P B (by simpa using D));clear P B D s0 s1 s2;go_wp2_with fail;go_roundw;case rel=>exact⟨k+1,L,by go_num,by rw [N.out];exact G⟩
    case measure=>simp [intOf];omega
   ·rw [show QaC O m o t=false from by rw [<- Bool.not_eq_true];exact fun h=>hA (QbU.1 h)];have HA:=hid hA;have v0:=t0;have v1:=t1;have v2:=t2;go_wp2_with fail;refine zR (S:=fun w'=>w'.cell? ⟨g,y+k*3,none⟩=some (.int .i64 O)/\ w'.cell? ⟨g,y+k*3+1,none⟩=some (.int .i64 z)/\ w'.cell? ⟨g,y+k*3+2,none⟩=some (.int .i64 m)/\ w'.cell? ⟨w.heap.size,0,none⟩=some (.int .i64 o)/\ w'.cell? ⟨w.heap.size,1,none⟩=some (.int .i64 t)/\ w'.cell? ⟨w.heap.size,2,none⟩=some (.int .i64 q)) ⟨s0,s1,s2,v0,v1,v2⟩ (fun qh=> ?_);refine tZ 0 29 ?_;refine tZ 1 30 ?_;refine tZ 2 31 ?_;refine tZ 3 32 ?_;refine tZ 4 33 ?_;refine cZ 5 ?_;intro K hK;go_simp;refine(Qel o t q O z m _ (by omega) (by omega)).mono ?_;rintro e T ⟨rfl,I⟩;have Hh:Bl w1 T:=(Below.refl _ w1).drew.trans I;have H:=hid (Ha.bw Hh);have z2:=Hh.size;have H2:=(Hh.cell (p:=⟨g,y+k*3,none⟩) (show g<w1.heap.size by omega)).trans s0;have Hj:=(Hh.cell (p:=⟨g,y+k*3+1,none⟩) (show g<w1.heap.size by omega)).trans s1;have Hk:=(Hh.cell (p:=⟨g,y+k*3+2,none⟩) (show g<w1.heap.size by omega)).trans s2;obtain⟨H3,Hl,H4⟩:=H.q3;refine hK.out _ _ ⟨H2,Hj,Hk,H3,Hl,H4⟩ (fun qh=> ?_);clear hK K;try simp only [zP]
    refine zD ?_;clear qh I Hh s0 s1 s2 t0 t1 t2 v0 v1 v2 Ha;by_cases hB:Apt (o,t,q) (O,z,m)
    ·rw [show QaC o q O z=true from QbU.2 hB];have N:Hid (A (k+1)=(M,(o,t,q),E++[(O,z,m)])):=by
      refine hid ?_;rw [Hu.out];unfold QaE;simp only;rw [if_neg HA.out,if_pos hB]
     clear H3 Hl H4;go_wp2_with (at_builtin;refine Qao rfl _ _ 36 rfl (w.heap.size+1) 124 i0 _ 3 24 Tryz.underlying36 hi Hr Hs Ht rfl (by decide) _ _ _ rfl (World.ownsRow.alloc H.a _) ⟨T.heap.size,0,none⟩ 1 1 [.int .i64 O,.int .i64 z,.int .i64 m] rfl rfl ?m1 ?m2 ?m3 ?m4 ?m5 ?_);try (case m1=>exact QaI _ _ _ _ _)
     case m2=>first|exact⟨rfl,rfl,rfl⟩|(intro u R;simp at R;rcases R with rfl|rfl|rfl<;>rfl)
     case m3=>unfold maxLen;omega
     case m4=>omega
     case m5=>first|omega|(simp;omega)
     intro v7 w7 P B D;have G:=hid ((H.bw (zO _ _)).app6 (O,z,m) P B (by simpa using D));clear P B D H2 Hj Hk;go_wp2_with fail;go_roundw;case rel=>exact⟨k+1,L,by go_num,by rw [N.out];exact G⟩
     case measure=>simp [intOf];omega
    ·rw [show QaC o q O z=false from by rw [<- Bool.not_eq_true];exact fun h=>hB (QbU.1 h)];have N:Hid (A (k+1)=(M,(o,min z t,max m q),E)):=by
      refine hid ?_;rw [Hu.out];unfold QaE;simp only;rw [if_neg HA.out,if_neg hB]
     have Hx:=hid H.f1;have Gg:=hid H.f2;clear hB;have H0:g≠w.heap.size:=by omega
     by_cases h1:z<t
     ·by_cases h2:q<m
      ·have d1:decide (z<t)=true:=by simp;exact h1
       have Hd:Hid (min z t=z):=hid (by omega);have d2:decide (q<m)=true:=by simp;exact h2
       have He:Hid (max m q=m):=hid (by omega);clear h1 h2;go_wp2_with fail;refine zR (S:=fun w'=>w'.cell? ⟨g,y+k*3+1,none⟩=some (.int .i64 z)/\ w'.cell? ⟨w.heap.size,1,none⟩=some (.int .i64 t)) ⟨Hj,Hl⟩ (fun qh=> ?_);refine tZ 0 42 ?_;refine tZ 1 43 ?_;refine tZ 2 44 ?_;refine tZ 3 45 ?_;refine tZ 4 46 ?_;refine tZ 5 47 ?_;refine tZ 6 48 ?_;refine tZ 7 49 ?_;refine zD ?_;clear qh;have f1:=Hx.out;obtain⟨Q,s⟩:=zE ((T.setCell ⟨w.heap.size,1,none⟩ (.int .i64 z)).drew);have Y:Hid (IL w Q u5 u6 M o z q E):=by rw [<- s];exact hid (H.set1 z).drew
       have r2:Q.cell? ⟨g,y+k*3+2,none⟩=some (.int .i64 m):=by rw [<- s];exact(World.cell?_setCell_far T ⟨w.heap.size,1,none⟩ _ _ (fun e=>H0 e.symm)).trans Hk
       go_wp2_with fail;try rw [s]
       try clear f1 s
       have t3:=Y.c2;refine zR (S:=fun w'=>w'.cell? ⟨g,y+k*3+2,none⟩=some (.int .i64 m)/\ w'.cell? ⟨w.heap.size,2,none⟩=some (.int .i64 q)) ⟨r2,t3⟩ (fun qh=> ?_);refine tZ 0 56 ?_;refine tZ 1 57 ?_;refine tZ 2 58 ?_;refine tZ 3 59 ?_;refine tZ 4 60 ?_;refine tZ 5 61 ?_;refine tZ 6 62 ?_;refine tZ 7 63 ?_;refine zD ?_;clear qh;have f2:=Y.f2;obtain⟨W4,U⟩:=zE ((Q.setCell ⟨w.heap.size,2,none⟩ (.int .i64 m)).drew);have W:Hid (IL w W4 u5 u6 M o z m E):=by rw [<- U];exact hid (Y.set2 m).drew
       go_wp2_with fail;try rw [U]
       try clear f2 U
       go_roundw;case rel=>exact⟨k+1,L,by go_num,by rw [N.out,Hd.out,He.out];exact W⟩
       case measure=>simp [intOf];omega
      ·have d1:decide (z<t)=true:=by simp;exact h1
       have Hd:Hid (min z t=z):=hid (by omega);have d2:decide (q<m)=false:=by simp;omega
       have He:Hid (max m q=q):=hid (by omega);clear h1 h2;go_wp2_with fail;refine zR (S:=fun w'=>w'.cell? ⟨g,y+k*3+1,none⟩=some (.int .i64 z)/\ w'.cell? ⟨w.heap.size,1,none⟩=some (.int .i64 t)) ⟨Hj,Hl⟩ (fun qh=> ?_);refine tZ 0 42 ?_;refine tZ 1 43 ?_;refine tZ 2 44 ?_;refine tZ 3 45 ?_;refine tZ 4 46 ?_;refine tZ 5 47 ?_;refine tZ 6 48 ?_;refine tZ 7 49 ?_;refine zD ?_;clear qh;have f1:=Hx.out;obtain⟨Q,s⟩:=zE ((T.setCell ⟨w.heap.size,1,none⟩ (.int .i64 z)).drew);have Y:Hid (IL w Q u5 u6 M o z q E):=by rw [<- s];exact hid (H.set1 z).drew
       have r2:Q.cell? ⟨g,y+k*3+2,none⟩=some (.int .i64 m):=by rw [<- s];exact(World.cell?_setCell_far T ⟨w.heap.size,1,none⟩ _ _ (fun e=>H0 e.symm)).trans Hk
       go_wp2_with fail;try rw [s]
       try clear f1 s
       have t3:=Y.c2;refine zR (S:=fun w'=>w'.cell? ⟨g,y+k*3+2,none⟩=some (.int .i64 m)/\ w'.cell? ⟨w.heap.size,2,none⟩=some (.int .i64 q)) ⟨r2,t3⟩ (fun qh=> ?_);refine tZ 0 56 ?_;refine tZ 1 57 ?_;refine tZ 2 58 ?_;refine tZ 3 59 ?_;refine tZ 4 60 ?_;refine tZ 5 61 ?_;refine tZ 6 62 ?_;refine tZ 7 63 ?_;refine zD ?_;clear qh;obtain⟨W4,U⟩:=zE Q.drew;have W:Hid (IL w W4 u5 u6 M o z q E):=by rw [<- U];exact hid Y.drew
       go_wp2_with fail;try rw [U]
       try clear U
       go_roundw;case rel=>exact⟨k+1,L,by go_num,by rw [N.out,Hd.out,He.out];exact W⟩
       case measure=>simp [intOf];omega
     ·by_cases h2:q<m
      ·have d1:decide (z<t)=false:=by simp;omega
       have Hd:Hid (min z t=t):=hid (by omega);have d2:decide (q<m)=true:=by simp;exact h2
       have He:Hid (max m q=m):=hid (by omega);clear h1 h2;go_wp2_with fail;refine zR (S:=fun w'=>w'.cell? ⟨g,y+k*3+1,none⟩=some (.int .i64 z)/\ w'.cell? ⟨w.heap.size,1,none⟩=some (.int .i64 t)) ⟨Hj,Hl⟩ (fun qh=> ?_);refine tZ 0 42 ?_;refine tZ 1 43 ?_;refine tZ 2 44 ?_;refine tZ 3 45 ?_;refine tZ 4 46 ?_;refine tZ 5 47 ?_;refine tZ 6 48 ?_;refine tZ 7 49 ?_;refine zD ?_;clear qh;obtain⟨Q,s⟩:=zE T.drew;have Y:Hid (IL w Q u5 u6 M o t q E):=by rw [<- s];exact hid H.drew
       have r2:Q.cell? ⟨g,y+k*3+2,none⟩=some (.int .i64 m):=by rw [<- s];exact Hk
       go_wp2_with fail;try rw [s]
       try clear s
       have t3:=Y.c2;refine zR (S:=fun w'=>w'.cell? ⟨g,y+k*3+2,none⟩=some (.int .i64 m)/\ w'.cell? ⟨w.heap.size,2,none⟩=some (.int .i64 q)) ⟨r2,t3⟩ (fun qh=> ?_);refine tZ 0 56 ?_;refine tZ 1 57 ?_;refine tZ 2 58 ?_;refine tZ 3 59 ?_;refine tZ 4 60 ?_;refine tZ 5 61 ?_;refine tZ 6 62 ?_;refine tZ 7 63 ?_;refine zD ?_;clear qh;have f2:=Y.f2;obtain⟨W4,U⟩:=zE ((Q.setCell ⟨w.heap.size,2,none⟩ (.int .i64 m)).drew);have W:Hid (IL w W4 u5 u6 M o t m E):=by rw [<- U];exact hid (Y.set2 m).drew
       go_wp2_with fail;try rw [U]
       try clear f2 U
       go_roundw;case rel=>exact⟨k+1,L,by go_num,by rw [N.out,Hd.out,He.out];exact W⟩
       case measure=>simp [intOf];omega
      ·have d1:decide (z<t)=false:=by simp;omega
       have Hd:Hid (min z t=t):=hid (by omega);have d2:decide (q<m)=false:=by simp;omega
       have He:Hid (max m q=q):=hid (by omega);clear h1 h2;go_wp2_with fail;refine zR (S:=fun w'=>w'.cell? ⟨g,y+k*3+1,none⟩=some (.int .i64 z)/\ w'.cell? ⟨w.heap.size,1,none⟩=some (.int .i64 t)) ⟨Hj,Hl⟩ (fun qh=> ?_);refine tZ 0 42 ?_;refine tZ 1 43 ?_;refine tZ 2 44 ?_;refine tZ 3 45 ?_;refine tZ 4 46 ?_;refine tZ 5 47 ?_;refine tZ 6 48 ?_;refine tZ 7 49 ?_;refine zD ?_;clear qh;obtain⟨Q,s⟩:=zE T.drew;have Y:Hid (IL w Q u5 u6 M o t q E):=by rw [<- s];exact hid H.drew
       have r2:Q.cell? ⟨g,y+k*3+2,none⟩=some (.int .i64 m):=by rw [<- s];exact Hk
       go_wp2_with fail;try rw [s]
       try clear s
       have t3:=Y.c2;refine zR (S:=fun w'=>w'.cell? ⟨g,y+k*3+2,none⟩=some (.int .i64 m)/\ w'.cell? ⟨w.heap.size,2,none⟩=some (.int .i64 q)) ⟨r2,t3⟩ (fun qh=> ?_);refine tZ 0 56 ?_;refine tZ 1 57 ?_;refine tZ 2 58 ?_;refine tZ 3 59 ?_;refine tZ 4 60 ?_;refine tZ 5 61 ?_;refine tZ 6 62 ?_;refine tZ 7 63 ?_;refine zD ?_;clear qh;obtain⟨W4,U⟩:=zE Q.drew;have W:Hid (IL w W4 u5 u6 M o t q E):=by rw [<- U];exact hid Y.drew
       go_wp2_with fail;try rw [U]
       try clear U
       go_roundw;case rel=>exact⟨k+1,L,by go_num,by rw [N.out,Hd.out,He.out];exact W⟩
       case measure=>simp [intOf];omega
  ·obtain rfl:k=n:=by omega
   have Hv:=Hy k zL;generalize Hq:A k=sk at*;obtain⟨M,⟨o,t,q⟩,E⟩:=sk;simp only at V Hv;obtain⟨c0,c1,X⟩:=V.q3;have zr:=V.sz;clear Hq Hf;go_wp2_with (at_builtin;refine Qao rfl _ _ 36 rfl (w.heap.size+1) 124 i0 _ 3 24 Tryz.underlying36 hi Hr Hs Ht rfl (by decide) _ _ _ rfl (World.ownsRow.alloc V.b _) ⟨wr.heap.size,0,none⟩ 1 1 [.int .i64 o,.int .i64 t,.int .i64 q] rfl rfl ?o1 ?o2 ?o3 ?o4 ?o5 ?_);try (case o1=>exact QaI _ _ _ _ _)
   case o2=>first|exact⟨rfl,rfl,rfl⟩|(intro u R;simp at R;rcases R with rfl|rfl|rfl<;>rfl)
   case o3=>unfold maxLen;omega
   case o4=>omega
   case o5=>first|omega|(simp;omega)
   intro v7 w7 P B D;have G:=hid ((V.bw (zO _ _)).app5 (o,t,q) P B (by simpa using D));clear P B D c0 c1 X V;have Hw:=G.na;have H5:=hid G.a;have Gj:=G.sz;rcases G.a.2 with ⟨e,_⟩|⟨g6,c6,Ge,e,_,_,Gi,Gf,_,_⟩
   ·rw [e] at Hw;exact absurd rfl Hw
   subst e;unfold maxLen at Gf;have H8:Hid (∀j u,(Qaq E)[j]? =some u ->w7.cell? ((⟨g6,0,none⟩:Addr).add j)=some u):=hid (World.ownsRow.cells H5 rfl);clear Hw;go_wp2_with (at_builtin;refine Qao rfl _ _ 36 rfl (w.heap.size+1) 124 i0 _ 3 24 Tryz.underlying36 hi Hr Hs Ht rfl (by decide) v7 (M++[(o,t,q)]).length (Qaq (M++[(o,t,q)])) rfl G.b ⟨g6,0,none⟩ E.length c6 (Qaq E) rfl (QdZ E) H8 (Qea E) ?r3 ?r4 ?r5 ?_);case r3=>unfold maxLen;simp;omega
   case r4=>simp;omega
   case r5=>omega
   intro v8 w8 Hb Ho Hp;have H7:Hid (Bl w w8):=hid (G.bel.grown Ho (by omega) (fun k C=>by have:=(World.ownsRow.lt G.b k C).1;omega));have H9:Hid (FR w8 w.heap.size v8 (M++[(o,t,q)]++E)):=by
    refine hid ?_;unfold FR;rw [Qez,List.length_append,show (M++[(o,t,q)]).length=M.length+1 from by simp];obtain⟨q1,q2⟩:=Hb;refine⟨q1,q2.imp id ?_⟩;rintro⟨g,Gc,Gd,e,hg,r⟩;exact⟨g,Gc,Gd,e,by omega,r⟩
   clear Hb Ho Hp;go_wp2_with fail;go_ret;exact⟨v8,rfl,by rw [HE.out];exact H9,H7⟩
theorem QeM (a:Option Addr)(c:Nat)(l:List Rn)(rr rf rt:Int)(w:World)(hn:l.length<=100000)(h:FS w a l)(hl:Qcz l)(hr:Rok (rr,rf,rt)):
  Cl 95 #[.slice a l.length c,.agg #[.int .i64 rr,.int .i64 rf,.int .i64 rt]] w fun e w'=>∃v,e=.returned v/\ FR w' w.heap.size v (ins l (rr,rf,rt))/\ Bl w w':=QjW a c l rr rf rt w hn h (fun p hp=>(hl.2 p hp).bnd) hr.bnd
theorem Qaz.size_le{D:DataW Value}{G:Int ->Value}(h:Qaz w bm n D G L):Maps.size D<=n:=h.own.size_le
def unL (R F T:Nat ->Int)(n:Nat)(R' F' T':Nat ->Int)(n':Nat):List Rn:=unF (Qbn R F T n) (Qbn R' F' T' n')
theorem Qls (l:List Rn)(r:Rn):(ins l r).length<=l.length+1:=by
 have:=Qg0 l r l.length zL;rw [QiT] at this;unfold ins;simp only [List.length_append,List.length_singleton];omega
theorem QcX:∀(b l:List Rn),(unF l b).length<=l.length+b.length
 | [],l=>by simp [unF]
 | q::b,l=>by
  have j:=QcX b (ins l q);have k:=Qls l q;show (unF (ins l q) b).length<=_;simp only [List.length_cons];omega
theorem Qdn (l b:List Rn)(q:Rn):unF l (b++[q])=ins (unF l b) q:=by simp [unF]
theorem Qbh (R F T:Nat ->Int)(n:Nat):(Qbn R F T n).length=n:=by simp [Qbn]
theorem Qlk (R F T:Nat ->Int)(n i:Nat)(h:i<n):gR (Qbn R F T n) i=(R i,F i,T i):=by simp [gR,Qbn,List.getD,h]
theorem Qih (l:List Rn)(j:Nat)(u:Value)(h:(Qaq l)[j]? =some u):j/3<l.length/\ ((j%3=0/\ u=.int .i64 (gR l (j/3)).1) \/(j%3=1/\ u=.int .i64 (gR l (j/3)).2.1) \/(j%3=2/\ u=.int .i64 (gR l (j/3)).2.2)):=by
 induction l generalizing j with
 | nil=>simp [Qaq] at h
 | cons a l ih=>
  have e:Qaq (a::l)=.int .i64 a.1::.int .i64 a.2.1::.int .i64 a.2.2::Qaq l:=by simp [Qaq]
  rw [e] at h;match j,h with
  | 0,h=>simp at h;simp [gR,h]
  | 1,h=>simp at h;simp [gR,h]
  | 2,h=>simp at h;simp [gR,h]
  | j+3,h=>
   have h:(Qaq l)[j]? =some u:=by simpa using h
   obtain⟨r,q⟩:=ih j h;have k:(j+3)/3=j/3+1:=by omega
   have m:(j+3)%3=j%3:=by omega
   rw [k,m];refine⟨by simp;omega,?_⟩;simpa [gR] using q
theorem Qh8{off:Nat}{R F T:Nat ->Int}(h:Qa7 w (some ⟨g,off,none⟩) n R F T):∀j u,(Qaq (Qbn R F T n))[j]? =some u ->w.cell? ((⟨g,off,none⟩:Addr).add j)=some u:=by
 intro j u z;obtain⟨k,m⟩:=Qih _ j u z;rw [Qbh] at k;obtain⟨b,o,e,i,r,v,y⟩:=h.at k;injection e with e;injection e with e3 e4;subst e3 e4;rw [Qlk _ _ _ _ _ k] at m;have t:j=j/3*3+j%3:=by omega
 rcases m with ⟨q,rfl⟩|⟨q,rfl⟩|⟨q,rfl⟩
 ·rw [Addr.add_lit,show off+j=off+j/3*3 from by omega];exact r
 ·rw [Addr.add_lit,show off+j=off+j/3*3+1 from by omega];exact v
 ·rw [Addr.add_lit,show off+j=off+j/3*3+2 from by omega];exact y
theorem FR.weak{C:Nat}(h:FR w B v l)(hc:C<=B):FR w C v l:=by
 obtain⟨m,q⟩:=h;refine⟨m,q.imp id ?_⟩;rintro⟨g,j,k,e,u,r⟩;exact⟨g,j,k,e,by omega,r⟩
theorem Qgv(w:World)(t ty e:TypeId)(i:TypeInfo)(ht:P.underlying t=some (.slice e))(hi:P.info? e=some i)(base:Option Addr)(n cap c':Nat)(h:n<=cap):
  (Builtin.append_ #[t,t] ty #[.slice base n cap,.slice none 0 c']).run P w=.ok (.slice base n cap) w:=by
 cases base<;>simp [Builtin.append_,run_underlying ht,sizeOf,typeInfo,hi,Builtin.lenOf,Builtin.firstCells,storeCells,loadCells,loadCellsFrom,h,Result.andThen]
theorem QeS{ops:Array Oper}{rest:List Oper}{o:Oper}{a:Act}{Q:Exit ->Act ->World ->Prop}(hgd:o.guard=none)(s x:Operand)(t:TypeId)
  (ho:o.op=.call {callee:=.builtin .append,args:=#[s,x],argTypes:=#[t,t]})
  (base:Nat) (e:TypeId) (i:TypeInfo) (z:Value) (size bytes:Nat) (ht:P.underlying t=some (.slice e)) (hi:P.info? e=some i) (hz:i.zero=some z)
  (hsize:i.size=size) (hby:i.bytes=bytes) (hzs:z.cells.size=size) (hsz:0<size)
  (v:Value) (n:Nat) (xs:List Value) (hs:a.eval s=v) (hown:w.ownsRow base e size v n xs)
  (ad:Option Addr) (m c:Nat) (news:List Value) (hx:a.eval x=.slice ad m c) (hl:news.length=m*size) (hnews:m=0 \/∃b,ad=some b/\∀j u,news[j]? =some u ->w.cell? (b.add j)=some u) (h1:∀u∈news,u.oneCell'=true)
  (h63:n+m<=maxLen) (hbytes:(n+m)*bytes<=140737488355328) (hbase:base<=w.heap.size)
  (h:∀v' w',w'.ownsRow base e size v' (n+m) (xs++news) ->w.grownBy w' v.ownBlock ->(v'.ownBlock=v.ownBlock \/v'.ownBlock=some w.heap.size) ->wpList P ops Q rest (a.put o.dst v') w'):wpList P ops Q (o::rest) a w:=by
 rcases ad with _|b
 ·obtain rfl:m=0:=by
   rcases hnews with r|⟨_,e,_⟩
   ·exact r
   ·cases e
  obtain rfl:news=[]:=List.length_eq_zero_iff.1 (by omega);obtain⟨b,k,q,E⟩:∃b k,v=.slice b n k/\ n<=k:=by
   rcases hown.2 with ⟨e,y⟩|⟨g,k,O,e,_,_,M,_⟩
   ·exact⟨none,0,by rw [e,y],by omega⟩
   ·exact⟨_,k,e,M⟩
  refine wpList_plain hgd fun _ hK=> ?_;unfold Oper.wp execOp;rw [q] at hs;simp only [ho,resolve,invoke,builtin,Sem.run_bind,Sem.run_pure,Result.andThen_ok,List.map_toArray,List.map_cons,List.map_nil,hs,hx,Qgv w _ _ _ i ht hi b n k c E];refine hK _ _ (h _ _ ?_ ⟨rfl,rfl,rfl,Nat.le_refl _,fun _ _ _=>rfl⟩ (.inl (by rw [q])));rw [List.append_nil,<- q];exact hown
 ·refine Qao hgd s x t ho base e i z size bytes ht hi hz hsize hby hzs hsz v n xs hs hown b m c news hx hl ?_ h1 h63 hbytes hbase h;rcases hnews with r|⟨b',e,p⟩
  ·subst r;obtain rfl:news=[]:=List.length_eq_zero_iff.1 (by omega);intro j u A;simp at A
  ·injection e with e;subst e;exact p
theorem Qem (a:Option Addr)(n c:Nat)(R F T:Nat ->Int)(a':Option Addr)(n' c':Nat)(R' F' T':Nat ->Int)(w:World)(hn:n<=1000)(hn':n'<=1000)(h:Qa7 w a n R F T)(h':Qa7 w a' n' R' F' T')(ho:Qd8 R F T n)(ho':Qd8 R' F' T' n'):
  Cl 68 #[.agg #[.slice a n c],.agg #[.slice a' n' c']] w fun e w'=>∃v,e=.returned (.agg #[v])/\ FR w' w.heap.size v (unL R F T n R' F' T' n')/\ Bl w w':=by
 obtain⟨i0,hi,H6,H7,H8⟩:=info_parts Tryz.infoRun;obtain⟨z,Y⟩:∃z:Nat ->List Rn,(fun k=>unF (Qbn R F T n) (Qbn R' F' T' k))=z:=⟨_,rfl⟩;have Hh:Hid (z 0=Qbn R F T n):=by rw [<- Y];exact hid rfl
 have H3:Hid (∀k,z (k+1)=ins (z k) (R' k,F' k,T' k)):=by rw [<- Y];exact hid fun k=>by show unF _ (Qbn R' F' T' (k+1))=_;rw [Qc6,Qdn]
 have H0:Hid (z n'=unL R F T n R' F' T' n'):=by rw [<- Y];exact hid rfl
 have H2:Hid (∀k,(z k).length<=n+k):=by rw [<- Y];exact hid fun k=>by have:=QcX (Qbn R' F' T' k) (Qbn R F T n);rw [Qbh,Qbh] at this;exact this
 have H1:Hid (∀k,k<=n' ->Qcz (z k)):=by rw [<- Y];exact hid fun k V=>(Qdb _ _ (Qbp n ho) (Qbp k (fun i hi=>ho' i (by omega))).2).1
 have Hz:Hid (∀k,k<n' ->Rok (R' k,F' k,T' k)):=hid fun k V=>QaV.1 (ho' k V).1;have D:=hid (Qbh R F T n);have B:Hid (n=0 \/∃g N,a=some ⟨g,N,none⟩/\ g<w.heap.size/\∀j u,(Qaq (Qbn R F T n))[j]? =some u ->w.cell? ((⟨g,N,none⟩:Addr).add j)=some u):=by
  rcases Nat.eq_zero_or_pos n with Z|Z
  ·exact hid (.inl Z)
  ·obtain⟨b,o,e,W,_⟩:=h.at Z;rw [e] at h;exact hid (.inr ⟨b,o,e,W,Qh8 h⟩)
 clear Y ho ho';obtain⟨P,Hl⟩:=zE (Qbn R F T n);rw [Hl] at Hh D B;clear Hl;obtain⟨r,Hj⟩:=zE (((w.alloc (.cells #[.slice a n c] 38)).alloc (.cells #[.slice a' n' c'] 38)).alloc (.cells #[.slice none 0 0] 38));obtain⟨t,Q⟩:=zE ((w.alloc (.cells #[.slice a n c] 38)).alloc (.cells #[.slice a' n' c'] 38));have za:t.heap.size=w.heap.size+2:=by rw [<- Q];simp
 have Hi:Bl w t:=by rw [<- Q];exact Qae _ _ _
 have Hn:t.cell? ⟨w.heap.size,0,none⟩=some (.slice a n c):=by rw [<- Q];simp
 have Ho:t.cell? ⟨w.heap.size+1,0,none⟩=some (.slice a' n' c'):=by rw [<- Q];simp
 have G:t.alloc (.cells #[.slice none 0 0] 38)=r:=by rw [<- Q];exact Hj
 have J:Bl t r:=by rw [<- G];exact zO _ _
 have Hp:Hid (Bl w r):=hid (Qaa Hi J);have s:Hid (r.heap.size=w.heap.size+3):=hid (by rw [<- G];simp;omega);have x0:r.cell? ⟨w.heap.size,0,none⟩=some (.slice a n c):=(J.cell (p:=⟨w.heap.size,0,none⟩) (show w.heap.size<t.heap.size by omega)).trans Hn;have x1:r.cell? ⟨w.heap.size+1,0,none⟩=some (.slice a' n' c'):=(J.cell (p:=⟨w.heap.size+1,0,none⟩) (show w.heap.size+1<t.heap.size by omega)).trans Ho;have x2:r.cell? ⟨w.heap.size+1+1,0,none⟩=some (.slice none 0 0):=by rw [<- G,show w.heap.size+1+1=t.heap.size from by omega];simp
 have y2:r.frozen? ⟨w.heap.size+1+1,0,none⟩=false:=by rw [<- G,show w.heap.size+1+1=t.heap.size from by omega];simp
 clear Q Hn Ho G J Hi za;have Hx:=hid h';have Ht:Hid (∀w1,Bl w w1 ->n=0 \/∃ad,a=some ad/\∀j u,(Qaq P)[j]? =some u ->w1.cell? (ad.add j)=some u):=by
  refine hid fun w1 W=> ?_;rcases B.out with Z|⟨g,N,e,hg,hc⟩
  ·exact .inl Z
  ·refine .inr ⟨_,e,fun j u hj=> ?_⟩;have K:=hc j u hj;rw [Addr.add_lit] at K ⊢;exact(W.cell (p:=⟨g,N+j,none⟩) hg).trans K
 clear h h' B;obtain⟨I,S⟩:=zE (r.alloc (.cells #[] 124));have E:Bl r I:=by rw [<- S];exact zO _ _
 have u0:=(E.cell (p:=⟨w.heap.size,0,none⟩) (show w.heap.size<r.heap.size by have:=s.out;omega)).trans x0;have u1:=(E.cell (p:=⟨w.heap.size+1,0,none⟩) (show w.heap.size+1<r.heap.size by have:=s.out;omega)).trans x1;have u2:=(E.cell (p:=⟨w.heap.size+1+1,0,none⟩) (show w.heap.size+1+1<r.heap.size by have:=s.out;omega)).trans x2;have v2:=((Qcm E).2 (w.heap.size+1+1) 0 (by have:=s.out;omega)).trans y2;have Hy:Hid (I.ownsRow (w.heap.size+3) 124 3 (.slice (some ⟨r.heap.size,0,none⟩) 0 0) 0 []):=by
  rw [<- S];exact hid (World.ownsRow_lit (base:=w.heap.size+3) (e:=124) (size:=3) r #[] 0 (by have:=s.out;omega) (by unfold maxLen;omega) rfl)
 have Hg:=hid (Qaa Hp E);have H:Hid (w.heap.size+3<=I.heap.size):=hid (by have:=E.size;have:=s.out;omega);clear E x0 x1 x2 y2;go_enter Tryz.func68,Tryz.ntmps68;go_wp2_with (at_builtin;refine QeS rfl _ _ 36 rfl (w.heap.size+3) 124 i0 _ 3 24 Tryz.underlying36 hi H6 H7 H8 rfl (by decide) (.slice (some ⟨r.heap.size,0,none⟩) 0 0) 0 [] rfl Hy a n c (Qaq P) rfl ?c1 (Ht I Hg) (Qea P) ?c4 ?c5 H ?_);case c1=>rw [QdZ,D.out]
 case c4=>unfold maxLen;omega
 case c5=>omega
 intro v3 X Ha U Hc;have L:∀q,q<w.heap.size+3 ->some q≠(Value.slice (some ⟨r.heap.size,0,none⟩) 0 0).ownBlock:=fun q hq e=>by
  have:=s.out;simp [Value.ownBlock] at e;omega
 have z3:w.heap.size+3<=X.heap.size:=by have:=U.size;have:=H.out;omega
 have d1:=U.cell u1 (L (w.heap.size+1) (by omega));have d2:=U.cell u2 (L (w.heap.size+1+1) (by omega));have k2:X.frozen? ⟨w.heap.size+1+1,0,none⟩=false:=(World.frozen?_of_block (U.block (w.heap.size+1+1) (by have:=H.out;omega) (L _ (by omega)))).trans v2;have Hu:Hid (FR X (w.heap.size+3) v3 (z 0)):=by
  rw [Hh.out];unfold FR;rw [D.out];have K:=Ha;exact hid K
 have Hq:Hid (Bl w X):=hid (Hg.grown U (by have:=H.out;omega) (fun k V=>by have:=s.out;simp [Value.ownBlock] at V;omega));clear Ha U Hc u0 u1 u2 v2 S Hj L;go_wp2_with fail;go_loopw [5,6] (fun u5 iv wr=>∃(k:Nat),k<=n'/\ iv=.int .i64 k/\ Hid (FR wr (w.heap.size+3) u5 (z k))/\ wr.cell? ⟨w.heap.size+1,0,none⟩=some (.slice a' n' c')/\ wr.cell? ⟨w.heap.size+1+1,0,none⟩=some (.slice none 0 0)/\ wr.frozen? ⟨w.heap.size+1+1,0,none⟩=false/\ Hid (Bl w wr)/\ w.heap.size+3<=wr.heap.size) (fun _ iv _=>n' - (intOf iv).toNat);case atStart=>exact⟨0,Nat.zero_le _,rfl,Hu,d1,d2,k2,Hq,z3⟩
 case round=>
  clear d1 d2 k2 z3;obtain⟨k,V,rfl,Hd,e1,A,j2,Hb,zr⟩:=hrel;by_cases Hf:k<n'
  ·obtain⟨gb,ob,rfl,H9,q0,q1,q2⟩:=(Hx.bw Hb).at Hf;obtain⟨x,cc,rfl,Hm,H4,H5⟩:=Hd.fs;have Ga:=H2 k;have HC:=hid (QeM x cc (z k) (R' k) (F' k) (T' k) wr (by omega) Hm (H1 k V) (Hz k Hf));have HN:=hid (H3 k);obtain⟨ln,He⟩:=zE ((z k).length);rw [He] at HC;clear Hm;go_wp2_with fail;try rw [He]
   refine HC.mono ?_;rintro e w4 ⟨v4,rfl,Hk,M⟩;have Hv:Hid (FR w4 (w.heap.size+3) v4 (z (k+1))):=by rw [HN.out];exact hid (Hk.weak zr)
   have r1:=(M.cell (p:=⟨w.heap.size+1,0,none⟩) (show w.heap.size+1<wr.heap.size by omega)).trans e1;have r2:=(M.cell (p:=⟨w.heap.size+1+1,0,none⟩) (show w.heap.size+1+1<wr.heap.size by omega)).trans A;have s2:=((Qcm M).2 (w.heap.size+1+1) 0 (by omega)).trans j2;have Hr:=hid (Qaa Hb M);have z4:=M.size;clear Hk M e1 A j2 q0 q1 q2 He;go_wp2_with fail;go_roundw;case rel=>exact⟨k+1,Hf,by go_num,Hv,r1,r2,s2,Hr,by omega⟩
   case measure=>simp [intOf];omega
  ·obtain rfl:k=n':=by omega
   have C:Hid (FR wr (w.heap.size+3) u5 (unL R F T n R' F' T' k)):=by rw [<- H0.out];exact Hd
   obtain⟨y,m,O,rfl⟩:=QaK C;have Hw:Hid (FR (wr.setCell ⟨w.heap.size+1+1,0,none⟩ (.slice y m O)) w.heap.size (.slice y m O) (unL R F T n R' F' T' k)):=by
    refine hid ?_;refine World.ownsRow.kept (C.weak (by omega)) (Qan wr ⟨w.heap.size+1+1,0,none⟩ _) ?_;cases e:(Value.slice y m O).ownBlock with
    | none=>exact .inl rfl
    | some g=>exact .inr (fun A=>by have:=(World.ownsRow.lt C g e).1;injection A with A;have A:g=w.heap.size+1+1:=A;omega)
   have Hs:Hid (Bl w (wr.setCell ⟨w.heap.size+1+1,0,none⟩ (.slice y m O))):=hid (Hb.setCell (p:=⟨w.heap.size+1+1,0,none⟩) (by show w.heap.size<=w.heap.size+1+1;omega) _);have k6:=World.cell?_setCell_same wr ⟨w.heap.size+1+1,0,none⟩ (.slice y m O) A;clear Hd;go_wp2_with fail;refine zF (v:=.agg #[.slice y m O]) (by simp [results,Tryz.results68,go_sem,k6]) ⟨_,rfl,Hw,Hs⟩
open Go.Deep
theorem Ql5 (g off m c:Nat)(p:List ByteArray)(w:World)(hp:p.length=m)(hm:m<=1048576)(hg:g<w.heap.size)(h:∀t,t<m ->w.cell? ⟨g,off+t,none⟩=some (.string (gS p t))):
  Cl 92 #[.slice (some ⟨g,off,none⟩) m c] w fun e w'=>∃q r,e=.returned (.slice (some ⟨q,0,none⟩) m r)/\ Bl w w'/\ w.heap.size<=q/\ q<w'.heap.size/\ Wr w' q 9 m (fun t=> .string (gS p t))/\ m<=r/\ r<=9223372036854775807/\ w'.ownsRow w.heap.size 9 1 (.slice (some ⟨q,0,none⟩) m r) m (QcH p):=by
 obtain⟨H,hi,Y,Z,G⟩:=info_parts QcO;have u:Bl w (w.alloc (.cells #[] 9)):=zO _ _;have s:(w.alloc (.cells #[] 9)).ownsRow w.heap.size 9 1 (.slice (some ⟨w.heap.size,0,none⟩) 0 0) 0 []:=by
  have:=World.ownsRow_lit (base:=w.heap.size) (e:=9) (size:=1) w #[] 0 zL (by unfold maxLen;omega) rfl;simpa using this
 obtain⟨q,r,w',i,v,b,A⟩:=Qdg 30 9 H _ 1 16 Tryz.underlying30 hi Y Z G rfl (by decide) (by omega) w.heap.size g off m c (fun t=> .string (gS p t)) (w.alloc (.cells #[] 9)) w.heap.size hm s (by simp) (fun j hj=>(u.cell (p:=⟨g,off+j,none⟩) hg).trans (h j (by omega))) (fun _ _=>rfl);have y:=QbR v;rw [Nat.mul_one] at y;have z:Hid (m<=r/\ r<=9223372036854775807):=hid (by
  rcases v.2 with ⟨Q,_⟩|⟨K,I,J,V,C,B,L,U,N,X⟩
  ·cases Q
  ·injection V with e1 e2 e3;unfold maxLen at U;omega)
 have E:Hid (Bl w w'):=hid (u.grown b u.size (fun k e=>by injection e with e;omega));have o:=hid y;have M:Hid (w'.ownsRow w.heap.size 9 1 (.slice (some ⟨q,0,none⟩) m r) m (QcH p)):=hid (by unfold QcH;rw [hp];exact v);have O:Hid (w.heap.size<=q):=hid (by rcases A with e|e<;>rw [e];exact Nat.le_refl _;simp);clear v b A y h s u;go_enter Tryz.func92,Tryz.ntmps92;go_wp2_with (at_builtin;refine Qab rfl _ _ _ _ rfl i (by rfl) (by rfl) rfl ?_;clear i);go_ret;exact⟨q,r,rfl,E,O,o.lt,o,z.1,z.2,M⟩
theorem Ql3 (g off m c:Nat)(y:Lf)(w:World)(hp:y.p.length=m)(hm:m<=1048576)(hg:g<w.heap.size)(h:∀t,t<m ->w.cell? ⟨g,off+t,none⟩=some (.string (gS y.p t))):
  Cl 60 #[.agg #[.slice (some ⟨g,off,none⟩) m c,.bool y.fl,.int .i64 y.r,.int .i64 y.q,.string y.v]] w fun e w'=>∃q j,e=.returned (.agg #[.slice (some ⟨q,0,none⟩) m j,.bool y.fl,.int .i64 y.r,.int .i64 y.q,.string y.v])/\ Bl w w'/\ w.heap.size<=q/\ q<w'.heap.size/\ Wr w' q 9 m (fun t=> .string (gS y.p t))/\ m<=j/\ j<=9223372036854775807/\ w'.ownsRow w.heap.size 9 1 (.slice (some ⟨q,0,none⟩) m j) m (QcH y.p):=by
 obtain⟨W,k⟩:=zE ((w.alloc (.cells #[.slice (some ⟨g,off,none⟩) m c,.bool y.fl,.int .i64 y.r,.int .i64 y.q,.string y.v] 106)).alloc (.cells #[.slice none 0 0,.bool false,.int .i64 0,.int .i64 0,.string ⟨#[]⟩] 106));have u:Bl w W:=by rw [<- k];exact Qae _ _ _
 have o:Bx5 W w.heap.size (.slice (some ⟨g,off,none⟩) m c) (.bool y.fl) (.int .i64 y.r) (.int .i64 y.q) (.string y.v):=by rw [<- k];exact(Bx5.new _ _ _ _ _ _ _).up _
 have i:Bx5 W (w.heap.size+1) (.slice none 0 0) (.bool false) (.int .i64 0) (.int .i64 0) (.string ⟨#[]⟩):=by
  rw [<- k];have:=Bx5.new (w.alloc (.cells #[.slice (some ⟨g,off,none⟩) m c,.bool y.fl,.int .i64 y.r,.int .i64 y.q,.string y.v] 106)) (.slice none 0 0) (.bool false) (.int .i64 0) (.int .i64 0) (.string ⟨#[]⟩) 106;simpa using this
 have A:=hid (Ql5 g off m c y.p W hp hm (Nat.lt_of_lt_of_le hg u.size) (fun t ht=>(u.cell (p:=⟨g,off+t,none⟩) hg).trans (h t ht)));have k0:=o.c0;have s:=hid o;have E:=hid i;have Y:=hid u;have Ha:w.heap.size+1<W.heap.size:=i.lt;clear u o i h;go_enter Tryz.func60,Tryz.ntmps60;go_wp2_with fail;try rw [k]
 clear k;refine A.mono ?_;rintro e w1 ⟨q,j,rfl,z,Q,U,V,J,K,O⟩;have b:=s.bw z s.lt;have M:=E.bw z E.lt;obtain⟨C,D,F,P,R,S⟩:=b.p5;obtain⟨N,r1,r2,X,B,T⟩:=M.p5;have I:=hid V;have G:Hid (w1.ownsRow w.heap.size 9 1 (.slice (some ⟨q,0,none⟩) m j) m (QcH y.p)):=hid (Qb2 O (by omega));clear O;have Z:=hid (Qaa Y z);have H:Hid (W.heap.size<=q/\ q<w1.heap.size):=hid ⟨Q,U⟩;clear k0 A V Q U z b M;go_wp2_with fail;have L:=H.out;refine zF (v:=.agg #[.slice (some ⟨q,0,none⟩) m j,.bool y.fl,.int .i64 y.r,.int .i64 y.q,.string y.v]) (by simp [results,Tryz.results60,go_sem,N,r1,r2,X,B]) ⟨q,j,rfl,?_,by omega,?_,?_,J,K,?_⟩
 ·repeat (refine Below.setCell ?_ (by simp) _)
  exact Z
 ·simp [World.setCell];exact L.2
 ·repeat (refine Wr.same (w:=_) ?_ (zH _ _ _ _ (by simp;omega)))
  exact I
 ·refine Qa6 G (fun g hg=> ?_);have e:q=g:=by simpa [Value.ownBlock] using hg
  repeat (rw [zH _ _ _ _ (by simp;omega)])
theorem QcS (g off m c:Nat)(y:Lf)(w:World)(hp:y.p.length=m)(hm:m<=1048576)(hg:g<w.heap.size)(h:∀t,t<m ->w.cell? ⟨g,off+t,none⟩=some (.string (gS y.p t))):
  Cl 60 #[.agg #[.slice (some ⟨g,off,none⟩) m c,.bool y.fl,.int .i64 y.r,.int .i64 y.q,.string y.v]] w fun e w'=>∃q cap,e=.returned (.agg #[.slice (some ⟨q,0,none⟩) m cap,.bool y.fl,.int .i64 y.r,.int .i64 y.q,.string y.v])/\ Bl w w'/\ w.heap.size<=q/\ q<w'.heap.size/\ Wr w' q 9 m (fun t=> .string (gS y.p t))/\ m<=cap/\ cap<=9223372036854775807:=
 (Ql3 g off m c y w hp hm hg h).mono fun e w' ⟨q,cap,a1,a2,a3,a4,a5,a6,a7,_⟩=>⟨q,cap,a1,a2,a3,a4,a5,a6,a7⟩
theorem Bx5.setFar{b:Nat}{v0 v1 v2 v3 v4:Value}(h:Bx5 w b v0 v1 v2 v3 v4)(t:Nat)(u:Value)(hne:b≠t):Bx5 (w.setCell ⟨t,0,none⟩ u) b v0 v1 v2 v3 v4:=by
 have e:(w.setCell ⟨t,0,none⟩ u).heap[b]? =w.heap[b]? :=zH _ _ _ _ hne;have q:=fun o=>World.cell?_of_block (w:=w) (w':=w.setCell ⟨t,0,none⟩ u) (a:=⟨b,o,none⟩) e;exact⟨(q 0).trans h.c0,(q 1).trans h.c1,(q 2).trans h.c2,(q 3).trans h.c3,(q 4).trans h.c4,fun i=>(World.frozen?_of_block (a:=⟨b,i,none⟩) e).trans (h.f i),by simp [World.setCell];exact h.lt⟩
theorem FR.setFar(h:FR w B v l)(q:Addr)(u:Value)(hv:v.ownBlock≠some q.block):FR (w.setCell q u) B v l:=by
 refine World.ownsRow.kept h (w':=w.setCell q u) (row:=some q.block) ⟨rfl,rfl,rfl,by simp [World.setCell],fun k hk hne=>zH _ _ _ _ (fun e=>hne (by rw [e]))⟩ ?_;cases e:v.ownBlock with
 | none=>exact .inl rfl
 | some b=>exact .inr (fun e2=>hv (by rw [e];exact e2))
theorem LC.set{l:List Lf}{P Q:Nat ->Nat}(h:LC w lo v l P Q)(q:Addr)(u:Value)(hg:v.ownBlock≠some q.block)(hP:∀i,i<l.length ->P i≠q.block):LC (w.setCell q u) lo v l P Q:=
 ⟨Qa6 h.row (fun g hg'=>zH _ _ _ _ (fun e=>hg (by rw [hg',e]))),fun i hi=>by
  obtain⟨k,m,r,j⟩:=h.pt i hi;exact⟨k,by simp [World.setCell];exact m,r,j.1.same (zH _ _ _ _ (hP i hi)),j.2⟩⟩
structure JS (w wr:World)(t:Nat)(va0 va1 vb0 vb1:Value)(g c:Nat)(vr:Value)(l:List Lf)(lr:List Rn)(P Q:Nat ->Nat):Prop where
 low:Bl w wr
 a:Bx2 wr w.heap.size va0 va1
 b:Bx2 wr (w.heap.size+1) vb0 vb1
 r:Bx2 wr (w.heap.size+1+1) (.slice none 0 0) (.slice none 0 0)
 o:Bx2 wr t (.slice (some ⟨g,0,none⟩) l.length c) vr
 lc:LC wr w.heap.size (.slice (some ⟨g,0,none⟩) l.length c) l P Q
 fr:FR wr w.heap.size vr lr
 ht:w.heap.size+3<=t
 hv:vr.ownBlock≠some t
 hg:w.heap.size+3<=g
 hv2:∀b,vr.ownBlock=some b ->w.heap.size+3<=b
section
variable {w wr w1 : World} {t : Nat} {va0 va1 vb0 vb1 : Value} {g c : Nat} {vr : Value} {l : List Lf} {lr : List Rn} {P Q : Nat -> Nat}
theorem JS.bw (h:JS w wr t va0 va1 vb0 vb1 g c vr l lr P Q)(hb:Bl wr w1):JS w w1 t va0 va1 vb0 vb1 g c vr l lr P Q:=
 ⟨h.low.trans (hb.mono h.low.size),h.a.bw hb h.a.lt,h.b.bw hb h.b.lt,h.r.bw hb h.r.lt,h.o.bw hb h.o.lt,h.lc.bw hb,h.fr.bw hb,h.ht,h.hv,h.hg,h.hv2⟩
theorem JS.set {g2 c2 n2:Nat}{l2:List Lf}{P2 Q2:Nat ->Nat}(h:JS w wr t va0 va1 vb0 vb1 g c vr l lr P Q)(hb:Bl wr w1)(h2:LC w1 w.heap.size (.slice (some ⟨g2,0,none⟩) n2 c2) l2 P2 Q2)(hn:n2=l2.length)(hg:wr.heap.size<=g2)(hp:∀i,i<l2.length ->1<=(gL l2 i).p.length):JS w (w1.setCell ⟨t,0,none⟩ (.slice (some ⟨g2,0,none⟩) n2 c2)) t va0 va1 vb0 vb1 g2 c2 vr l2 lr P2 Q2:=by
 subst hn;have j:=h.bw hb;have u:=h.o.lt;have m:=h.ht;refine⟨j.low.setCell (by show w.heap.size<=t;omega) _,j.a.setAt _ _ (by show t≠w.heap.size;omega),j.b.setAt _ _ (by show t≠w.heap.size+1;omega),j.r.setAt _ _ (by show t≠w.heap.size+1+1;omega),j.o.set0 _,h2.set _ _ (fun e=>by have:=Qbk e;have:g2=t:=this;omega) (fun i hi e=> ?_),?_,h.ht,h.hv,by omega,h.hv2⟩
 ·have q:=(h2.pt i hi).2.2.2.1.cell (i:=0) (by have:=hp i hi;omega);have e:P2 i=t:=e;rw [e,j.o.c0] at q;cases q
 ·refine World.ownsRow.kept j.fr (w':=w1.setCell ⟨t,0,none⟩ _) (row:=some t) ⟨rfl,rfl,rfl,by simp [World.setCell],fun k hk hne=>zH _ _ _ _ (fun e=>hne (by rw [e]))⟩ ?_;cases e:vr.ownBlock with
  | none=>exact .inl rfl
  | some b=>exact .inr (fun e2=>h.hv (by rw [e];exact e2))
end
structure Put (C:Lf ->Prop)(ls:List Lf)(L:Nat ->List Lf)(s:Nat):Prop where
 yes:∀k,k<ls.length ->C (gL ls k) ->L (k+1)=Qcq (gL ls k) (L k)
 no:∀k,k<ls.length ->¬C (gL ls k) ->L (k+1)=L k
 len:∀k,k<=ls.length ->(L k).length<=s+k
 pth:∀k,k<=ls.length ->∀i,i<(L k).length ->1<=(gL (L k) i).p.length/\ (gL (L k) i).p.length<=8
theorem Put.of (C:Lf ->Prop)(ls out:List Lf)(s:Nat)(ho:out.length<=s)(h1:∀i,i<ls.length ->1<=(gL ls i).p.length/\ (gL ls i).p.length<=8)(h2:∀i,i<out.length ->1<=(gL out i).p.length/\ (gL out i).p.length<=8):Put C ls (QdO C ls out) s:=
 ⟨fun k hk h=>QeH h,fun k hk h=>Qgs h,fun k hk=>by have:=Qdk (P:=C) (ls:=ls) (out:=out) k;omega,fun k hk i hi=>by
  have m:=Qai.2 ⟨i,hi,rfl⟩;rcases Qcb.1 m with h|⟨t,j,_,e⟩
  ·obtain⟨t,j,e⟩:=Qai.1 h;rw [<- e];exact h2 t j
  ·rw [<- e];exact h1 t (by omega)⟩
theorem Ql1 (a b:Option Addr)(ca cb:Nat)(la lb:List Lf)(xa:Option Addr)(n d:Nat)(R F T:Nat ->Int)(x':Option Addr)(n' d':Nat)(R' F' T':Nat ->Int)(w:World)(hn:n<=1000)(hn':n'<=1000)(ho:Qd8 R F T n)(ho':Qd8 R' F' T' n')(hla:la.length<=1000)(hlb:lb.length<=1000)(hpa:∀i,i<la.length ->1<=(gL la i).p.length/\ (gL la i).p.length<=8)(Hp:∀i,i<lb.length ->1<=(gL lb i).p.length/\ (gL lb i).p.length<=8)
  (h1:QcF w a la) (h2:QcF w b lb) (h3:Qa7 w xa n R F T) (h4:Qa7 w x' n' R' F' T'):
  Cl 39 #[.agg #[.slice a la.length ca,.slice xa n d],.agg #[.slice b lb.length cb,.slice x' n' d']] w fun e w'=>(∃g c ra rc P Q,e=.returned (.agg #[.slice (some ⟨g,0,none⟩) (jn R F T n la R' F' T' n' lb).length c,.slice ra (unL R F T n R' F' T' n').length rc])/\ LC w' w.heap.size (.slice (some ⟨g,0,none⟩) (jn R F T n la R' F' T' n' lb).length c) (jn R F T n la R' F' T' n' lb) P Q/\ FR w' w.heap.size (.slice ra (unL R F T n R' F' T' n').length rc) (unL R F T n R' F' T' n'))/\ Bl w w':=by
 obtain⟨W,hW⟩:=zE ((((w.alloc (.cells #[.slice a la.length ca,.slice xa n d] 40)).alloc (.cells #[.slice b lb.length cb,.slice x' n' d'] 40)).alloc (.cells #[.slice none 0 0,.slice none 0 0] 40)).alloc (.cells #[] 106));have b0:Bl w W:=by rw [<- hW];exact((Qae _ _ _).alloc (by simp;omega) _).alloc (by simp;omega) _
 have zW:W.heap.size=w.heap.size+4:=by rw [<- hW];simp
 have A0:Bx2 W w.heap.size (.slice a la.length ca) (.slice xa n d):=by rw [<- hW];exact(((Bx2.made w _ _ _).allocs _).allocs _).allocs _
 have B0:Bx2 W (w.heap.size+1) (.slice b lb.length cb) (.slice x' n' d'):=by
  rw [<- hW];have:=Bx2.made (w.alloc (.cells #[.slice a la.length ca,.slice xa n d] 40)) (.slice b lb.length cb) (.slice x' n' d') 40;exact((by simpa using this:Bx2 _ (w.heap.size+1) _ _).allocs _).allocs _
 have R0:Bx2 W (w.heap.size+1+1) (.slice none 0 0) (.slice none 0 0):=by
  rw [<- hW];have:=Bx2.made ((w.alloc (.cells #[.slice a la.length ca,.slice xa n d] 40)).alloc (.cells #[.slice b lb.length cb,.slice x' n' d'] 40)) (.slice none 0 0) (.slice none 0 0) 40;exact(by simpa using this:Bx2 _ (w.heap.size+1+1) _ _).allocs _
 have L0:LC W w.heap.size (.slice (some ⟨w.heap.size+3,0,none⟩) 0 0) [] (fun _=>0) (fun _=>0):=by
  refine⟨?_,fun i hi=>by simp at hi⟩;have:=World.ownsRow_lit (base:=w.heap.size) (e:=106) (size:=5) (((w.alloc (.cells #[.slice a la.length ca,.slice xa n d] 40)).alloc (.cells #[.slice b lb.length cb,.slice x' n' d'] 40)).alloc (.cells #[.slice none 0 0,.slice none 0 0] 40)) #[] 0 (by simp;omega) (by unfold maxLen;omega) rfl;rw [hW] at this;simpa using this
 have Gf:=hid A0;have Gj:=hid B0;have Gm:=hid R0;have Gu:=hid L0;have Gh:=hid b0;have G0:=hid zW;have HU:=hid (Qem xa n d R F T x' n' d' R' F' T' W hn hn' (h3.bw b0) (h4.bw b0) ho ho');have H1:=hid h1;have H2:=hid h2;have H3:=hid h3;have H4:=hid h4;have Gv:=hid hpa;have Gw:=hid Hp;have Gb:=hid (And.intro hla hlb);obtain⟨s,Gc⟩:=zE (QdO (fun x=>x∈lb \/¬QbH R' F' T' n' x) la []);obtain⟨D,Gd⟩:=zE (QdO (fun x=>¬QbH R F T n x) lb (s la.length));obtain⟨J,hJ⟩:=zE (jn R F T n la R' F' T' n' lb);have Hl:Hid (Put (fun x=>x∈lb \/¬QbH R' F' T' n' x) la s 0):=hid (by rw [<- Gc];exact Put.of _ la [] 0 zL hpa (fun i hi=>by simp at hi));have Hx:Hid (Put (fun x=>¬QbH R F T n x) lb D la.length):=hid (by rw [<- Gd];exact Put.of _ lb _ _ (by have:=Hl.len la.length zL;omega) Hp (Hl.pth la.length zL));have Gg:Hid (s 0=[]):=hid (by rw [<- Gc];rfl);have Gi:Hid (D 0=s la.length):=hid (by rw [<- Gd];rfl);have Gt:Hid (D lb.length=J):=hid (by rw [<- Gd,<- Gc,<- hJ];rfl);rw [hJ];have k1:=A0.c1;have k2:=B0.c1;clear A0 B0 R0 L0 b0 zW h1 h2 h3 h4 hpa Hp hJ Gc Gd;go_enter Tryz.func39,Tryz.ntmps39;go_wp2_with fail;try rw [hW]
 clear hW;refine HU.mono ?_;rintro e w1 ⟨vr,rfl,f1,b1⟩;obtain⟨ul,Gp⟩:=zE (unL R F T n R' F' T' n');rw [Gp] at f1;obtain⟨ra,rc,G8,_⟩:=f1.fs;subst G8;obtain⟨w2,Ge⟩:=zE (w1.alloc (.cells #[.slice (some ⟨w.heap.size+1+1+1,0,none⟩) 0 0,.slice ra ul.length rc] 40));have b2:Bl w1 w2:=by rw [<- Ge];exact zO _ _
 have H0:=Qaa b1 b2;have Gl:Hid (JS w w2 w1.heap.size (.slice a la.length ca) (.slice xa n d) (.slice b lb.length cb) (.slice x' n' d') (w.heap.size+1+1+1) 0 (.slice ra ul.length rc) (s 0) ul (fun _=>0) (fun _=>0)):=hid (by
  have hz:=G0.out;have Ka:=b1.size;rw [Gg.out];refine⟨Gh.trans (H0.mono Gh.size),Gf.bw H0 Gf.lt,Gj.bw H0 Gj.lt,Gm.bw H0 Gm.lt,by rw [<- Ge];exact Bx2.made _ _ _ _,Gu.bw H0,(f1.bw b2).weak (by omega),by omega,fun e=> ?_,by omega,fun b e=> ?_⟩
  ·have:=(World.ownsRow.lt f1 _ e).2;omega
  ·have:=(World.ownsRow.lt f1 _ e).1;omega)
 have Gy:=hid Gp;clear f1 b1 b2 H0 k1 k2 HU Gf Gj Gm Gu Gh G0 Gp;go_wp2_with fail;try rw [Ge]
 clear Ge;obtain⟨t,hT⟩:=zE w1.heap.size;rw [hT] at Gl ⊢;clear hT;go_loopw [6] (fun i wr=>∃(j g c:Nat) (P Q:Nat ->Nat),j<=la.length/\ i=.int .i64 j/\ Hid (JS w wr t (.slice a la.length ca) (.slice xa n d) (.slice b lb.length cb) (.slice x' n' d') g c (.slice ra ul.length rc) (s j) ul P Q)) (fun i _=>la.length - (intOf i).toNat);case atStart=>exact⟨0,_,_,_,_,Nat.zero_le _,rfl,Gl⟩
 case round=>
  clear Gl;obtain⟨j,g,c,P,Q,hj,rfl,HS⟩:=hrel;have a0:=HS.a.c0;by_cases Hd:j<la.length
  ·have i1:(0:Int)<=(j:Int):=Int.natCast_nonneg _;have i2:(j:Int)<(la.length:Int):=by omega
   obtain⟨ab,ao,rfl,Go,H9⟩:=(H1.bw HS.low).resolve_left (by omega);obtain⟨pa,pc,⟨L,d0⟩,sg,c1,c2,c3,c4⟩:=H9 j Hd;obtain⟨S,po,rfl,Hp,Hr⟩:=sg.resolve_left (by have:=(Gv j Hd).1;omega);have Hs:=Gv j Hd;obtain⟨y,hy⟩:=zE (gL la j);rw [hy] at L c1 c2 c3 c4 d0 Hr Hs;have HY:=hid hy;obtain⟨m,H,Y,V,I⟩:=y;dsimp only at L c1 c2 c3 c4 d0 Hr Hs;obtain⟨w5,Hz⟩:=zE (wr.alloc (.cells #[.slice (some ⟨S,po,none⟩) m.length pc,.bool H,.int .i64 Y,.int .i64 V,.string I] 106));have b5:Bl wr w5:=by rw [<- Hz];exact zO _ _
   have X5:Bx5 w5 wr.heap.size (.slice (some ⟨S,po,none⟩) m.length pc) (.bool H) (.int .i64 Y) (.int .i64 V) (.string I):=by rw [<- Hz];exact Bx5.new _ _ _ _ _ _ _
   have Hy:=hid (HS.bw b5);have H7:=hid X5;have Gk:=hid d0;have Hq:=hid Hs;have H6:Hid (Qaw w5 (some ⟨S,po,none⟩) m):=hid (.inr ⟨S,po,rfl,Nat.lt_of_lt_of_le Hp b5.size,fun i hi=>(b5.cell (p:=⟨S,po+i,none⟩) Hp).trans (Hr i hi)⟩);obtain⟨x0,x1,x2,x3,x4⟩:=X5.q5;clear hy H9 sg Hr Hp Go b5 X5 d0 Hs HS;have hf:=hid (fun N (b6:Bl w5 N)=>Ql0 b (some ⟨S,po,none⟩) cb pc lb m H Y V I N (by have:=Gb.out;omega) Gk.1 Gk.2 ((H2.bw Hy.low).bw b6) (H6.bw b6));obtain⟨e0,e1⟩:=Hy.b.q2;go_wp2_with fail;refine(hf w5 zI).mono ?_;rintro e N ⟨⟨fi,rfl,G1⟩,b6⟩;have A:=hid (Hy.bw b6);have C:=hid (H7.bw b6 H7.lt);have Hw:=hid b6;have Gs:=hid G1;clear e0 e1 hf G1 b6 x0 x1 x2 x3 x4 a0 L c1 c2 c3 c4 Hz;by_cases Hi:(⟨m,H,Y,V,I⟩:Lf)∈lb
   ·have e0:(0:Int)<=fi:=Gs.2 Hi;have Hv:Hid (Qcq ⟨m,H,Y,V,I⟩ (s j)=s (j+1)):=hid (by rw [Hl.yes j Hd (by rw [HY.out];exact .inl Hi),HY.out]);clear Hi;have B:Hid (∀w',Bl N w' ->(w'.cell? ⟨wr.heap.size,0,none⟩=some (.slice (some ⟨S,po,none⟩) m.length pc)/\ w'.cell? ⟨wr.heap.size,1,none⟩=some (.bool H)/\ w'.cell? ⟨wr.heap.size,2,none⟩=some (.int .i64 Y)/\ w'.cell? ⟨wr.heap.size,3,none⟩=some (.int .i64 V)/\ w'.cell? ⟨wr.heap.size,4,none⟩=some (.string I))):=hid (fun w' b=>by
     have X:=C.bw b C.lt;exact⟨X.c0,X.c1,X.c2,X.c3,X.c4⟩)
    have Hj:Hid (∀w',Bl N w' ->Cl 60 #[.agg #[.slice (some ⟨S,po,none⟩) m.length pc,.bool H,.int .i64 Y,.int .i64 V,.string I]] w' fun e w''=>∃q cap,e=.returned (.agg #[.slice (some ⟨q,0,none⟩) m.length cap,.bool H,.int .i64 Y,.int .i64 V,.string I])/\ Bl w' w''/\ w'.heap.size<=q/\ q<w''.heap.size/\ Wr w'' q 9 m.length (fun t=> .string (gS m t))/\ m.length<=cap/\ cap<=9223372036854775807):=hid (fun w' b=>by
     obtain⟨G5,G6,e,Ho,H8⟩:=((H6.bw Hw).bw b).resolve_left (by have:=Hq.1;omega);injection e with e;injection e with e1 e2;subst e1;subst e2;exact QcS S po m.length pc ⟨m,H,Y,V,I⟩ w' rfl (by have:=Hq.2;omega) Ho H8)
    have Hk:Hid (∀z q cap,Bl N z ->N.heap.size<=q ->q<z.heap.size ->Wr z q 9 m.length (fun t=> .string (gS m t)) ->m.length<=cap/\ cap<=9223372036854775807 ->Cl 70 #[.slice (some ⟨g,0,none⟩) (s j).length c,.agg #[.slice (some ⟨q,0,none⟩) m.length cap,.bool H,.int .i64 Y,.int .i64 V,.string I]] z fun e w'=>(∃g' cap' P' Q',e=.returned (.slice (some ⟨g',0,none⟩) ((s j).length+1) cap')/\ z.heap.size<=g'/\ LC w' w.heap.size (.slice (some ⟨g',0,none⟩) ((s j).length+1) cap') (s (j+1)) P' Q')/\ Bl z w'):=hid (fun z q cap u hq1 hq2 hw hcap=>by
     have hJ:=A.bw u;have hs:=hJ.low.size;have G3:=A.low.size;rw [<- Hv.out];exact Qfu g c (s j) P Q z w.heap.size q cap m H Y V I hJ.lc hs (by have h1:=Hl.len j (by omega);have h2:=Gb.out;omega) (fun i hi=>by have:=(Hl.pth j (by omega) i hi).2;omega) (by have:=Hq.2;omega) ⟨by omega,hq2⟩ hw hcap)
    have Ht:Hid ((s j).length+1=(s (j+1)).length):=hid (by rw [<- Hv.out,Qbq]);have Hu:Hid (wr.heap.size≠t):=hid (fun e=>by
     have h1:=C.c1;rw [e,A.o.c1] at h1;cases h1)
    have t0:=(A.o.bw zI.drew A.o.lt).c0;go_wp2_with fail;refine zS B (fun qh=> ?_);refine tZ 0 42 ?_;refine tZ 2 44 ?_;refine Qa0 (i:=1) (j:=3) (d:=some 43) (d':=some 45) (by kernel_rfl) (by kernel_rfl) (by kernel_rfl) ?_ ?_
    ·
     intro o ho Ga K k;simp only [gZa,gZb,gZc,gZd] at ho;subst ho;go_simp;refine k.out _ _ (B _ zI.drew) (fun qh=> ?_);clear k K;try simp only [zP]
     clear t0;refine cZ 3 ?_;intro K k;go_simp;refine(Hj _ zI.drew).mono ?_;rintro e z ⟨q7,He,rfl,u,Hb,Hc,Hh,Ha⟩;have U:Bl N z:=⟨u.os,u.tape,u.output,u.size,u.block⟩;refine k.out _ _ (B _ U) (fun qh=> ?_);clear k K;try simp only [zP]
     have Hf:=hid (Hk z q7 He U Hb Hc Hh Ha);clear Hh Ha Hb Hc;refine cZ 4 ?_;intro K k;go_simp;refine Hf.mono ?_;rintro e G ⟨⟨M,E,P8,Q8,rfl,Hn,l8⟩,b8⟩;have Z:=Qaa U b8;have Hm:=hid (A.set Z l8 Ht (by have:=U.size;omega) (fun i hi=>(Hl.pth (j+1) Hd i hi).1));have O8:=A.o.bw Z A.o.lt;refine k.out _ _ (B _ Z) (fun qh=> ?_);clear k K;try simp only [zP]
     refine tZ 5 47 ?_;have o0:=O8.c0;have of:=O8.f 0;have O:=((C.bw Z C.lt).setFar t (.slice (some ⟨M,0,none⟩) ((s j).length+1) E) Hu);have Hg:=hid (⟨O.c0,O.c1,O.c2,O.c3,O.c4⟩:(G.setCell ⟨t,0,none⟩ (.slice (some ⟨M,0,none⟩) ((s j).length+1) E)).cell? ⟨wr.heap.size,0,none⟩=some (.slice (some ⟨S,po,none⟩) m.length pc)/\ (G.setCell ⟨t,0,none⟩ (.slice (some ⟨M,0,none⟩) ((s j).length+1) E)).cell? ⟨wr.heap.size,1,none⟩=some (.bool H)/\ (G.setCell ⟨t,0,none⟩ (.slice (some ⟨M,0,none⟩) ((s j).length+1) E)).cell? ⟨wr.heap.size,2,none⟩=some (.int .i64 Y)/\ (G.setCell ⟨t,0,none⟩ (.slice (some ⟨M,0,none⟩) ((s j).length+1) E)).cell? ⟨wr.heap.size,3,none⟩=some (.int .i64 V)/\ (G.setCell ⟨t,0,none⟩ (.slice (some ⟨M,0,none⟩) ((s j).length+1) E)).cell? ⟨wr.heap.size,4,none⟩=some (.string I));clear O8 O;refine cZ 6 ?_;intro K k;go_simp;refine k.out _ _ Hg (fun qh=> ?_);clear k K;try simp only [zP]
     refine zD ?_;clear qh u U b8 Z l8 Hn o0 of Hf Hk Hj B Hg;go_wp2_with fail;go_roundw;case rel=>exact⟨j+1,M,E,P8,Q8,Hd,by go_num,Hm⟩
     case measure=>simp [intOf];omega
    ·
     clear t0;intro o ho Ga K k;simp only [gZa,gZb,gZc,gZd] at ho;subst ho;go_simp;refine(Hj _ zI.drew).mono ?_;rintro e z ⟨q7,He,rfl,u,Hb,Hc,Hh,Ha⟩;have U:Bl N z:=⟨u.os,u.tape,u.output,u.size,u.block⟩;refine k.out _ _ (B _ U) (fun qh=> ?_);clear k K;try simp only [zP]
     have t0:=(A.o.bw U A.o.lt).c0;refine cZ 1 ?_;intro K k;go_simp;refine k.out _ _ (B _ U) (fun qh=> ?_);clear k K;try simp only [zP]
     clear t0;have Hf:=hid (Hk z q7 He U Hb Hc Hh Ha);clear Hh Ha Hb Hc;refine cZ 4 ?_;intro K k;go_simp;refine Hf.mono ?_;rintro e G ⟨⟨M,E,P8,Q8,rfl,Hn,l8⟩,b8⟩;have Z:=Qaa U b8;have Hm:=hid (A.set Z l8 Ht (by have:=U.size;omega) (fun i hi=>(Hl.pth (j+1) Hd i hi).1));have O8:=A.o.bw Z A.o.lt;refine k.out _ _ (B _ Z) (fun qh=> ?_);clear k K;try simp only [zP]
     refine tZ 5 47 ?_;have o0:=O8.c0;have of:=O8.f 0;have O:=((C.bw Z C.lt).setFar t (.slice (some ⟨M,0,none⟩) ((s j).length+1) E) Hu);have Hg:=hid (⟨O.c0,O.c1,O.c2,O.c3,O.c4⟩:(G.setCell ⟨t,0,none⟩ (.slice (some ⟨M,0,none⟩) ((s j).length+1) E)).cell? ⟨wr.heap.size,0,none⟩=some (.slice (some ⟨S,po,none⟩) m.length pc)/\ (G.setCell ⟨t,0,none⟩ (.slice (some ⟨M,0,none⟩) ((s j).length+1) E)).cell? ⟨wr.heap.size,1,none⟩=some (.bool H)/\ (G.setCell ⟨t,0,none⟩ (.slice (some ⟨M,0,none⟩) ((s j).length+1) E)).cell? ⟨wr.heap.size,2,none⟩=some (.int .i64 Y)/\ (G.setCell ⟨t,0,none⟩ (.slice (some ⟨M,0,none⟩) ((s j).length+1) E)).cell? ⟨wr.heap.size,3,none⟩=some (.int .i64 V)/\ (G.setCell ⟨t,0,none⟩ (.slice (some ⟨M,0,none⟩) ((s j).length+1) E)).cell? ⟨wr.heap.size,4,none⟩=some (.string I));clear O8 O;refine cZ 6 ?_;intro K k;go_simp;refine k.out _ _ Hg (fun qh=> ?_);clear k K;try simp only [zP]
     refine zD ?_;clear qh u U b8 Z l8 Hn o0 of Hf Hk Hj B Hg;go_wp2_with fail;go_roundw;case rel=>exact⟨j+1,M,E,P8,Q8,Hd,by go_num,Hm⟩
     case measure=>simp [intOf];omega
   ·have e0:¬(0:Int)<=fi:=fun h=>Hi (Gs.1 h);have hh:=hid (fun z (u:Bl N z)=>Qlz x' n' d' R' F' T' Y V z (by omega) ((H4.bw A.low).bw u));have y2:=C.c2;have y3:=C.c3;have z1:=A.b.c1;go_wp2_with fail;refine(hh N zI).mono ?_;rintro e z ⟨rfl,u⟩;have Gx:=hid (A.bw u);have Gz:=hid (C.bw u C.lt);have Gr:=hid (Qaa Hw u);clear u y2 y3 z1 hh A C Hw;have A:=Gx;have C:=Gz;have Hw:=Gr;clear Gx Gz Gr;obtain⟨G7,Gq⟩:∃G7,G7=N:=⟨_,rfl⟩;subst Gq;obtain⟨N,G9⟩:∃N,N=z:=⟨_,rfl⟩;subst G9;cases hh:QbG R' F' T' Y V V n' with
    | false=>
     have Hv:Hid (Qcq ⟨m,H,Y,V,I⟩ (s j)=s (j+1)):=hid (by rw [Hl.yes j Hd (by rw [HY.out];exact .inr (fun h=>by unfold QbH at h;rw [hh] at h;cases h)),HY.out]);clear hh Hi;have B:Hid (∀w',Bl N w' ->(w'.cell? ⟨wr.heap.size,0,none⟩=some (.slice (some ⟨S,po,none⟩) m.length pc)/\ w'.cell? ⟨wr.heap.size,1,none⟩=some (.bool H)/\ w'.cell? ⟨wr.heap.size,2,none⟩=some (.int .i64 Y)/\ w'.cell? ⟨wr.heap.size,3,none⟩=some (.int .i64 V)/\ w'.cell? ⟨wr.heap.size,4,none⟩=some (.string I))):=hid (fun w' b=>by
      have X:=C.bw b C.lt;exact⟨X.c0,X.c1,X.c2,X.c3,X.c4⟩)
     have Hj:Hid (∀w',Bl N w' ->Cl 60 #[.agg #[.slice (some ⟨S,po,none⟩) m.length pc,.bool H,.int .i64 Y,.int .i64 V,.string I]] w' fun e w''=>∃q cap,e=.returned (.agg #[.slice (some ⟨q,0,none⟩) m.length cap,.bool H,.int .i64 Y,.int .i64 V,.string I])/\ Bl w' w''/\ w'.heap.size<=q/\ q<w''.heap.size/\ Wr w'' q 9 m.length (fun t=> .string (gS m t))/\ m.length<=cap/\ cap<=9223372036854775807):=hid (fun w' b=>by
      obtain⟨G5,G6,e,Ho,H8⟩:=((H6.bw Hw).bw b).resolve_left (by have:=Hq.1;omega);injection e with e;injection e with e1 e2;subst e1;subst e2;exact QcS S po m.length pc ⟨m,H,Y,V,I⟩ w' rfl (by have:=Hq.2;omega) Ho H8)
     have Hk:Hid (∀z q cap,Bl N z ->N.heap.size<=q ->q<z.heap.size ->Wr z q 9 m.length (fun t=> .string (gS m t)) ->m.length<=cap/\ cap<=9223372036854775807 ->Cl 70 #[.slice (some ⟨g,0,none⟩) (s j).length c,.agg #[.slice (some ⟨q,0,none⟩) m.length cap,.bool H,.int .i64 Y,.int .i64 V,.string I]] z fun e w'=>(∃g' cap' P' Q',e=.returned (.slice (some ⟨g',0,none⟩) ((s j).length+1) cap')/\ z.heap.size<=g'/\ LC w' w.heap.size (.slice (some ⟨g',0,none⟩) ((s j).length+1) cap') (s (j+1)) P' Q')/\ Bl z w'):=hid (fun z q cap u hq1 hq2 hw hcap=>by
      have hJ:=A.bw u;have hs:=hJ.low.size;have G3:=A.low.size;rw [<- Hv.out];exact Qfu g c (s j) P Q z w.heap.size q cap m H Y V I hJ.lc hs (by have h1:=Hl.len j (by omega);have h2:=Gb.out;omega) (fun i hi=>by have:=(Hl.pth j (by omega) i hi).2;omega) (by have:=Hq.2;omega) ⟨by omega,hq2⟩ hw hcap)
     have Ht:Hid ((s j).length+1=(s (j+1)).length):=hid (by rw [<- Hv.out,Qbq]);have Hu:Hid (wr.heap.size≠t):=hid (fun e=>by
      have h1:=C.c1;rw [e,A.o.c1] at h1;cases h1)
     have t0:=(A.o.bw zI.drew A.o.lt).c0;go_wp2_with fail;refine zS B (fun qh=> ?_);refine tZ 0 42 ?_;refine tZ 2 44 ?_;refine Qa0 (i:=1) (j:=3) (d:=some 43) (d':=some 45) (by kernel_rfl) (by kernel_rfl) (by kernel_rfl) ?_ ?_
     ·
      intro o ho Ga K k;simp only [gZa,gZb,gZc,gZd] at ho;subst ho;go_simp;refine k.out _ _ (B _ zI.drew) (fun qh=> ?_);clear k K;try simp only [zP]
      clear t0;refine cZ 3 ?_;intro K k;go_simp;refine(Hj _ zI.drew).mono ?_;rintro e z ⟨q7,He,rfl,u,Hb,Hc,Hh,Ha⟩;have U:Bl N z:=⟨u.os,u.tape,u.output,u.size,u.block⟩;refine k.out _ _ (B _ U) (fun qh=> ?_);clear k K;try simp only [zP]
      have Hf:=hid (Hk z q7 He U Hb Hc Hh Ha);clear Hh Ha Hb Hc;refine cZ 4 ?_;intro K k;go_simp;refine Hf.mono ?_;rintro e G ⟨⟨M,E,P8,Q8,rfl,Hn,l8⟩,b8⟩;have Z:=Qaa U b8;have Hm:=hid (A.set Z l8 Ht (by have:=U.size;omega) (fun i hi=>(Hl.pth (j+1) Hd i hi).1));have O8:=A.o.bw Z A.o.lt;refine k.out _ _ (B _ Z) (fun qh=> ?_);clear k K;try simp only [zP]
      refine tZ 5 47 ?_;have o0:=O8.c0;have of:=O8.f 0;have O:=((C.bw Z C.lt).setFar t (.slice (some ⟨M,0,none⟩) ((s j).length+1) E) Hu);have Hg:=hid (⟨O.c0,O.c1,O.c2,O.c3,O.c4⟩:(G.setCell ⟨t,0,none⟩ (.slice (some ⟨M,0,none⟩) ((s j).length+1) E)).cell? ⟨wr.heap.size,0,none⟩=some (.slice (some ⟨S,po,none⟩) m.length pc)/\ (G.setCell ⟨t,0,none⟩ (.slice (some ⟨M,0,none⟩) ((s j).length+1) E)).cell? ⟨wr.heap.size,1,none⟩=some (.bool H)/\ (G.setCell ⟨t,0,none⟩ (.slice (some ⟨M,0,none⟩) ((s j).length+1) E)).cell? ⟨wr.heap.size,2,none⟩=some (.int .i64 Y)/\ (G.setCell ⟨t,0,none⟩ (.slice (some ⟨M,0,none⟩) ((s j).length+1) E)).cell? ⟨wr.heap.size,3,none⟩=some (.int .i64 V)/\ (G.setCell ⟨t,0,none⟩ (.slice (some ⟨M,0,none⟩) ((s j).length+1) E)).cell? ⟨wr.heap.size,4,none⟩=some (.string I));clear O8 O;refine cZ 6 ?_;intro K k;go_simp;refine k.out _ _ Hg (fun qh=> ?_);clear k K;try simp only [zP]
      refine zD ?_;clear qh u U b8 Z l8 Hn o0 of Hf Hk Hj B Hg;go_wp2_with fail;go_roundw;case rel=>exact⟨j+1,M,E,P8,Q8,Hd,by go_num,Hm⟩
      case measure=>simp [intOf];omega
     ·
      clear t0;intro o ho Ga K k;simp only [gZa,gZb,gZc,gZd] at ho;subst ho;go_simp;refine(Hj _ zI.drew).mono ?_;rintro e z ⟨q7,He,rfl,u,Hb,Hc,Hh,Ha⟩;have U:Bl N z:=⟨u.os,u.tape,u.output,u.size,u.block⟩;refine k.out _ _ (B _ U) (fun qh=> ?_);clear k K;try simp only [zP]
      have t0:=(A.o.bw U A.o.lt).c0;refine cZ 1 ?_;intro K k;go_simp;refine k.out _ _ (B _ U) (fun qh=> ?_);clear k K;try simp only [zP]
      clear t0;have Hf:=hid (Hk z q7 He U Hb Hc Hh Ha);clear Hh Ha Hb Hc;refine cZ 4 ?_;intro K k;go_simp;refine Hf.mono ?_;rintro e G ⟨⟨M,E,P8,Q8,rfl,Hn,l8⟩,b8⟩;have Z:=Qaa U b8;have Hm:=hid (A.set Z l8 Ht (by have:=U.size;omega) (fun i hi=>(Hl.pth (j+1) Hd i hi).1));have O8:=A.o.bw Z A.o.lt;refine k.out _ _ (B _ Z) (fun qh=> ?_);clear k K;try simp only [zP]
      refine tZ 5 47 ?_;have o0:=O8.c0;have of:=O8.f 0;have O:=((C.bw Z C.lt).setFar t (.slice (some ⟨M,0,none⟩) ((s j).length+1) E) Hu);have Hg:=hid (⟨O.c0,O.c1,O.c2,O.c3,O.c4⟩:(G.setCell ⟨t,0,none⟩ (.slice (some ⟨M,0,none⟩) ((s j).length+1) E)).cell? ⟨wr.heap.size,0,none⟩=some (.slice (some ⟨S,po,none⟩) m.length pc)/\ (G.setCell ⟨t,0,none⟩ (.slice (some ⟨M,0,none⟩) ((s j).length+1) E)).cell? ⟨wr.heap.size,1,none⟩=some (.bool H)/\ (G.setCell ⟨t,0,none⟩ (.slice (some ⟨M,0,none⟩) ((s j).length+1) E)).cell? ⟨wr.heap.size,2,none⟩=some (.int .i64 Y)/\ (G.setCell ⟨t,0,none⟩ (.slice (some ⟨M,0,none⟩) ((s j).length+1) E)).cell? ⟨wr.heap.size,3,none⟩=some (.int .i64 V)/\ (G.setCell ⟨t,0,none⟩ (.slice (some ⟨M,0,none⟩) ((s j).length+1) E)).cell? ⟨wr.heap.size,4,none⟩=some (.string I));clear O8 O;refine cZ 6 ?_;intro K k;go_simp;refine k.out _ _ Hg (fun qh=> ?_);clear k K;try simp only [zP]
      refine zD ?_;clear qh u U b8 Z l8 Hn o0 of Hf Hk Hj B Hg;go_wp2_with fail;go_roundw;case rel=>exact⟨j+1,M,E,P8,Q8,Hd,by go_num,Hm⟩
      case measure=>simp [intOf];omega
    | true=>
     have Gn:Hid (JS w N t (.slice (some ⟨ab,ao,none⟩) la.length ca) (.slice xa n d) (.slice b lb.length cb) (.slice x' n' d') g c (.slice ra ul.length rc) (s (j+1)) ul P Q):=hid (by
      rw [Hl.no j Hd (by rw [HY.out];exact fun h=>h.elim Hi (fun h=>h hh))];exact A)
     clear hh Hi;go_wp2_with fail;go_roundw;case rel=>exact⟨j+1,g,c,P,Q,Hd,by go_num,Gn⟩
     case measure=>simp [intOf];omega
  ·obtain rfl:j=la.length:=by omega
   have H5:Hid (JS w wr t (.slice a la.length ca) (.slice xa n d) (.slice b lb.length cb) (.slice x' n' d') g c (.slice ra ul.length rc) (D 0) ul P Q):=hid (by rw [Gi.out];exact HS);clear HS;go_wp2_with fail;clear a0;try go_frame
   go_loopw [8] (fun i wr=>∃(j g c:Nat) (P Q:Nat ->Nat),j<=lb.length/\ i=.int .i64 j/\ Hid (JS w wr t (.slice a la.length ca) (.slice xa n d) (.slice b lb.length cb) (.slice x' n' d') g c (.slice ra ul.length rc) (D j) ul P Q)) (fun i _=>lb.length - (intOf i).toNat);case atStart=>exact⟨0,_,_,_,_,Nat.zero_le _,rfl,H5⟩
   case round=>
    clear H5;obtain⟨j,g,c,P,Q,hj,rfl,HS⟩:=hrel;have a0:=HS.b.c0;by_cases Hd:j<lb.length
    ·have i1:(0:Int)<=(j:Int):=Int.natCast_nonneg _;have i2:(j:Int)<(lb.length:Int):=by omega
     obtain⟨ab,ao,rfl,Go,H9⟩:=(H2.bw HS.low).resolve_left (by omega);obtain⟨pa,pc,⟨L,d0⟩,sg,c1,c2,c3,c4⟩:=H9 j Hd;obtain⟨S,po,rfl,Hp,Hr⟩:=sg.resolve_left (by have:=(Gw j Hd).1;omega);have Hs:=Gw j Hd;obtain⟨y,hy⟩:=zE (gL lb j);rw [hy] at L c1 c2 c3 c4 d0 Hr Hs;have HY:=hid hy;obtain⟨m,H,Y,V,I⟩:=y;dsimp only at L c1 c2 c3 c4 d0 Hr Hs;obtain⟨w5,Hz⟩:=zE (wr.alloc (.cells #[.slice (some ⟨S,po,none⟩) m.length pc,.bool H,.int .i64 Y,.int .i64 V,.string I] 106));have b5:Bl wr w5:=by rw [<- Hz];exact zO _ _
     have X5:Bx5 w5 wr.heap.size (.slice (some ⟨S,po,none⟩) m.length pc) (.bool H) (.int .i64 Y) (.int .i64 V) (.string I):=by rw [<- Hz];exact Bx5.new _ _ _ _ _ _ _
     have Hy:=hid (HS.bw b5);have H7:=hid X5;have Gk:=hid d0;have Hq:=hid Hs;have H6:Hid (Qaw w5 (some ⟨S,po,none⟩) m):=hid (.inr ⟨S,po,rfl,Nat.lt_of_lt_of_le Hp b5.size,fun i hi=>(b5.cell (p:=⟨S,po+i,none⟩) Hp).trans (Hr i hi)⟩);obtain⟨x0,x1,x2,x3,x4⟩:=X5.q5;clear hy H9 sg Hr Hp Go b5 X5 d0 Hs HS;have hh:=hid (fun z (u:Bl w5 z)=>Qlz xa n d R F T Y V z (by omega) ((H3.bw Hy.low).bw u));have z1:=Hy.a.c1;go_wp2_with fail;refine(hh w5 zI).mono ?_;rintro e N ⟨rfl,b6⟩;have A:=hid (Hy.bw b6);have C:=hid (H7.bw b6 H7.lt);have Hw:=hid b6;clear z1 hh b6 x0 x1 x2 x3 x4 a0 L c1 c2 c3 c4 Hz;cases hh:QbG R F T Y V V n with
     | false=>
      have Hv:Hid (Qcq ⟨m,H,Y,V,I⟩ (D j)=D (j+1)):=hid (by rw [Hx.yes j Hd (by rw [HY.out];exact fun h=>by unfold QbH at h;rw [hh] at h;cases h),HY.out]);clear hh;have B:Hid (∀w',Bl N w' ->(w'.cell? ⟨wr.heap.size,0,none⟩=some (.slice (some ⟨S,po,none⟩) m.length pc)/\ w'.cell? ⟨wr.heap.size,1,none⟩=some (.bool H)/\ w'.cell? ⟨wr.heap.size,2,none⟩=some (.int .i64 Y)/\ w'.cell? ⟨wr.heap.size,3,none⟩=some (.int .i64 V)/\ w'.cell? ⟨wr.heap.size,4,none⟩=some (.string I))):=hid (fun w' b=>by
       have X:=C.bw b C.lt;exact⟨X.c0,X.c1,X.c2,X.c3,X.c4⟩)
      have Hj:Hid (∀w',Bl N w' ->Cl 60 #[.agg #[.slice (some ⟨S,po,none⟩) m.length pc,.bool H,.int .i64 Y,.int .i64 V,.string I]] w' fun e w''=>∃q cap,e=.returned (.agg #[.slice (some ⟨q,0,none⟩) m.length cap,.bool H,.int .i64 Y,.int .i64 V,.string I])/\ Bl w' w''/\ w'.heap.size<=q/\ q<w''.heap.size/\ Wr w'' q 9 m.length (fun t=> .string (gS m t))/\ m.length<=cap/\ cap<=9223372036854775807):=hid (fun w' b=>by
       obtain⟨G5,G6,e,Ho,H8⟩:=((H6.bw Hw).bw b).resolve_left (by have:=Hq.1;omega);injection e with e;injection e with e1 e2;subst e1;subst e2;exact QcS S po m.length pc ⟨m,H,Y,V,I⟩ w' rfl (by have:=Hq.2;omega) Ho H8)
      have Hk:Hid (∀z q cap,Bl N z ->N.heap.size<=q ->q<z.heap.size ->Wr z q 9 m.length (fun t=> .string (gS m t)) ->m.length<=cap/\ cap<=9223372036854775807 ->Cl 70 #[.slice (some ⟨g,0,none⟩) (D j).length c,.agg #[.slice (some ⟨q,0,none⟩) m.length cap,.bool H,.int .i64 Y,.int .i64 V,.string I]] z fun e w'=>(∃g' cap' P' Q',e=.returned (.slice (some ⟨g',0,none⟩) ((D j).length+1) cap')/\ z.heap.size<=g'/\ LC w' w.heap.size (.slice (some ⟨g',0,none⟩) ((D j).length+1) cap') (D (j+1)) P' Q')/\ Bl z w'):=hid (fun z q cap u hq1 hq2 hw hcap=>by
       have hJ:=A.bw u;have hs:=hJ.low.size;have G3:=A.low.size;rw [<- Hv.out];exact Qfu g c (D j) P Q z w.heap.size q cap m H Y V I hJ.lc hs (by have h1:=Hx.len j (by omega);have h2:=Gb.out;omega) (fun i hi=>by have:=(Hx.pth j (by omega) i hi).2;omega) (by have:=Hq.2;omega) ⟨by omega,hq2⟩ hw hcap)
      have Ht:Hid ((D j).length+1=(D (j+1)).length):=hid (by rw [<- Hv.out,Qbq]);have Hu:Hid (wr.heap.size≠t):=hid (fun e=>by
       have h1:=C.c1;rw [e,A.o.c1] at h1;cases h1)
      have t0:=(A.o.bw zI.drew A.o.lt).c0;go_wp2_with fail;refine zS B (fun qh=> ?_);refine tZ 0 66 ?_;refine tZ 2 68 ?_;refine Qa0 (i:=1) (j:=3) (d:=some 67) (d':=some 69) (by kernel_rfl) (by kernel_rfl) (by kernel_rfl) ?_ ?_
      ·
       intro o ho Ga K k;simp only [gZa,gZb,gZc,gZd] at ho;subst ho;go_simp;refine k.out _ _ (B _ zI.drew) (fun qh=> ?_);clear k K;try simp only [zP]
       clear t0;refine cZ 3 ?_;intro K k;go_simp;refine(Hj _ zI.drew).mono ?_;rintro e z ⟨q7,He,rfl,u,Hb,Hc,Hh,Ha⟩;have U:Bl N z:=⟨u.os,u.tape,u.output,u.size,u.block⟩;refine k.out _ _ (B _ U) (fun qh=> ?_);clear k K;try simp only [zP]
       have Hf:=hid (Hk z q7 He U Hb Hc Hh Ha);clear Hh Ha Hb Hc;refine cZ 4 ?_;intro K k;go_simp;refine Hf.mono ?_;rintro e G ⟨⟨M,E,P8,Q8,rfl,Hn,l8⟩,b8⟩;have Z:=Qaa U b8;have Hm:=hid (A.set Z l8 Ht (by have:=U.size;omega) (fun i hi=>(Hx.pth (j+1) Hd i hi).1));have O8:=A.o.bw Z A.o.lt;refine k.out _ _ (B _ Z) (fun qh=> ?_);clear k K;try simp only [zP]
       refine tZ 5 71 ?_;have o0:=O8.c0;have of:=O8.f 0;have O:=((C.bw Z C.lt).setFar t (.slice (some ⟨M,0,none⟩) ((D j).length+1) E) Hu);have Hg:=hid (⟨O.c0,O.c1,O.c2,O.c3,O.c4⟩:(G.setCell ⟨t,0,none⟩ (.slice (some ⟨M,0,none⟩) ((D j).length+1) E)).cell? ⟨wr.heap.size,0,none⟩=some (.slice (some ⟨S,po,none⟩) m.length pc)/\ (G.setCell ⟨t,0,none⟩ (.slice (some ⟨M,0,none⟩) ((D j).length+1) E)).cell? ⟨wr.heap.size,1,none⟩=some (.bool H)/\ (G.setCell ⟨t,0,none⟩ (.slice (some ⟨M,0,none⟩) ((D j).length+1) E)).cell? ⟨wr.heap.size,2,none⟩=some (.int .i64 Y)/\ (G.setCell ⟨t,0,none⟩ (.slice (some ⟨M,0,none⟩) ((D j).length+1) E)).cell? ⟨wr.heap.size,3,none⟩=some (.int .i64 V)/\ (G.setCell ⟨t,0,none⟩ (.slice (some ⟨M,0,none⟩) ((D j).length+1) E)).cell? ⟨wr.heap.size,4,none⟩=some (.string I));clear O8 O;refine cZ 6 ?_;intro K k;go_simp;refine k.out _ _ Hg (fun qh=> ?_);clear k K;try simp only [zP]
       refine zD ?_;clear qh u U b8 Z l8 Hn o0 of Hf Hk Hj B Hg;go_wp2_with fail;go_roundw;case rel=>exact⟨j+1,M,E,P8,Q8,Hd,by go_num,Hm⟩
       case measure=>simp [intOf];omega
      ·
       clear t0;intro o ho Ga K k;simp only [gZa,gZb,gZc,gZd] at ho;subst ho;go_simp;refine(Hj _ zI.drew).mono ?_;rintro e z ⟨q7,He,rfl,u,Hb,Hc,Hh,Ha⟩;have U:Bl N z:=⟨u.os,u.tape,u.output,u.size,u.block⟩;refine k.out _ _ (B _ U) (fun qh=> ?_);clear k K;try simp only [zP]
       have t0:=(A.o.bw U A.o.lt).c0;refine cZ 1 ?_;intro K k;go_simp;refine k.out _ _ (B _ U) (fun qh=> ?_);clear k K;try simp only [zP]
       clear t0;have Hf:=hid (Hk z q7 He U Hb Hc Hh Ha);clear Hh Ha Hb Hc;refine cZ 4 ?_;intro K k;go_simp;refine Hf.mono ?_;rintro e G ⟨⟨M,E,P8,Q8,rfl,Hn,l8⟩,b8⟩;have Z:=Qaa U b8;have Hm:=hid (A.set Z l8 Ht (by have:=U.size;omega) (fun i hi=>(Hx.pth (j+1) Hd i hi).1));have O8:=A.o.bw Z A.o.lt;refine k.out _ _ (B _ Z) (fun qh=> ?_);clear k K;try simp only [zP]
       refine tZ 5 71 ?_;have o0:=O8.c0;have of:=O8.f 0;have O:=((C.bw Z C.lt).setFar t (.slice (some ⟨M,0,none⟩) ((D j).length+1) E) Hu);have Hg:=hid (⟨O.c0,O.c1,O.c2,O.c3,O.c4⟩:(G.setCell ⟨t,0,none⟩ (.slice (some ⟨M,0,none⟩) ((D j).length+1) E)).cell? ⟨wr.heap.size,0,none⟩=some (.slice (some ⟨S,po,none⟩) m.length pc)/\ (G.setCell ⟨t,0,none⟩ (.slice (some ⟨M,0,none⟩) ((D j).length+1) E)).cell? ⟨wr.heap.size,1,none⟩=some (.bool H)/\ (G.setCell ⟨t,0,none⟩ (.slice (some ⟨M,0,none⟩) ((D j).length+1) E)).cell? ⟨wr.heap.size,2,none⟩=some (.int .i64 Y)/\ (G.setCell ⟨t,0,none⟩ (.slice (some ⟨M,0,none⟩) ((D j).length+1) E)).cell? ⟨wr.heap.size,3,none⟩=some (.int .i64 V)/\ (G.setCell ⟨t,0,none⟩ (.slice (some ⟨M,0,none⟩) ((D j).length+1) E)).cell? ⟨wr.heap.size,4,none⟩=some (.string I));clear O8 O;refine cZ 6 ?_;intro K k;go_simp;refine k.out _ _ Hg (fun qh=> ?_);clear k K;try simp only [zP]
       refine zD ?_;clear qh u U b8 Z l8 Hn o0 of Hf Hk Hj B Hg;go_wp2_with fail;go_roundw;case rel=>exact⟨j+1,M,E,P8,Q8,Hd,by go_num,Hm⟩
       case measure=>simp [intOf];omega
     | true=>
      have Gn:Hid (JS w N t (.slice a la.length ca) (.slice xa n d) (.slice (some ⟨ab,ao,none⟩) lb.length cb) (.slice x' n' d') g c (.slice ra ul.length rc) (D (j+1)) ul P Q):=hid (by
       rw [Hx.no j Hd (by rw [HY.out];exact fun h=>h hh)];exact A)
      clear hh;go_wp2_with fail;go_roundw;case rel=>exact⟨j+1,g,c,P,Q,Hd,by go_num,Gn⟩
      case measure=>simp [intOf];omega
    ·obtain rfl:j=lb.length:=by omega
     rw [Gt.out] at HS;obtain⟨o0,o1⟩:=HS.o.q2;obtain⟨r0,r1⟩:=HS.r.q2;have f0:=HS.r.f 0;have f1:=HS.r.f 1;have HC:=hid (HS.r.set (.slice (some ⟨g,0,none⟩) J.length c) (.slice ra ul.length rc));go_wp2_with fail;obtain⟨s0,s1⟩:=HC.q2;have hP:∀i,i<J.length ->P i≠w.heap.size+1+1:=fun i hi e=>by
      have hp:=Hx.pth lb.length zL;rw [Gt.out] at hp;have hw:=(HS.lc.pt i hi).2.2.2.1.cell (i:=0) (by have:=(hp i hi).1;omega);rw [e,HS.r.c0] at hw;cases hw
     have G2:(Value.slice (some ⟨g,0,none⟩) J.length c).ownBlock≠some (w.heap.size+1+1):=fun e=>by have h1:=Qbk e;have h2:=HS.hg;omega
     have G4:(Value.slice ra ul.length rc).ownBlock≠some (w.heap.size+1+1):=fun e=>by have:=HS.hv2 _ e;omega
     refine zF (v:=.agg #[.slice (some ⟨g,0,none⟩) J.length c,.slice ra ul.length rc]) (by simp [results,Tryz.results39,go_sem,s0,s1]) ⟨⟨g,c,ra,rc,P,Q,by rw [Gy.out],?_,?_⟩,?_⟩
     ·exact(HS.lc.set _ _ G2 hP).set _ _ G2 hP
     ·rw [Gy.out];exact(HS.fr.setFar _ _ G4).setFar _ _ G4
     ·exact(HS.low.setCell (by simp;omega) _).setCell (by simp;omega) _
def jnU (S S':Sx):List Rn:=unL S.R S.F S.T S.n S'.R S'.F S'.T S'.n
noncomputable def jnS (S S':Sx):Sx:=⟨jn S.R S.F S.T S.n S.l S'.R S'.F S'.T S'.n S'.l,(jnU S S').length,fun i=>(gR (jnU S S') i).1,fun i=>(gR (jnU S S') i).2.1,fun i=>(gR (jnU S S') i).2.2⟩
noncomputable def stB (S:Sx):Bool:=yes (QaT S.R S.F S.T S.n S.l)
noncomputable def jnF (S S':Sx):Bool:=decide ((jnS S S').l.length<=1000) && decide ((jnS S S').n<=1000)
noncomputable def jnB (S S':Sx):Bool:=stB S && stB S' && jnF S S'
def Sx.mt:Sx:=⟨[],0,fun _=>0,fun _=>0,fun _=>0⟩
noncomputable def jnZ (S S':Sx):Sx:=if jnB S S' then jnS S S' else Sx.mt
theorem Qcx {S:Sx}(h:stB S=true):QaT S.R S.F S.T S.n S.l:=Classical.byContradiction fun hn=>by unfold stB at h;rw [Qaf hn] at h;cases h
theorem QnP {S:Sx}(h:stB S=false):¬QaT S.R S.F S.T S.n S.l:=fun hn=>by unfold stB at h;rw [Qah hn] at h;cases h
theorem Qlw {S S':Sx}(h:jnB S S'=true):jnZ S S'=jnS S S':=by unfold jnZ;rw [if_pos h]
theorem Qgd {S S':Sx}(h:jnB S S'=false):jnZ S S'=Sx.mt:=by unfold jnZ;rw [if_neg (by rw [h];simp)]
def SNj (w:World)(lo:Nat)(a x:Option Addr)(S:Sx):Prop:=∀w':World,w.heap.size<=w'.heap.size ->(∀q,lo<=q ->q<w.heap.size ->w'.heap[q]? =w.heap[q]?) ->SAt w' a x S
structure SNc (w:World)(lo:Nat)(a:Option Addr)(c:Nat)(x:Option Addr)(S:Sx):Prop where
 nc:∀w':World,w.heap.size<=w'.heap.size ->(∀q,lo<=q ->q<w.heap.size ->w'.heap[q]? =w.heap[q]?) ->QcF w' a S.l/\ Qa7 w' x S.n S.R S.F S.T
 cp:S.l.length<=c/\ c<=9223372036854775807
theorem SNc.at{S:Sx}(h:SNc w lo a c x S):QcF w a S.l/\ Qa7 w x S.n S.R S.F S.T:=h.nc w zL (fun _ _ _=>rfl)
theorem SNc.nj{S:Sx}(h:SNc w lo a c x S):SNj w lo a x S:=fun w' h1 h2=>⟨(h.nc w' h1 h2).1.seg,(h.nc w' h1 h2).2⟩
theorem SNc.move{lo':Nat}{S:Sx}(h:SNc w lo a c x S)(hl:lo'<=lo)(hs:w.heap.size<=w1.heap.size)(hq:∀q,lo<=q ->q<w.heap.size ->w1.heap[q]? =w.heap[q]?):SNc w1 lo' a c x S:=
 ⟨fun w' h1 h2=>h.nc w' (Nat.le_trans hs h1) (fun q h3 h4=>(h2 q (Nat.le_trans hl h3) (Nat.lt_of_lt_of_le h4 hs)).trans (hq q h3 h4)),h.cp⟩
theorem SNc.bw{S:Sx}(h:SNc w lo a c x S)(hb:Bl w w1):SNc w1 lo a c x S:=h.move zL hb.size (fun q _ h2=>hb.block q h2)
theorem SNc.mt (w:World)(lo:Nat)(a x:Option Addr):SNc w lo a 0 x Sx.mt:=⟨fun w' _ _=>⟨.inl rfl,.inl rfl⟩,Nat.le_refl _,by omega⟩
theorem LC.cp{l:List Lf}{P Q:Nat ->Nat}(h:LC w lo (.slice (some ⟨g,0,none⟩) n c) l P Q)(hn:l.length=n):l.length<=c/\ c<=9223372036854775807:=by
 rcases h.row.2 with ⟨e,r⟩|⟨u,m,q,j,y,v,z,k,t,o⟩
 ·injection e with e1 e2 e3;cases e1
 ·injection j with e1 e2 e3;subst e3;unfold maxLen at k;omega
theorem LC.lcap{l:List Lf}{P Q:Nat ->Nat}(h:LC w lo (.slice (some ⟨g,0,none⟩) n c) l P Q)(hn:n=l.length):QcF w (some ⟨g,0,none⟩) l:=by
 refine .inr ⟨g,0,rfl,(h.lt g rfl).2,fun i hi=> ?_⟩;obtain⟨j,k,m,q,r⟩:=h.cell hn hi;refine⟨some ⟨P i,0,none⟩,Q i,⟨?_,(h.pt i hi).2.2.2.2⟩,h.seg hi,?_,?_,?_,?_⟩
 ·rw [Nat.zero_add];exact j
 ·rw [Nat.zero_add];exact k
 ·rw [Nat.zero_add];exact m
 ·rw [Nat.zero_add];exact q
 ·rw [Nat.zero_add];exact r
theorem LC.lseg{l:List Lf}{P Q:Nat ->Nat}(h:LC w lo (.slice (some ⟨g,0,none⟩) n c) l P Q)(hn:n=l.length):QbD w (some ⟨g,0,none⟩) l:=by
 refine .inr ⟨g,0,rfl,(h.lt g rfl).2,fun i hi=> ?_⟩;obtain⟨j,k,m,q,r⟩:=h.cell hn hi;refine⟨some ⟨P i,0,none⟩,Q i,?_,h.seg hi,?_,?_,?_,?_⟩
 ·rw [Nat.zero_add];exact j
 ·rw [Nat.zero_add];exact k
 ·rw [Nat.zero_add];exact m
 ·rw [Nat.zero_add];exact q
 ·rw [Nat.zero_add];exact r
theorem QnE{ra:Option Addr}{rc:Nat}{S S':Sx}{P Q:Nat ->Nat}(h:LC w lo (.slice (some ⟨g,0,none⟩) (jnS S S').l.length c) (jnS S S').l P Q)(hf:FR w lo (.slice ra (jnU S S').length rc) (jnU S S')):SNc w lo (some ⟨g,0,none⟩) c ra (jnS S S'):=⟨fun w' h1 h2=>by
 have k:=h.move h1 h2;have j:FR w' lo (.slice ra (jnU S S').length rc) (jnU S S'):=Qa6 hf (fun q hq=>h2 q (World.ownsRow.lt hf q hq).1 (World.ownsRow.lt hf q hq).2);obtain⟨a,c',e,s,_,_⟩:=j.fs;injection e with e1 e2 e3;subst e1;exact⟨k.lcap rfl,s.rseg⟩,h.cp rfl⟩
theorem QiE {S:Sx}(h:QaT S.R S.F S.T S.n S.l):∀i,i<S.l.length ->1<=(gL S.l i).p.length/\ (gL S.l i).p.length<=8:=fun i hi=>by
 have:=(h.2.2.1 i hi).1;exact⟨this.1.1,this.1.2.1⟩
theorem Qis {S S':Sx}(hs:StW S.R S.F S.T S.n S.l)(hs':StW S'.R S'.F S'.T S'.n S'.l):(jnS S S').l.length<=2000/\ (jnU S S').length<=4000:=by
 have k:=hs.2.1;have m:=hs'.2.1;have q:=hs.1;have r:=hs'.1;constructor
 ·have e:(jnS S S').l=QdO (fun x=>¬QbH S.R S.F S.T S.n x) S'.l (QdO (fun x=>x∈S'.l \/¬QbH S'.R S'.F S'.T S'.n x) S.l [] S.l.length) S'.l.length:=rfl;rw [e];have u:=Qdk (P:=fun x=>¬QbH S.R S.F S.T S.n x) (ls:=S'.l) (out:=QdO (fun x=>x∈S'.l \/¬QbH S'.R S'.F S'.T S'.n x) S.l [] S.l.length) S'.l.length;have j:=Qdk (P:=fun x=>x∈S'.l \/¬QbH S'.R S'.F S'.T S'.n x) (ls:=S.l) (out:=[]) S.l.length;simp at j;omega
 ·have:=QcX (Qbn S'.R S'.F S'.T S'.n) (Qbn S.R S.F S.T S.n);rw [Qbh,Qbh] at this;show (unF (Qbn S.R S.F S.T S.n) (Qbn S'.R S'.F S'.T S'.n)).length<=4000;omega
theorem Qgg (a x:Option Addr)(m n c d:Nat)(w:World)(hm:m<=1048576)(hn:n<=1048576):Cl 40 #[.agg #[.slice a m c,.slice x n d]] w (Rt w (.bool (decide (m<=1000) && decide (n<=1000)))):=by
 obtain⟨W,q⟩:=zE (w.alloc (.cells #[.slice a m c,.slice x n d] 40));have v:Bl w W:=by rw [<- q];exact zO _ _
 have u:Bx2 W w.heap.size (.slice a m c) (.slice x n d):=by rw [<- q];exact Bx2.made _ _ _ _
 have r:=hid v;obtain⟨k0,i⟩:=u.q2;have j:Hid (∀b:Bool,(b=true↔m<=1000/\ n<=1000) ->(decide (m<=1000) && decide (n<=1000))=b):=hid (fun b hb=>by
  cases b with
  | true=>have:=hb.1 rfl;simp [this.1,this.2]
  | false=>
   cases h:(decide (m<=1000) && decide (n<=1000)) with
   | false=>rfl
   | true=>exact absurd (hb.2 (by simpa using h)) (by simp))
 obtain⟨B,g⟩:=zE ((decide (m<=1000) && decide (n<=1000)));rw [g] at j ⊢;clear v u g;by_cases y:m<=1000
 ·have t:(m:Int)<=1000:=by omega
  by_cases z:n<=1000
  ·have o:(n:Int)<=1000:=by omega
   have k:=hid (j true ⟨fun _=>⟨y,z⟩,fun _=>rfl⟩);clear j;go_enter Tryz.func40,Tryz.ntmps40;go_wp2_with fail;try rw [q]
   go_ret;exact⟨Qay k.symm,r⟩
  ·have o:¬(n:Int)<=1000:=by omega
   have k:=hid (j false ⟨fun h=>by simp at h,fun h=>absurd h.2 z⟩);clear j;go_enter Tryz.func40,Tryz.ntmps40;go_wp2_with fail;try rw [q]
   go_ret;exact⟨Qay k.symm,r⟩
 ·have t:¬(m:Int)<=1000:=by omega
  have k:=hid (j false ⟨fun h=>by simp at h,fun h=>absurd h.1 y⟩);clear j;go_enter Tryz.func40,Tryz.ntmps40;go_wp2_with fail;try rw [q]
  go_ret;exact⟨Qay k.symm,r⟩
theorem QiQ (sa sx ta tx:Option Addr)(c d c' d':Nat)(S S':Sx)(w:World)(hm:S.Sm)(hm':S'.Sm)(h:SCt w sa sx S)(h':SCt w ta tx S'):
  Cl 20 #[.agg #[.slice sa S.l.length c,.slice sx S.n d],.agg #[.slice ta S'.l.length c',.slice tx S'.n d']] w fun e w'=>∃a m x t,e=.returned (.tuple #[.agg #[.slice a (jnZ S S').l.length m,.slice x (jnZ S S').n t],.bool (jnB S S')])/\ SNc w' w.heap.size a m x (jnZ S S')/\ Bl w w'/\ (jnZ S S').l.length<=m/\ m<=9223372036854775807:=by
 obtain⟨W,s⟩:=zE (((w.alloc (.cells #[.slice sa S.l.length c,.slice sx S.n d] 40)).alloc (.cells #[.slice ta S'.l.length c',.slice tx S'.n d'] 40)).alloc (.cells #[.slice none 0 0,.slice none 0 0] 40));have N:Bl w W:=by rw [<- s];exact(Qae _ _ _).alloc (by simp;omega) _
 have A0:Bx2 W w.heap.size (.slice sa S.l.length c) (.slice sx S.n d):=by rw [<- s];exact((Bx2.made w _ _ _).allocs _).allocs _
 have B0:Bx2 W (w.heap.size+1) (.slice ta S'.l.length c') (.slice tx S'.n d'):=by
  rw [<- s];have:=Bx2.made (w.alloc (.cells #[.slice sa S.l.length c,.slice sx S.n d] 40)) (.slice ta S'.l.length c') (.slice tx S'.n d') 40;exact(by simpa using this:Bx2 _ (w.heap.size+1) _ _).allocs _
 have R0:Bx2 W (w.heap.size+1+1) (.slice none 0 0) (.slice none 0 0):=by
  rw [<- s];simpa using Bx2.made ((w.alloc (.cells #[.slice sa S.l.length c,.slice sx S.n d] 40)).alloc (.cells #[.slice ta S'.l.length c',.slice tx S'.n d'] 40)) (.slice none 0 0) (.slice none 0 0) 40
 have zW:W.heap.size=w.heap.size+3:=by rw [<- s];simp
 have HS:=hid (h.bw N);have Hl:=hid (h'.bw N);have L:=hid (Qbl sa c S.l sx S.n d S.R S.F S.T W hm.l1 hm.p1 hm.n1 HS.lf HS.rn);have Hc:=hid (fun w1 (k:Bl W w1)=>Qbl ta c' S'.l tx S'.n d' S'.R S'.F S'.T w1 hm'.l1 hm'.p1 hm'.n1 (Hl.bw k).lf (Hl.bw k).rn);have J:=hid A0;have u:=hid B0;have Hx:=hid R0;have Hs:=hid N;have H6:=hid zW;obtain⟨k0,k1⟩:=A0.q2;change Hid (Calls _ _ _ _ fun e w'=>e=.returned (.bool (stB S))/\ _) at L;obtain⟨B,p⟩:=zE (stB S);obtain⟨B',Ho⟩:=zE (stB S');have Hn:=hid p;have Hb:=hid Ho;have Hd:Hid (∀w1,Bl W w1 ->Cl 38 #[.agg #[.slice ta S'.l.length c',.slice tx S'.n d']] w1 (Rt w1 (.bool B'))):=hid (fun w1 k=>by rw [<- Ho];exact Hc w1 k);rw [p] at L;clear N A0 B0 R0 zW h h' p Ho Hc;go_enter Tryz.func20,Tryz.ntmps20;go_wp2_with fail;try rw [s]
 clear s;refine L.mono ?_;rintro e w1 ⟨rfl,k⟩;have He:=hid (Hs.trans (k.mono Hs.size));have Hz:=hid k;have U:=hid (Hx.bw k Hx.lt);clear k0 k1 L;cases B with
 | false=>
  have j:Hid (jnB S S'=false/\ jnZ S S'=Sx.mt):=hid (by
   have e:jnB S S'=false:=by unfold jnB;rw [Hn.out];rfl
   exact⟨e,Qgd e⟩)
  clear k;obtain⟨r0,r1⟩:=U.q2;have f0:=U.f 0;have f1:=U.f 1;have z:=hid (U.set (.slice none 0 0) (.slice none 0 0));go_wp2_with fail;obtain⟨M,O⟩:=z.q2;refine zF (v:=.tuple #[.agg #[.slice none 0 0,.slice none 0 0],.bool false]) (by simp [results,Tryz.results20,go_sem,M,O]) ⟨none,0,none,0,by rw [j.1,j.2];rfl,?_,?_⟩
  ·rw [j.2];exact SNc.mt _ _ _ _
  ·exact⟨(He.setCell (by simp;omega) _).setCell (by simp;omega) _,by rw [j.2];exact⟨Nat.le_refl _,by omega⟩⟩
 | true=>
  have l0:=(u.bw k u.lt).c0;have I:=(u.bw k u.lt).c1;clear k;go_wp2_with fail;refine(Hd w1 Hz).mono ?_;rintro e w2 ⟨rfl,X⟩;have Hf:=hid (He.trans (X.mono He.size));have o:=hid (Qaa Hz X);have V:=hid (U.bw X U.lt);clear X l0 I Hd;cases B' with
  | false=>
   have j:Hid (jnB S S'=false/\ jnZ S S'=Sx.mt):=hid (by
    have e:jnB S S'=false:=by unfold jnB;rw [Hb.out];simp
    exact⟨e,Qgd e⟩)
   obtain⟨r0,r1⟩:=V.q2;have f0:=V.f 0;have f1:=V.f 1;have z:=hid (V.set (.slice none 0 0) (.slice none 0 0));go_wp2_with fail;obtain⟨M,O⟩:=z.q2;refine zF (v:=.tuple #[.agg #[.slice none 0 0,.slice none 0 0],.bool false]) (by simp [results,Tryz.results20,go_sem,M,O]) ⟨none,0,none,0,by rw [j.1,j.2];rfl,?_,?_⟩
   ·rw [j.2];exact SNc.mt _ _ _ _
   ·exact⟨(Hf.setCell (by simp;omega) _).setCell (by simp;omega) _,by rw [j.2];exact⟨Nat.le_refl _,by omega⟩⟩
  | true=>
   have G:=Qcx Hn;have H:=Qcx Hb;have hc:=Qax.1 G.1;have Hr:=Qax.1 H.1;have Hm:=HS.bw o;have Ha:=Hl.bw o;have Hi:=hid (Ql1 sa ta c c' S.l S'.l sx S.n d S.R S.F S.T tx S'.n d' S'.R S'.F S'.T w2 hc.2 Hr.2 hc.1 Hr.1 G.2.1 H.2.1 (QiE G) (QiE H) Hm.lf Ha.lf Hm.rn Ha.rn);have Hk:Hid ((jnS S S').l.length<=2000/\ (jnU S S').length<=4000):=hid (Qis G.w H.w);have l0:=(J.bw o J.lt).c0;have I:=(J.bw o J.lt).c1;have l2:=(u.bw o u.lt).c0;have l3:=(u.bw o u.lt).c1;have Hh:Hid (jn S.R S.F S.T S.n S.l S'.R S'.F S'.T S'.n S'.l=(jnS S S').l/\ unL S.R S.F S.T S.n S'.R S'.F S'.T S'.n=jnU S S'):=hid ⟨rfl,rfl⟩;rw [Hh.1,Hh.2] at Hi;obtain⟨i,Hp⟩:=zE ((jnS S S').l.length);obtain⟨b,Hq⟩:=zE ((jnU S S').length);rw [Hp,Hq] at Hi Hk;have K:=hid Hp;have Hj:=hid Hq;clear G H hc Hr Hm Ha Hp Hq Hh;go_wp2_with fail;refine Hi.mono ?_;rintro e w3 ⟨⟨A,r,E,Y,P,Q,rfl,jl,jf⟩,b3⟩;obtain⟨w4,D⟩:=zE (w3.alloc (.cells #[.slice (some ⟨A,0,none⟩) i r,.slice E b Y] 40));have C:Bl w3 w4:=by rw [<- D];exact zO _ _
   have X4:Bx2 w4 w3.heap.size (.slice (some ⟨A,0,none⟩) i r) (.slice E b Y):=by rw [<- D];exact Bx2.made _ _ _ _
   have H3:Hid (SNc w4 w2.heap.size (some ⟨A,0,none⟩) r E (jnS S S')):=hid (SNc.bw (QnE (by rw [K.out];exact jl) (by rw [Hj.out];exact jf)) C);have Ht:=hid (Hf.trans ((Qaa b3 C).mono Hf.size));have Hy:=hid (V.bw (Qaa b3 C) V.lt);have Hg:=hid (Qgg (some ⟨A,0,none⟩) E i b r Y w4 (by have:=Hk.out;omega) (by have:=Hk.out;omega));have H0:=hid X4;have H1:Hid (w.heap.size+3<=w2.heap.size):=hid (by have h1:=H6.out;have h2:=o.size;omega);obtain⟨x0,x1⟩:=X4.q2;have Hv:Hid ((decide (i<=1000) && decide (b<=1000))=jnF S S'):=hid (by rw [<- K.out,<- Hj.out];rfl);rw [Hv.out] at Hg;obtain⟨B,p⟩:=zE (jnF S S');have Hw:=hid p;rw [p] at Hg;have H2:Hid (i<=r/\ r<=9223372036854775807):=hid (by
    rcases jl.row.2 with ⟨e,_⟩|⟨g,H9,Ga,e,_,_,H8,H7,_⟩
    ·cases e
    ·injection e with e1 e2 e3;rw [e3,e2];exact⟨H8,by unfold maxLen at H7;omega⟩)
   clear jl jf b3 C X4 l0 I l2 l3 p Hv;go_wp2_with fail;try rw [D]
   clear D;refine Hg.mono ?_;rintro e w5 ⟨rfl,Z⟩;have Hu:=hid (Ht.trans (Z.mono Ht.size));have y:=hid (Hy.bw Z Hy.lt);have H5:=hid (H0.bw Z H0.lt);have H4:=hid (H3.bw Z);clear x0 x1 Z;cases B with
   | false=>
    have j:Hid (jnB S S'=false/\ jnZ S S'=Sx.mt):=hid (by
     have e:jnB S S'=false:=by unfold jnB;rw [Hw.out];simp
     exact⟨e,Qgd e⟩)
    obtain⟨r0,r1⟩:=y.q2;have f0:=y.f 0;have f1:=y.f 1;have z:=hid (y.set (.slice none 0 0) (.slice none 0 0));go_wp2_with fail;obtain⟨M,O⟩:=z.q2;refine zF (v:=.tuple #[.agg #[.slice none 0 0,.slice none 0 0],.bool false]) (by simp [results,Tryz.results20,go_sem,M,O]) ⟨none,0,none,0,by rw [j.1,j.2];rfl,?_,?_⟩
    ·rw [j.2];exact SNc.mt _ _ _ _
    ·exact⟨(Hu.setCell (by simp;omega) _).setCell (by simp;omega) _,by rw [j.2];exact⟨Nat.le_refl _,by omega⟩⟩
   | true=>
    have j:Hid (jnB S S'=true/\ jnZ S S'=jnS S S'):=hid (by
     have e:jnB S S'=true:=by unfold jnB;rw [Hw.out,Hn.out,Hb.out];rfl
     exact⟨e,Qlw e⟩)
    obtain⟨r0,r1⟩:=y.q2;have f0:=y.f 0;have f1:=y.f 1;obtain⟨x0,x1⟩:=H5.q2;have z:=hid (y.set (.slice (some ⟨A,0,none⟩) i r) (.slice E b Y));go_wp2_with fail;obtain⟨M,O⟩:=z.q2;refine zF (v:=.tuple #[.agg #[.slice (some ⟨A,0,none⟩) i r,.slice E b Y],.bool true]) (by simp [results,Tryz.results20,go_sem,M,O]) ⟨some ⟨A,0,none⟩,r,E,Y,by rw [j.1,j.2,K.out,show (jnS S S').n=b from Hj.out],?_,?_⟩
    ·rw [j.2];exact H4.move (by have:=H1.out;omega) (by simp [World.setCell]) (fun q h1 h2=>by
      have:=H1.out;rw [zH _ _ _ _ (by simp;omega),zH _ _ _ _ (by simp;omega)])
    ·exact⟨(Hu.setCell (by simp;omega) _).setCell (by simp;omega) _,by rw [j.2,K.out];exact H2⟩
end Go.Proofs.YtgmjgboibfdaeaaGreatDoor
