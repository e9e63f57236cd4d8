import Derived.Test.YtmlmkaiibamabaaGreatDoorSyg08
import Derived.LaidEql
import Derived.Stop.Asserts
import Derived.RowKitTokens
import Derived.Stop.LaidTwo
import Derived.Deep.AppendSrc
set_option linter.unusedVariables false
set_option linter.unusedSimpArgs false
set_option maxRecDepth 100000
set_option maxHeartbeats 40000000
namespace Go.Proofs.YtmlmkaiibamabaaGreatDoor
open Go.ChangeShapes Go.WideShapes Go.ChangeAt Go.RowKit Go.Maps Go.Proofs.Tryz
open Go.Value renaming slice → Uf, int → Ug, pointer → Uk, tuple → Ul, string → Um, bool → Un, agg → Uo
open Go.IntKind renaming i64 → Uh
open Go.Ending renaming returned → Ui
open Go.Obj renaming cells → Uj
open Option renaming none → Up, some → Uq
open Go renaming World → Ur, Addr → Us
open Nat renaming le_refl → Uv, zero_le → Ux, mul_le_mul → YQ, le_of_not_lt → YR, lt_of_lt_of_le → Ut, zero_add → VS, le_trans → Uw, lt_or_ge → YS
open List renaming append_nil → VW, flatMap_cons → Vs, append_assoc → Vg, getD → UA, getElem_mem → UG, getElem?_eq_none → UX, mem_cons_self → Vc, mem_cons_of_mem → Ve, length_append → UB, length_cons → Vq, exists_mem_of_ne_nil → YT, flatMap_map → Yo, length_map → Vm, take_length → Vn, nil_append → VX, range → UW, getElem?_map → Yj, getElem?_range → Yi, getElem?_take_of_lt → Vu, mem_cons → VZ, ext_getElem → YU, mem_filter → YV, length_filter_le → Yz, foldl_cons → Vf, take_add_one → Vl, filter_append → YW, take_zero → YX, map_append → UC, foldl_append → Yf, length_take → Vo, length_nil → Yr
open Go.World renaming cell?_of_block → US, setCell → UL, cell?_setCell_other → UN, cell?_setCell_same → UM, frozen?_alloc_at → VJ, cell?_alloc_at → VH, frozen?_setCell → UK, ownsRow_nil → VE, ownsRow_lit → VF, cell? → YO, cell?_alloc_lt → YY, frozen?_alloc_old → YZ
open Int renaming natCast_nonneg → UI
variable {B L b c d g j lo m n pc q r1 r2 rb:Nat}{D S Y Z:Sx}{F R T f:Nat ->Int}{U zs:List Int}{a pa:Option Us}{acc l:List Lf}{fv u0 u1 u2 u3 v va vx:Value}{k rep:Int}{p:List ByteArray}{s:ByteArray}{u:List Rn}{w w' w1 wr:Ur}{x:Lf}{y:Ky}
theorem RD.kd {K:Int ->Int ->Bool}{R:List ByteArray ->List Lf ->List Lf ->List Int ->Prop}{B:List Lf}(h:RD K R p y acc B U):y.2=1 \/y.2=2 \/y.2=3:=by
 unfold RD at h;by_cases j:y.2=3
 ·exact .inr (.inr j)
 ·rw [if_neg j] at h;rcases h.1 with h|h
  ·exact .inl h
  ·exact .inr (.inl h)
theorem Qiq {E:Ev}(hpd:p.length+d=8)
  (hrec:p.length<8 ->∀(s:ByteArray) (x x':Nat) (acc J:List Lf) (U:List Int) (W:Ur),RT E.K d (p++[s]) acc J U ->Rv E x U x' ->TS E W x acc ->E.hi<=W.heap.size ->acc.length<=1000 ->Cl 132 #[Uk (Uc E.tb),Ud ((p.length:Int)+1)] W fun e w'=>NdP E W acc J x' (Qac (p++[s]) 3) (d+1) e w') {x x':Nat} {B:List Lf} (Y:TS E w x acc) (hhi:E.hi<=w.heap.size) (hl:acc.length<=1000) (hd:RT E.K (d+1) p acc B U) (o:Rv E x U x'):
  Cl 132 #[Uk (Uc E.tb),Ud (p.length:Int)] w fun e w'=>NdP E w acc B x' (Qac p 3) (d+2) e w':=by
 obtain⟨P,hP⟩:=zE (NdP E w acc B x' (Qac p 3) (d+2));rw [hP];have HP:=hid hP;clear hP;obtain⟨G,hB,rfl,Kk,Gn,Go,hK⟩:=hd;obtain⟨y0,r1,r2⟩:=Rb.app o;obtain⟨z,H0⟩:∃z:Int,(p.length:Int)=z:=⟨_,rfl⟩;rw [H0] at hrec ⊢;have Kv:0<=z:=oM;have Kw:z<=8:=oM;have Ho:=hid (And.intro H0 hpd);have Ht:=hid hrec;obtain⟨W,hW⟩:=zE (w.alloc (Uj #[.map Up,.map Up] 124));have b0:Bl w W:=hW▸zO _ _;have Gi:Hid (NB W w.heap.size):=hid (hW▸NB.made _ _);have Hu:=hid (Y.bw b0);have Ga:=hid (G2.bw (tb:=E.tb) (ub:=E.ub) b0);obtain⟨Kp,Kq⟩:=Y.low;have HU:=hid (QbN (most:=1000) Hu.cu oM oM r1);obtain⟨V,T⟩:=zE G.length;rw [T] at HU Kk;have Hi:V=0 ->z=0:=fun h=>oH (Gn (List.length_eq_zero_iff.1 (T.trans h)));have Gu:V=0 \/z<8:=by
  by_cases h:V=0
  ·exact .inl h
  ·have:=Go (fun e=>h (by rw [<- T,e];rfl));omega
 have HV:=hid T;have HB:=hid hB;have HI:=hid (And.intro hK r2);have H4:w.heap.size≠E.tb:=oM;have H5:w.heap.size≠E.ub:=oM;have Kr:w.heap.size<=w.heap.size:=Uv _;clear Y b0 H0 hpd hrec hK o r1 r2 hB T Gn Go;go_enter func132,ntmps132;go_wp2_with fail;try rw [hW]
 clear hW;refine HU.mono ?_;clear HU;rintro e w1 ⟨rfl,g1,cu⟩;have Gj:=hid (Hu.t g1 cu);have Hp:=hid (Ga.trans (G2.t g1));have Hq:=hid (Gi.g2 (G2.t (ub:=E.ub) g1) H4 H5);clear g1 cu Hu Ga Gi;go_upto_region 4 with fail;go_cut [29] from 24 to 29 (fun bb wx=>bb=Un false/\ w1=wx);case first=>
  by_cases C:V=0
  ·have c1:((V:Int)==0)=true:=(by simp [C]);have c2:decide ((0:Int)<z)=false:=(by have:=Hi C;simp;omega);clear C Gu Hi;go_wp2_with fail;go_meet;exact⟨rfl,rfl⟩
  ·have c1:((V:Int)==0)=false:=(by simp [C]);go_wp2_with fail;go_meet;exact⟨rfl,rfl⟩
 case rest=>
 obtain⟨rfl,rfl⟩:=hcut;go_upto_region 6 with fail;go_cut [37] from 32 to 37 (fun bb wx=>bb=Un false/\ w1=wx);case first=>
  by_cases C:V=0
  ·have c3:decide ((0:Int)<(V:Int))=false:=oS;have c4:decide (0<V)=false:=oS;have c5:¬(0:Int)<(V:Int):=oM;clear C Gu Hi;go_wp2_with fail;go_meet;exact⟨rfl,rfl⟩
  ·have c2:decide ((0:Int)<(V:Int))=true:=oS;have c3:(z==8)=false:=oS;go_wp2_with fail;go_meet;exact⟨rfl,rfl⟩
 case rest=>
 obtain⟨rfl,rfl⟩:=hcut;go_wp2_with fail;refine(Qel w1).mono ?_;rintro e m ⟨s,q,rfl,Ko,Kz,K0,m1,m2,b2⟩;obtain⟨W3,Hd⟩:=zE ((m.alloc (Uj #[.map (Uq s),.map (Uq q)] 124)).alloc (Uj #[Um ⟨#[]⟩,Ud 0] 174));have b3:Bl m W3:=Hd▸Qad _ _ _;have Kg:Hid (Bx2 W3 m.heap.size (.map (Uq s)) (.map (Uq q))):=hid (Hd▸(Bx2.made m _ _ _).allocs _);have H8:Hid (Bx2 W3 (m.heap.size+1) (Um ⟨#[]⟩) (Ud 0)):=hid (by rw [<- Hd];simpa using Bx2.made (m.alloc (Uj #[.map (Uq s),.map (Uq q)] 124)) (Um ⟨#[]⟩) (Ud 0) 174);have Hf:=Qaa b2 b3;have Ke:=hid (Gj.bw Hf);have G6:=hid (Hp.trans (G2.bw Hf));have Kc:=hid (Hq.g2 (G2.bw (tb:=E.tb) (ub:=E.ub) Hf) H4 H5);have K4:=Hp.size;have K3:=Hq.lt;have K5:=b2.size;have H1:=m1.lt;have Km:=m2.lt;have G8:Hid (TL W3 w.heap.size [] (Qac p 3) (⟨#[]⟩,0) (d+2) 0 (s,q)):=hid (TL.new (x0:=(s,q)) _ _ _ (m1.same (b3.block s m1.lt)) (m2.same (b3.block q m2.lt)) Ko ⟨oQ,by show w.heap.size<=q;omega⟩);clear m1 m2 b2 b3 Hf Gj Hp Hq;go_wp2_with fail;try rw [Hd]
 clear Hd;go_loopw [42] (fun iv wr=>∃(k y:Nat) (l:List Lf) (ks:ByteArray) (kk:Int),k<=V/\ iv=Ud (k:Int)/\ (acc++l).length<=1000/\ m.heap.size+1<wr.heap.size/\ Hid (l=(G.take k).flatMap fun g=>g.2.1)/\ Hid (TS E wr y (acc++l))/\ Hid (Gv E w wr)/\ Hid (NB wr w.heap.size)/\
  Hid (Bx2 wr m.heap.size (.map (Uq s)) (.map (Uq q)))/\ Hid (Bx2 wr (m.heap.size+1) (Um ks) (Ud kk))/\ Hid (TL wr w.heap.size l (Qac p 3) (ks,kk) (d+2) k (s,q))/\
  Hid (RK E.K (RT E.K d) p (ks,kk) (acc++l) (G.drop k)/\ Rv E y ((G.drop k).flatMap gB) x')) (fun iv _=>V - (intOf iv).toNat)
 case atStart=>exact⟨0,y0,[],⟨#[]⟩,0,Ux _,rfl,oU hl,H8.lt,hid oP,oU Ke,G6,Kc,Kg,H8,G8,hid ⟨by rw [VW];exact HI.1,HI.2⟩⟩
 case round=>
  obtain⟨k,y,l,ks,kk,Ky,rfl,Hx,K6,Hj,Y,hG,o,hX,hD,hM,Hm⟩:=hrel;by_cases G0:k<V
  ·have Kx:z<8:=oM;obtain⟨⟨⟨r,M⟩,J,U⟩,hp,G4⟩:=Qd0 (l:=G) (k:=k) (by rw [HV.out];exact G0);obtain⟨G3,Hl⟩:=Hm.out;rw [hp] at G3 Hl;obtain⟨⟨n0,H7,Ha⟩,Hh,H2⟩:=G3;rw [Vs] at Hl;obtain⟨x3,D,q3⟩:=Rb.app Hl;obtain⟨x2,D,i⟩:=Rb.app (show Rv E y ((Qae r++[M])++U) x3 from by rw [Vg];exact D);dsimp only at n0 H7 Ha Hh H2;have Ks:=Hh.kd;dsimp only at Ks;have Gg:=hid (QqG Y.cu n0 H7 Ha D);have HN:Hid (RK E.K (RT E.K d) p (r,M) (acc++(l++J)) (G.drop (k+1))/\ Rv E x3 ((G.drop (k+1)).flatMap gB) x'):=hid ⟨by rw [<- Vg];exact H2,q3⟩;have Ka:Hid (l++J=(G.take (k+1)).flatMap fun g=>g.2.1):=hid (by rw [G4,List.flatMap_append,<- Hj.out];simp);have Hc:=hid (fun u(t5:TS E u x2 (acc++l))(h5:E.hi<=u.heap.size)=>QqH (dep:=z+1) (D:=d+1) oM t5 h5 Hx Hh i (fun e3 hrt W' t' h'=>by
    have:=Ht (oH Ho.1) r x2 x3 (acc++l) J U W' hrt i t' h' Hx;rw [Qfc] at this;subst e3;exact this))
   obtain⟨kl,Gy⟩:=QhM (s:=r) (k:=M) oL (wfI oM oM);have Ge:=hid Gy;have Hn:=hid Ha;obtain⟨d0,d1⟩:=hD.q2;clear Hm Hl D i q3 hp G4 Gy Ha Hh H2 Hj n0 H7;go_wp2_with fail;clear d0 d1;refine Gg.mono ?_;clear Gg;rintro e A ⟨rfl,g4,Gm⟩;obtain⟨u,He⟩:=zE (A.alloc (Uj #[Um r,Ud M] 174));have b5:Bl A u:=He▸zO _ _;have z5:u.heap.size=A.heap.size+1:=He▸oP;have g5:Gv E wr u:=(G2.t g4).trans (G2.bw b5);have Y5:Bx2 u A.heap.size (Um r) (Ud M):=He▸Bx2.made A _ _ _;have K1:=g4.size;have H6:=hG.size;have Gf:=hid (Hc u ((Y.t g4 Gm).bw b5) oM);obtain⟨y0,y1⟩:=Y5.q2;have Hv:=hid Y5;have Kj:=hid z5;have Gb:=hid g5;clear Y5 g5 b5 z5 Gm Hc;go_wp2_with fail;try rw [He]
   clear He y0 y1;refine Gf.mono ?_;clear Gf;rintro e w6 ⟨Ku,N1,⟨s1,s2⟩,rfl,g6,t6,Gp,Gq,Gr,Gs,Gt⟩;have Hk:J≠[]:=Gq.resolve_right oP;obtain⟨I,Gw⟩:=zE (w6.alloc (Uj #[.map (Uq s1),.map (Uq s2)] 124));have b7:Bl w6 I:=Gw▸zO _ _;have V7:Bx2 I w6.heap.size (.map (Uq s1)) (.map (Uq s2)):=Gw▸Bx2.made w6 _ _ _;have Hg:Gv E u I:=g6.trans (G2.bw b7);have O:Gv E wr I:=Gb.trans Hg;have K7:=Kj.out;have K2:=g6.size;have X7:=hX.sm (O.block _ hX.lt oM oM) O.size;have D7:=hD.sm (O.block _ hD.lt oM oM) O.size;have L:=Hv.sm (Hg.block _ Hv.lt oM oM) Hg.size;have Gk:=hid (t6.bw b7);have Gc:=hid (hG.trans O);have Hr:=hid (o.g2 O H4 H5);obtain⟨cc,F,Hz,G1,Hb⟩:=hM.hang O Kp Kq (Gt.bw b7) oM H6 Hn Gp Hk Gr;have Gx:cc<maxLen:=by
    have h1:(acc++l++J).length=acc.length+(l++J).length:=(by simp [Nat.add_assoc]);have S:(l++J).length<=1000:=oM;have h3:d+1+1<=10:=oH Ho.2;have h4:=YQ h3 S;unfold maxLen;omega
   obtain⟨R,r9,m9,Q⟩:=G1.store Qa1 (fun _ _=>Qb7) underlying121 Gx (x:=(r,M)) (y:=(s1,s2)) Ge;have Kn:s<m.heap.size:=H1;have X:∀b,b≠s ->b<I.heap.size ->R.heap[b]? =I.heap[b]? :=fun b h1 S=>Q.block b S (fun e=>h1 (by injection e));have v0:=(US (a:=(Ub A.heap.size)) (X A.heap.size oM L.lt)).trans L.c0;have v1:=(US (a:=(Ua A.heap.size 1)) (X A.heap.size oM L.lt)).trans L.c1;have D9:=D7.sm (X _ oM D7.lt) Q.size;have X9:=X7.sm (X _ oM X7.lt) Q.size;have Gl:=hid (Gk.gr Q oM);have Gd:=hid (Gc.gr Q oM);have Hs:=hid (Hr.same (X w.heap.size oM Hr.lt) Q.size);have Gh:=hid (Hb R Q m9);obtain⟨Zw,Hw⟩:=zE ((R.setCell (Ua (m.heap.size+1) 0) (Um r)).setCell (Ua (m.heap.size+1) 1) (Ud M));have H:R.grownBy Zw (Uq (m.heap.size+1)):=by
    rw [<- Hw];exact⟨rfl,rfl,rfl,by simp [UL],fun j hj Hk=>(zH _ _ _ _ (fun e=>Hk (by rw [e]))).trans (zH _ _ _ _ (fun e=>Hk (by rw [e])))⟩
   have H9:Hid (Bx2 Zw (m.heap.size+1) (Um r) (Ud M)):=hid (Hw▸D9.set _ _);have zb:∀b,b≠m.heap.size+1 ->b<R.heap.size ->Zw.heap[b]? =R.heap[b]? :=fun b h1 S=>H.block b S (fun e=>h1 (by injection e));have Kh:=hid (X9.sm (zb _ oM X9.lt) H.size);have Kf:=hid (Gl.gr H oM);have G7:=hid (Gd.gr H oM);have Kd:=hid (Hs.same (zb w.heap.size oM Hs.lt) H.size);have Kb:=hid (Gh.box D9.c0 H);obtain⟨x0,Kt⟩:=X7.q2;obtain⟨y0,y1⟩:=L.q2;obtain⟨n0,n1⟩:=V7.q2;obtain⟨e0,e1,ef⟩:=D9.p2;have Hy:(acc++(l++J)).length<=1000:=(by rw [<- Vg];exact Gs);unfold Qa9 Qbl at r9;dsimp only at r9;clear m9 Q X zb D9 X9 H Gl Gd Hs Gh Hb G1 X7 D7 L V7 Hg O b7 Hv Gb Gk Gc Hr Ge Gp Gq Gr Gs Gt t6 g6 Y hG o hX hD hM Gx Hz;go_wp2_with fail;try rw [Hw]
   go_roundw;case rel=>exact⟨k+1,x3,l++J,r,M,G0,oN,Hy,H9.lt,Ka,by rw [<- Vg];exact Kf,G7,Kd,Kh,H9,Kb,HN⟩
   case measure=>exact oE
  ·obtain rfl:k=V:=oM;have hd:G.drop k=[]:=(by rw [<- HV.out];simp);have Gz:l=B:=(by rw [Hj.out,HB.out,<- HV.out];simp);have Ki:Hid (x'=y):=hid (by have:=Hm.2;rw [hd] at this;exact Rb.nil this);have G9:=hid Gz;obtain⟨x0,Kt⟩:=hX.q2;obtain⟨u0,k0⟩:=o.c0;obtain⟨u1,k1⟩:=o.c1;have f0:=o.f0;have G5:=hid k0;clear Hm Gz hd Hj;go_wp2_with fail;obtain⟨Z,hZ,q0,D,gZ,bZ,gg⟩:=o.fill hG Kr (Uq s) (Uq q);rw [<- hZ];clear hZ;refine zF (v:=Ul #[Uo #[.map (Uq s),.map (Uq q)],.nilIface]) (by simp [results,results132,go_sem,q0,D]) ?_;obtain rfl:=G9.out;rw [<- HP.out,Ki.out];obtain⟨N,cz,hF,Kl,H3⟩:=(hM.box G5 gg).full;refine⟨cz,N,(s,q),rfl,gZ,Y.gr gg hhi,H3,?_,Kl,Hx,hF⟩;rcases Nat.eq_zero_or_pos k with h0|h0
   ·right;have:p=[]:=List.length_eq_zero_iff.1 (oJ (Hi h0) Ho.1);rw [this];rfl
   ·left;intro e;have:=hM.some';rw [e] at this;simp at this;omega
theorem Qpw {E:Ev}:∀(d:Nat) (p:List ByteArray),p.length+d=8 ->∀{w:Ur} {x x':Nat} {acc B:List Lf} {U:List Int},TS E w x acc ->E.hi<=w.heap.size ->acc.length<=1000 ->RT E.K (d+1) p acc B U ->Rv E x U x' ->
  Cl 132 #[Uk (Uc E.tb),Ud (p.length:Int)] w fun e w'=>NdP E w acc B x' (Qac p 3) (d+2) e w'
 | 0,p,hp,_,_,_,_,_,_,hT,hhi,hl,hd,hR=>Qiq hp (fun h=>oM) hT hhi hl hd hR
 | d+1,p,hp,_,_,_,_,_,_,hT,hhi,hl,hd,hR=>Qiq hp (fun h s x x' acc J U W hrt hrv ht hh ha=>by
   have:=Qpw d (p++[s]) oS ht hh ha hrt hrv;rw [show (((p++[s]).length:Nat):Int)=(p.length:Int)+1 by simp] at this;exact this) hT hhi hl hd hR
def By (zs:List Int):Prop:=∀z∈zs,0<=z/\ z<256
theorem By.nil:By []:=fun z h=>by cases h
theorem By.app {a b:List Int}(h:By a)(k:By b):By (a++b):=fun z hz=>by
 rcases List.mem_append.1 hz with j|j
 ·exact h z j
 ·exact k z j
theorem By.flat {α:Type}{f:α ->List Int}:∀{ys:List α},(∀y∈ys,By (f y)) ->By (ys.flatMap f):=fun{ys} h z j=>by
 obtain⟨y,k,j⟩:=List.mem_flatMap.1 j;exact h y k z j
theorem By.uv {v:Nat}(h:v<=10000000000):By (uvF 9 v):=Qlw 9 v oM
theorem By.text(h:s.size<=10000000000):By (Qae s):=By.app (By.uv h) (Qd6 s)
theorem Qmh {l:List (Int×Int)}(h:∀p∈l,1<=p.1/\ p.1<=p.2/\ p.2<=1000000000)(i:Nat):(0<=sF l i/\ sF l i<=1000000000)/\ 0<=sT l i/\ sT l i<=1000000000:=by
 unfold sF sT;by_cases hi:i<l.length
 ·have e:l.getD i (0,0)=l[i]:=by simp [UA,hi]
  have:=h _ (UG hi);rw [e];omega
 ·have e:l.getD i (0,0)=(0,0):=by simp [UA,UX (YR hi)]
  rw [e];simp
theorem Qih {l:List (Int×Int)}(h:∀p∈l,1<=p.1/\ p.1<=p.2/\ p.2<=1000000000):∀k,By (spK l k)
 | 0=>By.nil
 | k+1=>by
  have j:=Qmh h k;have m:0<=loK l k:=by
   cases k with
   | zero=>simp [loK]
   | succ k=>have:=Qmh h k;simp only [loK];omega
  exact By.app (Qih h k) (By.app (By.uv oM) (By.uv oM))
theorem Qgz(h:QcS R F T n=true):By (Qet (Lk R F T n)):=by
 have j:=Qal.1 h;rw [QfE];have m:=QfY (Lk R F T n) 8;refine By.app (By.uv oM) (By.flat fun r hr=> ?_);have q:=(Qdz (Lk R F T n) 8 r).1 hr;have u:=Qbx R F T n r;have k:=(QbZ n j.1 r).1.2;have v:=j.2;exact By.app (By.uv oM) (By.app (By.uv oM) (Qih k _))
theorem Qhx {R F T:Nat ->Int}{n:Nat}{l:List Lf}(h:QbT R F T n l l.length)(hb:LvB l):∀f p,By (tB l f p)
 | 0,p=>by intro z k;simp [tB] at k
 | f+1,p=>by
  obtain⟨b,u⟩:=Qeh p h l.length zL;have v:=QeP l p l.length;have g:=hb.len;rw [Qg8];refine By.app (By.uv oM) (By.flat fun y hy=> ?_);obtain⟨j,r,e⟩:=(u y).1 hy;have M:=Qen (h j r).1 e;have q:=(Qb2.1 e).2;have o:y.2=1 \/y.2=2 \/y.2=3:=by
   rw [<- q];unfold Qav;dsimp only;split
   ·exact .inr (.inr rfl)
   ·rcases QgZ (gL l j).fl with h|h
    ·exact .inl h
    ·exact .inr (.inl h)
  unfold kB;refine By.app (By.text oM) (By.app (fun z k=>by rw [List.mem_singleton] at k;subst k;omega) ?_);by_cases m:y.2=3
  ·rw [if_pos m];exact Qhx h hb f _
  ·rw [if_neg m];unfold mB;have t:=QgO l p y l.length;refine By.app (By.uv oM) (By.flat fun x hx=> ?_);obtain⟨i,hi,_,rfl⟩:=Qbd.1 hx;have s:=hb.rep i hi;have A:=hb.seq i hi;have E:=hb.val i hi;unfold lfB;refine By.app (By.uv oM) (By.app (By.uv oM) ?_);split
   ·exact By.text oM
   ·exact By.nil
theorem By.byt(h:By zs):Byt (fun i=>zs.getD i 0):=fun i=>by
 by_cases hi:i<zs.length
 ·have e:zs.getD i 0=zs[i]:=by simp [UA,hi]
  have:=h _ (UG hi);dsimp only;rw [e];omega
 ·have e:zs.getD i 0=0:=by simp [UA,UX (YR hi)]
  dsimp only;rw [e];omega
def EnT:Nat ->List ByteArray ->List Lf ->List Int ->Prop
 | 0,_,_,_=>False
 | d+1,p,B,U=>∃G:List Gr3,B=G.flatMap (fun g=>g.2.1)/\ U=uvF 9 G.length++G.flatMap (fun g=>Qae g.1.1++([g.1.2]++g.2.2))/\ (G.map Prod.fst).Pairwise (fun x y=>QcR x y<0)/\∀g∈G,(g.2.1≠[]/\∀z∈g.2.1,nx p z=Uq g.1)/\ (if g.1.2=3 then EnT d (p++[g.1.1]) g.2.1 g.2.2 else g.2.2=mB g.2.1 g.1.2)
theorem QjP {a b:Lf}(h1:a.p=b.p)(h2:a.fl=b.fl):QaL a b=QbC (a.r,a.q) (b.r,b.q):=by
 unfold QaL;rw [h1,h2];have j:QaC b.p b.p=0:=(QaR.path.z _ _).2 rfl;have k:QaZ (kd b.fl) (kd b.fl)=0:=(QaR.int.z _ _).2 rfl;rw [j,k];simp [orI];rfl
theorem QmF {a b:Lf}(h:QbC (a.r,a.q) (b.r,b.q)<0):Dif a b:=fun e=>by
 rw [e.1,e.2,QaR.dot.irr] at h;omega
section
variable {K : Int -> Int -> Bool}
theorem Ql1 {kind:Int}{p:List ByteArray}:∀{B:List Lf} {before:Dt} {acc:List Lf},(∀z∈B,LGd K kind p z/\ QbC before (z.r,z.q)<0) ->B.Pairwise (fun x y=>QbC (x.r,x.q) (y.r,y.q)<0) ->(∀y∈acc,∀z∈B,Dif y z) ->(acc++B).length<=1000 ->OkB K kind p before acc B
 | [],_,_,_,_,_,_=>trivial
 | z::B,before,acc,h1,h2,h3,h4=>by
  obtain⟨k,m⟩:=List.pairwise_cons.1 h2;refine⟨(h1 z Vc).1,(h1 z Vc).2,fun y j=>h3 y j z Vc,by simp at h4;omega,?_⟩;refine Ql1 (fun x hx=>⟨(h1 x (Ve _ hx)).1,k x hx⟩) m (fun y j x hx=> ?_) (oU h4);rcases List.mem_append.1 j with j|j
  ·exact h3 y j x (Ve _ hx)
  ·simp at j;subst j;exact QmF (k x hx)
structure VB (K:Int ->Int ->Bool)(B:List Lf):Prop where
 ok:∀z∈B,Qcz z/\ K z.r z.q=true
 ord:B.Pairwise (fun x y=>QaL x y<0)
 dif:B.Pairwise Dif
theorem VB.parts {A B:List Lf}(h:VB K (A++B)):VB K A/\ VB K B/\ (∀a∈A,∀b∈B,Dif a b):=by
 obtain⟨q,r,_⟩:=List.pairwise_append.1 h.ord;obtain⟨j,k,m⟩:=List.pairwise_append.1 h.dif;exact⟨⟨fun z hz=>h.ok z (by simp [hz]),q,j⟩,⟨fun z hz=>h.ok z (by simp [hz]),r,k⟩,m⟩
theorem Qja {v:ByteArray}:emB v=true↔v=ByteArray.empty:=by
 unfold emB;rw [Lib.toList_data];obtain⟨⟨l⟩⟩:=v;cases l with
 | nil=>simp;rfl
 | cons a l=>simp;intro h;injection h with h;injection h with h;cases h
end
theorem QdV:∀{G:List Gr3},(∀g∈G,g.2.1≠[]) ->G.length<=(G.flatMap fun g=>g.2.1).length
 | [],_=>oP
 | g::G,h=>by
  have j:=QdV (G:=G) (fun x hx=>h x (Ve _ hx));have:1<=g.2.1.length:=List.length_pos_iff.2 (h g Vc);rw [Vs,UB,Vq];omega
theorem Qf8(hx:Qcz x)(h:nx p x=Uq y):y.1.size≠0/\ p.length<8:=by
 rw [Qb2] at h;obtain⟨⟨_,m⟩,e⟩:=h;have j:gS x.p p.length=y.1:=congrArg Prod.fst e;have k:=(hx.1.2.2 p.length m).1;rw [j] at k;have:=hx.1.2.1;exact⟨oM,oM⟩
theorem Qjx(h:s.size≠0):QcR (ByteArray.empty,0) (s,k)<0:=by
 have e:ltS ByteArray.empty s=true:=by
  unfold ltS;rw [Lib.toList_data,Lib.toList_data];obtain⟨⟨l⟩⟩:=s;cases l with
  | nil=>exact absurd rfl h
  | cons a l=>rfl
 unfold QcR QbI;simp [e,orI]
section
variable {K : Int -> Int -> Bool}
def Qp6 (K:Int ->Int ->Bool)(d:Nat):Prop:=∀p acc B U,EnT d p B U ->VB K B ->(∀y∈acc,∀z∈B,Dif y z) ->(acc++B).length<=1000 ->p.length+d=9 ->(p≠[] ->B≠[]) ->RT K d p acc B U
theorem Qp7 {d:Nat}(hK:KOk K)(ih:Qp6 K d){p:List ByteArray}(hd:p.length+(d+1)=9){acc:List Lf}{g:Gr3}(h1:g.2.1≠[]/\∀z∈g.2.1,nx p z=Uq g.1)(h2:if g.1.2=3 then EnT d (p++[g.1.1]) g.2.1 g.2.2 else g.2.2=mB g.2.1 g.1.2)
  (hv:VB K g.2.1) (hx:∀y∈acc,∀z∈g.2.1,Dif y z) (hl:(acc++g.2.1).length<=1000):RD K (RT K d) p g.1 acc g.2.1 g.2.2:=by
 unfold RD;by_cases m:g.1.2=3
 ·rw [if_pos m] at h2 ⊢;exact ih _ _ _ _ h2 hv hx hl oS (fun _=>h1.1)
 ·rw [if_neg m] at h2 ⊢;have j:∀z∈g.2.1,z.p=p++[g.1.1]/\ kd z.fl=g.1.2:=fun z j=>Qb9 m (h1.2 z j);obtain⟨o,t⟩:=YT _ h1.1;have v:g.1.2=1 \/g.1.2=2:=by rw [<- (j o t).2];exact QgZ _
  refine⟨v,h1.1,by simp at hl;omega,Ql1 (fun z hz'=>⟨⟨(j z hz').1,?_,(hv.ok z hz').2,(hv.ok z hz').1.2.1,fun e=> ?_⟩,?_⟩) ?_ hx hl,h2⟩
  ·have:=(j z hz').2;cases e:z.fl
   ·rw [e] at this;rw [<- this];rfl
   ·rw [e] at this;rw [<- this];rfl
  ·have:=(j z hz').2;rw [e] at this;refine Qja.1 ((hv.ok z hz').1.2.2 ?_);cases k:z.fl
   ·rw [k] at this;simp [kd] at this
   ·rfl
  ·obtain⟨i,_,s,_⟩:=hK _ _ (hv.ok z hz').2;unfold QbC orI QaZ;simp only;by_cases e:0<z.r
   ·simp [e]
   ·have k:z.r=0:=oM;simp [k];omega
  ·refine List.Pairwise.imp_of_mem ?_ hv.ord;intro a b q u h;rwa [QjP ((j a q).1.trans (j b u).1.symm) (Qjw ((j a q).2.trans (j b u).2.symm))] at h
theorem QnD {d:Nat}(hK:KOk K)(ih:Qp6 K d){p:List ByteArray}(hd:p.length+(d+1)=9):∀{G:List Gr3} {before:Ky} {acc:List Lf},
  (∀g∈G,(g.2.1≠[]/\∀z∈g.2.1,nx p z=Uq g.1)/\ (if g.1.2=3 then EnT d (p++[g.1.1]) g.2.1 g.2.2 else g.2.2=mB g.2.1 g.1.2)) ->(G.map Prod.fst).Pairwise (fun x y=>QcR x y<0) ->(∀g∈G,QcR before g.1<0) ->
  VB K (G.flatMap fun g=>g.2.1) ->(∀y∈acc,∀z∈G.flatMap (fun g=>g.2.1),Dif y z) ->(acc++G.flatMap fun g=>g.2.1).length<=1000 ->RK K (RT K d) p before acc G
 | [],_,_,_,_,_,_,_,_=>trivial
 | g::G,before,acc,h1,h2,h3,h4,h5,h6=>by
  rw [Vs] at h4 h5 h6;obtain⟨r,t,o⟩:=h4.parts;rw [List.map_cons,List.pairwise_cons] at h2;obtain⟨k,u⟩:=h1 g Vc;obtain⟨q,m⟩:=YT _ k.1;have v:=Qf8 (r.ok q m).1 (k.2 q m);have h:=Qen (r.ok q m).1 (k.2 q m);refine⟨⟨v.1,h,h3 g Vc⟩,Qp7 hK ih hd k u r (fun y j z hz=>h5 y j z (by simp [hz])) (by simp at h6 ⊢;omega),?_⟩;refine QnD hK ih hd (fun x hx=>h1 x (Ve _ hx)) h2.2 (fun x hx=>h2.1 x.1 (List.mem_map.2 ⟨x,hx,rfl⟩)) t (fun y j z hz=> ?_) (by rw [Vg];exact h6);rcases List.mem_append.1 j with j|j
  ·exact h5 y j z (by simp [hz])
  ·exact o y j z hz
theorem QnE (hK:KOk K):∀d,Qp6 K d
 | 0=>fun p acc B U h=>h.elim
 | d+1=>fun p acc B U ⟨G,hB,hU,hk,hG⟩ hv hx hl hd hp=>by
  subst hB;have q:=QdV (G:=G) (fun g j=>(hG g j).1.1);refine⟨G,rfl,hU,by rw [UB] at hl;omega,fun e=> ?_,fun e=> ?_,QnD hK (QnE hK d) hd hG hk (fun g j=> ?_) hv hx hl⟩
  ·by_cases m:p=[]
   ·rw [m];rfl
   ·exact absurd (by rw [e];rfl) (hp m)
  ·obtain⟨g,j⟩:=YT _ e;obtain⟨z,k⟩:=YT _ (hG g j).1.1;have:z∈G.flatMap fun g=>g.2.1:=(by simpa using ⟨g.1.1,g.1.2,g.2.1,⟨g.2.2,j⟩,k⟩);exact(Qf8 (hv.ok z this).1 ((hG g j).1.2 z k)).2
  ·obtain⟨z,k⟩:=YT _ (hG g j).1.1;have:z∈G.flatMap fun g=>g.2.1:=(by simpa using ⟨g.1.1,g.1.2,g.2.1,⟨g.2.2,j⟩,k⟩);exact Qjx (Qf8 (hv.ok z this).1 ((hG g j).1.2 z k)).1
end
theorem QfX {R F T:Nat ->Int}{n:Nat}{l:List Lf}(h:QbT R F T n l l.length):∀(d:Nat) (p:List ByteArray),p.length+d=9 ->0<d ->EnT d p (uL l p l.length) (tB l d p)
 | 0,_,_,h0=>oM
 | d+1,p,hd,_=>by
  obtain⟨A,E⟩:=Qeh p h l.length zL;have b:∀y∈kS l p l.length,∃j,j<l.length/\ nx p (gL l j)=Uq y:=fun y m=>(E y).1 m;refine⟨(kS l p l.length).map fun y=>(y,dsK l p y l.length,if y.2=3 then tB l d (p++[y.1]) else mB (dsK l p y l.length) y.2),?_,?_,?_,?_⟩
  ·rw [Yo,<- QdX p h l.length zL]
  ·rw [Qg8,Vm,Yo];rfl
  ·rw [List.map_map];simpa [Function.comp_def] using A
  ·intro g t;obtain⟨y,m,rfl⟩:=List.mem_map.1 t;obtain⟨j,r,u⟩:=b y m;refine⟨⟨?_,fun z hz=> ?_⟩,?_⟩
   ·exact List.ne_nil_of_mem (Qbd.2 ⟨j,r,u,rfl⟩)
   ·obtain⟨i,_,hi,rfl⟩:=Qbd.1 hz;exact hi
   ·by_cases k:y.2=3
    ·simp only [if_pos k];have q:y=(y.1,3):=(by rw [<- k]);have v:dsK l p y l.length=uL l (p++[y.1]) l.length:=by
      conv=>lhs;rw [q]
      exact QiX l p y.1 l.length
     rw [v];have o:nx (p++[y.1]) (gL l j)≠Up:=Qem.1 (q▸u);have s:=(Qf9.1 o).2;have M:=(h j r).1.1.2.1;simp at s;exact QfX h d (p++[y.1]) oS oM
    ·simp only [if_neg k]
theorem Qp8(h1:QbT R F T n l l.length)(h2:Dis l l.length):VB (fun r q=>Qb6 R F T r q q n) l:=by
 have k:∀{i:Nat} (hi:i<l.length),gL l i=l[i]:=fun{i} hi=>by simp [gL,UA,hi]
 refine⟨fun z hz=> ?_,List.pairwise_iff_getElem.2 fun i j hi hj hij=> ?_,List.pairwise_iff_getElem.2 fun i j hi hj hij=> ?_⟩
 ·obtain⟨i,hi,rfl⟩:=List.getElem_of_mem hz;have:=h1 i hi;rw [k hi] at this;exact⟨this.1,this.2.1⟩
 ·have:=h1.lt j hij hj;rwa [k hi,k hj] at this
 ·have:=h2 j hj i hij;rwa [k hi,k hj] at this
theorem Qd1 {α β:Type}{f g:α ->List β}:∀{ys:List α},(∀y∈ys,f y=g y) ->ys.flatMap f=ys.flatMap g
 | [],_=>rfl
 | y::ys,h=>by
  rw [Vs,Vs,h y Vc,Qd1 fun z hz=>h z (Ve _ hz)]
theorem Qkf {R F T:Nat ->Int}{n:Nat}{l:List Lf}(h:QbT R F T n l l.length):∀(d:Nat) (p:List ByteArray),p.length+(d+1)=8 ->tB l (d+1) p=tB l (d+2) p
 | d,p,hp=>by
  rw [Qg8,Qg8];congr 1;refine Qd1 fun y hy=> ?_;unfold kB;by_cases k:y.2=3
  ·obtain⟨j,q,u⟩:=((Qeh p h l.length zL).2 y).1 hy;have m:y=(y.1,3):=(by rw [<- k]);have r:nx (p++[y.1]) (gL l j)≠Up:=Qem.1 (m▸u);have v:=(Qf9.1 r).2;have z:=(h j q).1.1.2.1;simp at v;rw [if_pos k,if_pos k];match d,hp with
   | 0,hp=>omega
   | d+1,hp=>rw [Qkf h d (p++[y.1]) oS]
  ·rw [if_neg k,if_neg k]
theorem QnU(h:QcS R F T m=true):KOk (fun r q=>Qb6 R F T r q q m):=fun r q hq=>by
 obtain⟨k,j,u,v,y⟩:=Qjn R F T r q q m hq;have:=((Qal.1 h).1 k j).1;simp only [QaF,Bool.and_eq_true,decide_eq_true_eq] at this;omega
theorem Qq2(h:QcS R F T m=true):(fun r q=>inB (Lk R F T m r) q q)=fun r q=>Qb6 R F T r q q m:=by
 funext r q;rw [Qec]
theorem Qps(h:Qba R F T m l):RT (fun r q=>inB (Lk R F T m r) q q) 9 [] [] l (tB l 8 []):=by
 rw [Qq2 h.1,Qkf h.2.2.1 7 [] rfl];have j:=QfX h.2.2.1 9 [] rfl oD;rw [Qki h.2.2.1 _ zL,Vn] at j;exact QnE (QnU h.1) 9 [] [] l _ j (Qp8 h.2.2.1 h.2.2.2) (fun y hy=>by simp at hy) (oU h.2.1) rfl (fun h=>absurd rfl h)
theorem QlM(h:QcS R F T m=true):∀r q,inB (Lk R F T m r) q q=true ->0<=r/\ r<=7/\ 1<=q/\ q<=1000000000:=fun r q hq=>QnU h r q ((congrFun (congrFun (Qq2 h) r) q).symm.trans hq)
structure LX (v:Ur)(b:Nat):Prop where
 c0:∃u,v.cell? (Ub b)=Uq (.map u)
 c1:∃u,v.cell? (Ua b 1)=Uq (.map u)
 c2:∃u,v.cell? (Ua b 2)=Uq (.map u)
 f0:∀i,v.frozen? (Ua b i)=false
 lt:b<v.heap.size
theorem LX.q2 {v:Ur}(h:LX v b):(∃u,v.cell? (Ub b)=Uq (.map u))/\ (∃u,v.cell? (Ua b 1)=Uq (.map u)):=⟨h.c0,h.c1⟩
section
variable {w v v' : Ur} {tb ub : Nat}
theorem LX.same {b:Nat}(h:LX v b)(e:v'.heap[b]? =v.heap[b]?)(hz:v.heap.size<=v'.heap.size):LX v' b:=by
 obtain⟨q,j⟩:=h.c0;obtain⟨r,k⟩:=h.c1;obtain⟨u,m⟩:=h.c2;exact⟨⟨q,(US (a:=(Ub b)) e).trans j⟩,⟨r,(US (a:=(Ua b 1)) e).trans k⟩,⟨u,(US (a:=(Ua b 2)) e).trans m⟩,fun i=>(World.frozen?_of_block (a:=(Ua b i)) e).trans (h.f0 i),Ut h.lt hz⟩
theorem LX.fill {b:Nat}(h:LX v b)(s0 s1 s2:Option Nat):
  ∃Z,Z=((v.setCell (Ub b) (.map s0)).setCell (Ua b 1) (.map s1)).setCell (Ua b 2) (.map s2)/\ Z.cell? (Ub b)=Uq (.map s0)/\ Z.cell? (Ua b 1)=Uq (.map s1)/\ Z.cell? (Ua b 2)=Uq (.map s2)/\ v.grownBy Z (Uq b):=by
 obtain⟨u,m⟩:=h.c0;obtain⟨y,q⟩:=h.c1;obtain⟨z,r⟩:=h.c2;refine⟨_,rfl,?_,?_,?_,⟨rfl,rfl,rfl,by simp [UL],fun k hk hne=> ?_⟩⟩
 ·rw [UN _ _ _ _ oP,UN _ _ _ _ oP];exact UM _ _ _ m
 ·rw [UN _ _ _ _ oP];exact UM _ _ _ (by rw [UN _ _ _ _ oP];exact q)
 ·exact UM _ _ _ (by rw [UN _ _ _ _ oP,UN _ _ _ _ oP];exact r)
 ·have j:k≠b:=fun e=>hne (by rw [e]);exact(zH _ _ _ _ j).trans ((zH _ _ _ _ j).trans (zH _ _ _ _ j))
end
theorem Qi6(hst:Qba R F T m l)(hA:At f 0 (psB R F T m l))(hl:n=(psB R F T m l).length)(h4:n<=4000)(hnc:n<=c)(hcc:c<=9223372036854775807)(hf:Byt f)(hs:Seg w a n f)(hab:∀y,a=Uq y ->y.block<w.heap.size):
  Cl 108 #[Uf a n c] w fun e w'=>∃(z0:Nat×Nat) (bd:Nat),e=Ui (Ul #[Uo #[.map (Uq z0.1),.map (Uq z0.2),.map (Uq bd)],.nilIface])/\ LvJ w' z0 bd l (flat R F T m)/\ Bl w w':=by
 obtain⟨P,hP⟩:∃P:Ending ->Ur ->Prop,(fun e w'=>∃(z0:Nat×Nat) (bd:Nat),e=Ui (Ul #[Uo #[.map (Uq z0.1),.map (Uq z0.2),.map (Uq bd)],.nilIface])/\ LvJ w' z0 bd l (flat R F T m)/\ Bl w w')=P:=⟨_,rfl⟩;rw [hP];have HP:=hid hP;obtain⟨c1,c2,c3,c4,c5,c6,c7⟩:=QlA hst.1;have Hs:Rb f n 0 (QlC (Qkp (Lk R F T m))++tB l 8 []) n:=by rw [c2];exact⟨hA,by rw [VS];exact hl,Uv _⟩
 obtain⟨x1,o,g⟩:=Hs.app;have H5:=@run_makeMap prog;have Ga:¬(4000:Int)<(n:Int):=oM;obtain⟨W,h⟩:=zE (((w.alloc (Uj #[.map Up,.map Up,.map Up] 128)).alloc (.map #[] 0)).alloc (Uj #[Uf a n c,Ud 0,.map Up,.map (Uq (w.heap.size+1))] 231));have bW:Bl w W:=h▸((zO _ _).alloc oP _).alloc oS _;have zW:W.heap.size=w.heap.size+3:=h▸oP;have xR:LX (w.alloc (Uj #[.map Up,.map Up,.map Up] 128)) w.heap.size:=⟨⟨Up,oP⟩,⟨Up,oP⟩,⟨Up,oP⟩,fun i=>by rw [VJ _ _ _ _ rfl],oP⟩;have xW:LX W w.heap.size:=xR.same (h▸(Below.heap_alloc _ _ _ oS).trans (Below.heap_alloc _ _ _ oP)) (h▸oP);have uW:UsM W (w.heap.size+1) []:=by
  have:=(UsM.made (w.alloc (Uj #[.map Up,.map Up,.map Up] 128)));rw [<- h];have h2:UsM ((w.alloc (Uj #[.map Up,.map Up,.map Up] 128)).alloc (.map #[] 0)) (w.heap.size+1) []:=oU this;exact h2.same (Below.heap_alloc _ _ _ oP)
 have cW:Cur (fun i=>if i=2 then Uq (.map Up) else if i=3 then Uq (.map (Uq (w.heap.size+1))) else Up) W (w.heap.size+2) a n c ((0:Nat):Int):=by
  rw [<- h];refine⟨?_,?_,?_,fun i hi=> ?_⟩
  ·rw [VH _ _ _ _ oP];rfl
  ·rw [VH _ _ _ _ oP];rfl
  ·rw [VJ _ _ _ _ oP]
  ·rw [VH _ _ _ _ oP,VJ _ _ _ _ oP];refine⟨?_,rfl⟩;match i,hi with
   | 2,_=>rfl
   | 3,_=>rfl
   | j+4,_=>simp
 have C:Cu (fun i=>if i=2 then Uq (.map Up) else if i=3 then Uq (.map (Uq (w.heap.size+1))) else Up) W (w.heap.size+2) a n c f 0:=⟨cW,hs.bw bW,fun y hy=>oH (hab y hy),oM,hnc,hcc,hf⟩;have S:=hid (Qqr C c1 o (fun y hy=>oH (hab y hy)));rw [c3] at S;have Hw:=hid g;have H8:=hid C;have HX:=hid xW;have Hx:=hid uW;have Hi:=hid bW;have HZ:=hid zW;have Ht:=hid hab;have M:=hid (And.intro c4 (And.intro c5 (And.intro c6 c7)));have Hj:=hid (And.intro (Qps hst) (And.intro (QlM hst.1) hst.2.1));clear hf hs xW uW bW zW cW xR hab C c1 c2 c3 c4 c5 c6 c7 o g Hs hA hst hP hl;go_enter func108,ntmps108;go_wp2_with fail;try rw [h]
 clear h H5;refine S.mono ?_;clear S;rintro e w1 ⟨z,nn,D,G,⟨rfl,g1,q⟩,X,H3,Hg⟩;have zz:=HZ.out;have z1:=g1.size;have H7:w.heap.size+2<w1.heap.size:=oM;obtain⟨Hl,Hm,Hn,U⟩:=q.cur;have cm:w1.cell? (Ua (w.heap.size+1+1) 2)=Uq (.map Up):=(U 2 oM).1;obtain⟨p,H⟩:=zE (w1.setCell (Ua (w.heap.size+2) 2) (.map (Uq z)));have K:w1.grownBy p (Uq (w.heap.size+2)):=H▸Qa6 w1 (Ua (w.heap.size+2) 2) _;have z2:p.heap.size=w1.heap.size:=by rw [<- H];simp [UL]
 have V:=Qan g1 K;obtain⟨E,t⟩:∃E:Ev,E=⟨w.heap.size+2,z,w.heap.size+1,w.heap.size+3,w1.heap.size,n,c,a,f,Lk R F T m⟩:=⟨_,rfl⟩;have T2:TS E p x1 []:=by
  subst t;refine⟨⟨?_,q.seg.grown K q.ab,q.ab,q.hn,q.nc,q.cc,q.byt⟩,Hx.same (V.block (w.heap.size+1) oM (fun e=>oI e)),⟨nn,D,G,X.gr K (fun e=>oI e) (fun r k hk e=>by injection e with e;have:=Hg r k hk;omega),fun r k hk=> ?_⟩,fun y hy=> ?_,oP,oP,oP,by dsimp only;omega,X.own.lt,fun r=>⟨M.2.1 r,Uw (M.2.2.2 r) oM⟩,Hj.2.1⟩
  ·show Cur (exT z (w.heap.size+1)) p (w.heap.size+2) a n c (x1:Int);rw [<- H];refine⟨?_,?_,?_,fun i hi=> ?_⟩
   ·rw [UN _ _ _ _ oP];exact Hl
   ·rw [UN _ _ _ _ oP];exact Hm
   ·rw [UK];exact Hn
   ·unfold exT;by_cases J:i=2
    ·subst J;rw [if_pos rfl];exact⟨UM _ _ _ cm,by rw [UK];exact(U 2 oM).2⟩
    ·have h3:=U i hi;dsimp only at h3;rw [if_neg J] at h3;rw [if_neg J,UN _ _ _ _ (by intro e;injection e with e1 e3 e4;exact J e3.symm),UK];exact h3
  ·have:=(World.ownsRow.lt (X.rows r) k hk).2;have:=Hg r k hk;dsimp only;omega
  ·have:=Ht y hy;dsimp only;omega
 have Ha:=hid (Qpw 8 [] rfl T2 (by subst t;dsimp only;omega) oP (by subst t;exact Hj.1) (x':=n) (by subst t;exact Hw));have Hq:E.tb=w.heap.size+2:=by rw [t]
 have Hu:Hid (E.tb=w.heap.size+2/\ E.ub=w.heap.size+1/\ E.kb=z/\ E.L=Lk R F T m/\ E.bs=w.heap.size+3/\ E.n=n):=hid (by rw [t];exact⟨rfl,rfl,rfl,rfl,rfl,rfl⟩);rw [Hq] at Ha;have Hk:=hid (HX.same (V.block w.heap.size HX.lt (fun e=>oI e)) V.size);have b:=hid (Hi.grown V Hi.size (fun k e=>oI e));have fz:w1.frozen? (Ua (w.heap.size+1+1) 2)=false:=(U 2 oM).2;have H9:Hid (w.heap.size+3<=p.heap.size):=hid oM;clear g1 X H3 Hg K V Hl Hm Hn U zz z1 H7 T2 t Hq q;go_wp2_with fail;try rw [H]
 clear H cm fz;refine Ha.mono ?_;clear Ha;rintro e B ⟨Hy,N,⟨s,A⟩,rfl,g3,t3,H0,H1,H2,He,Hr⟩;obtain⟨Q,Hf⟩:=zE (B.alloc (Uj #[.map (Uq s),.map (Uq A)] 124));have b4:Bl B Q:=Hf▸zO _ _;have V4:Bx2 Q B.heap.size (.map (Uq s)) (.map (Uq A)):=Hf▸Bx2.made B _ _ _;have I:=t3.bw b4;obtain⟨Hb,Ho,Hc,Hp,Hd,Hz⟩:=Hu.out;have u:=g3.trans (G2.bw b4);rw [Hb,Ho] at u;have O:=hid (Hk.same (u.block w.heap.size Hk.lt oM oM) u.size);have Hh:Hid (Bl w Q):=hid ⟨u.os.trans b.os,u.tape.trans b.tape,u.output.trans b.output,Uw b.size u.size,fun k hk=>(u.block k (Ut hk b.size) oM oM).trans (b.block k hk)⟩;have Gb:Q.cell? (Ua (w.heap.size+1+1) 1)=Uq (Ud (n:Int)):=by have:=I.cu.cur.2.1;rw [Hb] at this;exact this
 obtain⟨n0,n1⟩:=V4.q2;obtain⟨u0,k0⟩:=O.c0;obtain⟨u1,k1⟩:=O.c1;obtain⟨u2,k2⟩:=O.c2;have f0:=O.f0;have Gc:¬(n:Int)<(n:Int):=oM;have Hv:Hid (∀Z,Q.grownBy Z (Uq w.heap.size) ->LvJ Z (s,A) z l (flat R F T m)):=hid (fun Z Y=>by
  obtain⟨H6,D',G',o,g⟩:=I.grp;rw [Hc,Hp] at o;rw [Hd] at g;have H4:=I.kl;rw [Hd,Hc] at H4;refine⟨N,p.heap.size,Hy,H6,D',G',Lk R F T m,(Hr.bw b4).box k0 Y,?_,o.gr Y (fun e=>oI e) (fun r k hk e=>by injection e with e;have:=(g r k hk).1;omega),M.1,M.2.2.1,fun r=>Uw (M.2.2.2 r) oM⟩;simp only [VX] at He;have:=Nat.mul_le_mul_left 10 He;omega)
 clear b4 V4 I u g3 t3 H0 H1 H2 He Hr Hb Ho Hc Hp Hd Hz;go_wp2_with fail;try rw [Hf]
 obtain⟨Z,hZ,q0,o,g,Y⟩:=O.fill (Uq s) (Uq A) (Uq z);rw [<- hZ];clear hZ;refine zF (v:=Ul #[Uo #[.map (Uq s),.map (Uq A),.map (Uq z)],.nilIface]) (by simp [results,results108,go_sem,q0,o,g]) ?_;rw [<- HP.out];exact⟨(s,A),z,rfl,Hv Z Y,Hh.grown Y Hh.size (fun k e=>oI e)⟩
open Go.Deep
theorem Qfp (t e:TypeId)(i:TypeInfo)(z:Value)(size bytes:Nat)(ht:prog.underlying t=Uq (.slice e))(hi:prog.info? e=Uq i)(hz:i.zero=Uq z)(hsize:i.size=size)(hby:i.bytes=bytes)(hzs:z.cells.size=size)(hsz:0<size)(hb2:bytes<=64)(a:Option Us)(m c:Nat)(C:Nat ->Value)(w:Ur)(hm:m<=1048576)(hC:m=0 \/∃g off,a=Uq (Ua g off)/\∀j,j<m*size ->w.cell? (Ua g (off+j))=Uq (C j))(h1:∀j,j<m*size ->(C j).oneCell'=true):
  ∃a' cap w',(Builtin.append_ #[t,t] t #[Ue,Uf a m c]).run prog w=.ok (Uf a' m cap) w'/\ Bl w w'/\ (m<=cap/\ cap<=9223372036854775807)/\ (0<m ->∃q,a'=Uq (Ub q)/\ w.heap.size<=q/\ q<w'.heap.size/\ Wr w' q e (m*size) C):=by
 cases a with
 | none=>
  obtain rfl:m=0:=by
   rcases hC with h|⟨_,_,h,_⟩
   ·exact h
   ·cases h
  exact⟨Up,0,w,QcF w t t e i ht hi Up 0 0 c zL,zI,⟨oM,oM⟩,fun h=>oM⟩
 | some ad=>
  obtain⟨v',w',E,p,O,Z,G⟩:=run_append_own_at (P:=prog) w w.heap.size t t e i z size bytes ht hi hz hsize hby hzs hsz Ue 0 [] (VE _ _ _ _) ad m c ((UW (m*size)).map C) oP (fun j u v=>by
   simp only [Yj,Option.map_eq_some_iff] at v;obtain⟨q,r,rfl⟩:=v;have A:j<m*size:=by
    rcases YS j (m*size) with h|h
    ·exact h
    ·rw [UX (oU h)] at r;cases r
   rw [Yi A] at r;have r:=Option.some.inj r;rcases hC with y|⟨g,off,e,U⟩
   ·subst y;omega
   ·injection e with e;rw [e,<- r,Qca];exact U j A) (fun u hu=>by
   obtain⟨j,v,rfl⟩:=List.mem_map.1 hu;exact h1 j (oU v)) oL (by
    have:m*bytes<=1048576*64:=YQ hm hb2;rw [VS];omega) zL
  rw [VS,VX] at p;have s:Bl w w':=zI.grown O zL (fun k e=>by simp [Value.ownBlock] at e);rcases p.2 with ⟨rfl,y⟩|⟨q,cap,o,rfl,Q,r,Y,V,H,M⟩
  ·subst y;exact⟨Up,0,w',E,s,⟨oM,oM⟩,fun h=>oM⟩
  ·refine⟨_,cap,w',E,s,⟨Y,by unfold maxLen at V;omega⟩,fun _=>⟨q,rfl,Q,(Array.getElem?_eq_some_iff.1 r).1,o,r,?_,fun j v=> ?_⟩⟩
   ·have:=congrArg List.length M;simp at this;omega
   ·have b:(o.toList.take (m*size))[j]? =((UW (m*size)).map C)[j]? :=(by rw [M]);rw [Vu v] at b;rw [<- Array.getElem?_toList,b];simp [Yi v]
def CrP (e:TypeId)(m k:Nat)(C:Nat ->Value)(w:Ur)(en:Ending)(w':Ur):Prop:=∃a cap,en=Ui (Uf a m cap)/\ Bl w w'/\ (m<=cap/\ cap<=9223372036854775807)/\ (0<m ->∃q,a=Uq (Ub q)/\ w.heap.size<=q/\ q<w'.heap.size/\ Wr w' q e (m*k) C)
theorem Qk1 (a:Option Us)(c:Nat)(p:List ByteArray)(w:Ur)(hm:p.length<=1048576)(h:QaP w a p):
  Cl 75 #[Uf a p.length c] w fun en w'=>CrP 9 p.length 1 (fun t=> Um (gS p t)) w en w':=by
 obtain⟨y,hi,r,u,v⟩:=info_parts Qdn;obtain⟨a',cap,w',k,m⟩:=Qfp 74 9 y _ 1 16 underlying74 hi r u v rfl oD oM a p.length c (fun t=> Um (gS p t)) w hm (h.imp id fun⟨g,o,e,_,hc⟩=>⟨g,o,e,fun j hj=>hc j oM⟩) (fun _ _=>rfl);have q:=hid m;clear m h;go_enter func75,ntmps75;go_wp2_with (at_builtin;refine Qab rfl _ _ _ _ rfl k (by rfl) (by rfl) rfl ?_;clear k);go_ret;exact⟨a',cap,rfl,q⟩
def rCl (R F T:Nat ->Int)(j:Nat):Value:=if j%3=0 then Ud (R (j/3)) else if j%3=1 then Ud (F (j/3)) else Ud (T (j/3))
theorem Qqp(h:Wr w q 89 (n*3) (rCl R F T)):QaT w (Uc q) n R F T:=by
 refine .inr ⟨q,0,rfl,h.lt,fun i hi=> ?_⟩;have j:=h.cell (i:=i*3) oM;have k:=h.cell (i:=i*3+1) oM;have m:=h.cell (i:=i*3+2) oM;unfold rCl at j k m;rw [if_pos oM,show i*3/3=i by omega] at j;rw [if_neg oM,if_pos oM,show (i*3+1)/3=i by omega] at k;rw [if_neg oM,if_neg oM,show (i*3+2)/3=i by omega] at m;exact⟨oU j,by simpa using k,oU m⟩
theorem Qk0 (a:Option Us)(n c:Nat)(R F T:Nat ->Int)(w:Ur)(hm:n<=1048576)(h:QaT w a n R F T):
  Cl 76 #[Uf a n c] w fun en w'=>CrP 89 n 3 (rCl R F T) w en w':=by
 obtain⟨p,hi,t,i,b⟩:=info_parts Tryz.infoRun;obtain⟨a',cap,w',m,q⟩:=Qfp 24 89 p _ 3 24 underlying24 hi t i b rfl oD oM a n c (rCl R F T) w hm (h.imp id fun⟨g,o,e,_,hc⟩=>⟨g,o,e,fun j hj=>by
  obtain⟨v,y,z⟩:=hc (j/3) oM;unfold rCl;by_cases k:j%3=0
  ·rw [if_pos k];rw [show o+j=o+j/3*3 by omega];exact v
  ·by_cases r:j%3=1
   ·rw [if_neg k,if_pos r];rw [show o+j=o+j/3*3+1 by omega];exact y
   ·rw [if_neg k,if_neg r];rw [show o+j=o+j/3*3+2 by omega];exact z⟩) (fun j _=>by unfold rCl;split;rfl;split<;>rfl)
 have u:=hid q;clear q h;go_enter func76,ntmps76;go_wp2_with (at_builtin;refine Qab rfl _ _ _ _ rfl m (by rfl) (by rfl) rfl ?_;clear m);go_ret;exact⟨a',cap,rfl,u⟩
def lCl (l:List Lf)(A:Nat ->Value)(j:Nat):Value:=
 if j%5=0 then A (j/5) else if j%5=1 then Un (gL l (j/5)).fl else if j%5=2 then Ud (gL l (j/5)).r else if j%5=3 then Ud (gL l (j/5)).q else Um (gL l (j/5)).v
theorem Qn8 (l:List Lf)(A:Nat ->Value)(i:Nat):lCl l A (i*5)=A i/\ lCl l A (i*5+1)=Un (gL l i).fl/\ lCl l A (i*5+2)=Ud (gL l i).r/\ lCl l A (i*5+3)=Ud (gL l i).q/\ lCl l A (i*5+4)=Um (gL l i).v:=by
 unfold lCl;refine⟨?_,?_,?_,?_,?_⟩
 ·rw [if_pos oM,show i*5/5=i by omega]
 ·rw [if_neg oM,if_pos oM,show (i*5+1)/5=i by omega]
 ·rw [if_neg oM,if_neg oM,if_pos oM,show (i*5+2)/5=i by omega]
 ·rw [if_neg oM,if_neg oM,if_neg oM,if_pos oM,show (i*5+3)/5=i by omega]
 ·rw [if_neg oM,if_neg oM,if_neg oM,if_neg oM,show (i*5+4)/5=i by omega]
def PtA (w:Ur)(l:List Lf)(A:Nat ->Value):Prop:=∀i,i<l.length ->∃pa pc,A i=Uf pa (gL l i).p.length pc/\ QaP w pa (gL l i).p
theorem PtA.bw{A:Nat ->Value}(h:PtA w l A)(hb:Bl w w'):PtA w' l A:=fun i hi=>by
 obtain⟨j,pc,e,s⟩:=h i hi;exact⟨j,pc,e,s.bw hb⟩
theorem Qis{P:Nat ->Value ->Prop}(h:∀i,i<n ->∃v,P i v):∃A:Nat ->Value,∀i,i<n ->P i (A i):=
 ⟨fun i=>if hi:i<n then(h i hi).choose else Un true,fun i hi=>by dsimp only;rw [dif_pos hi];exact(h i hi).choose_spec⟩
theorem Qe9.cl(h:Qe9 w a l):∃A,PtA w l A/\ (l.length=0 \/∃g off,a=Uq (Ua g off)/\∀j,j<l.length*5 ->w.cell? (Ua g (off+j))=Uq (lCl l A j)):=by
 rcases h with h|⟨g,off,e,V,u⟩
 ·exact⟨fun _=> Un true,fun i hi=>oM,.inl h⟩
 ·have U:∀i,i<l.length ->∃v:Value,w.cell? (Ua g (off+i*5))=Uq v/\∃k pc,v=Uf k (gL l i).p.length pc/\ QaP w k (gL l i).p:=fun i hi=>by
   obtain⟨k,pc,q,s,_⟩:=u i hi;exact⟨_,q,k,pc,rfl,s⟩
  obtain⟨A,r⟩:=Qis U;refine⟨A,fun i hi=>(r i hi).2,.inr ⟨g,off,e,fun j hj=> ?_⟩⟩;have hi:j/5<l.length:=oM;obtain⟨k,pc,q,_,y,z,t,o⟩:=u (j/5) hi;obtain⟨b,E,M,O,Q⟩:=Qn8 l A (j/5);rcases (show j%5=0 \/j%5=1 \/j%5=2 \/j%5=3 \/j%5=4 by omega) with m|m|m|m|m
  ·rw [show lCl l A j=lCl l A (j/5*5) by congr 1;omega,b,show off+j=off+j/5*5 by omega];exact(r _ hi).1
  ·rw [show lCl l A j=lCl l A (j/5*5+1) by congr 1;omega,E,show off+j=off+j/5*5+1 by omega];exact y
  ·rw [show lCl l A j=lCl l A (j/5*5+2) by congr 1;omega,M,show off+j=off+j/5*5+2 by omega];exact z
  ·rw [show lCl l A j=lCl l A (j/5*5+3) by congr 1;omega,O,show off+j=off+j/5*5+3 by omega];exact t
  ·rw [show lCl l A j=lCl l A (j/5*5+4) by congr 1;omega,Q,show off+j=off+j/5*5+4 by omega];exact o
theorem QiV (a:Option Us)(c:Nat)(l:List Lf)(A:Nat ->Value)(w:Ur)(hm:l.length<=1048576)(hp:PtA w l A)(h:l.length=0 \/∃g off,a=Uq (Ua g off)/\∀j,j<l.length*5 ->w.cell? (Ua g (off+j))=Uq (lCl l A j)):
  Cl 74 #[Uf a l.length c] w fun en w'=>CrP 85 l.length 5 (lCl l A) w en w':=by
 obtain⟨y,hi,r,u,v⟩:=info_parts QcX;obtain⟨a',cap,w',k,m⟩:=Qfp 23 85 y _ 5 64 underlying23 hi r u v rfl oD oM a l.length c (lCl l A) w hm h (fun j hj=>by
  obtain⟨z,pc,e,_⟩:=hp (j/5) oM;unfold lCl;split;rw [e];rfl;split;rfl;split;rfl;split<;>rfl)
 have q:=hid m;clear m h;go_enter func74,ntmps74;go_wp2_with (at_builtin;refine Qab rfl _ _ _ _ rfl k (by rfl) (by rfl) rfl ?_;clear k);go_ret;exact⟨a',cap,rfl,q⟩
structure LCp (wr:Ur)(lo b:Nat)(l:List Lf)(k:Nat):Prop where
 b1:lo<=b
 wr':∃C,Wr wr b 85 (l.length*5) C
 new:∀i,i<k ->i<l.length ->∃pa pc,wr.cell? (Ua b (i*5))=Uq (Uf pa (gL l i).p.length pc)/\ ((gL l i).p.length<=pc/\ pc<=9223372036854775807)/\ (0<(gL l i).p.length ->∃q,pa=Uq (Ub q)/\ b<q/\ q<wr.heap.size/\ Wr wr q 9 ((gL l i).p.length*1) (fun t=> Um (gS (gL l i).p t)))
 cel:∀i,i<l.length ->wr.cell? (Ua b (i*5+1))=Uq (Un (gL l i).fl)/\ wr.cell? (Ua b (i*5+2))=Uq (Ud (gL l i).r)/\ wr.cell? (Ua b (i*5+3))=Uq (Ud (gL l i).q)/\ wr.cell? (Ua b (i*5+4))=Uq (Um (gL l i).v)
theorem LCp.step{k:Nat}(h:LCp wr lo b l k)(hk:k<l.length)(hb:Bl wr w1)(hc:(gL l k).p.length<=pc/\ pc<=9223372036854775807)(hn:0<(gL l k).p.length ->∃q,pa=Uq (Ub q)/\ wr.heap.size<=q/\ q<w1.heap.size/\ Wr w1 q 9 ((gL l k).p.length*1) (fun t=> Um (gS (gL l k).p t))):
  LCp (w1.setCell (Ua b (k*5)) (Uf pa (gL l k).p.length pc)) lo b l (k+1):=by
 obtain⟨C,r⟩:=h.wr';have z:=r.same (hb.block b r.lt);have U:=hb.size;have Q:b<wr.heap.size:=r.lt;have m:∀j,j≠k*5 ->(w1.setCell (Ua b (k*5)) (Uf pa (gL l k).p.length pc)).cell? (Ua b j)=wr.cell? (Ua b j):=fun j hj=>by
  rw [show (w1.setCell (Ua b (k*5)) (Uf pa (gL l k).p.length pc)).cell? (Ua b j)=w1.cell? (Ua b j) by simp [UN,Ne.symm hj]];exact hb.cell (p:=(Ua b j)) r.lt
 refine⟨h.b1,⟨_,z.set _ _⟩,fun i h1 h2=> ?_,fun i h2=> ?_⟩
 ·by_cases e:i=k
  ·subst e;refine⟨pa,pc,UM _ _ _ (z.cell (i:=i*5) oM),hc,fun h3=> ?_⟩;obtain⟨q,u,y,v,g⟩:=hn h3;exact⟨q,u,oM,by simpa [UL] using v,g.same (zH _ _ _ _ oS)⟩
  ·obtain⟨M,O,u,y,v⟩:=h.new i oM h2;refine⟨M,O,by rw [m _ oM];exact u,y,fun h3=> ?_⟩;obtain⟨q,o,s,A,E⟩:=v h3;exact⟨q,o,s,by simp [UL];omega,(E.same (hb.block _ A)).same (zH _ _ _ _ oS)⟩
 ·rw [m _ oM,m _ oM,m _ oM,m _ oM];exact h.cel i h2
theorem LCp.done(h:LCp wr lo b l l.length)(hs:wr.heap.size<=w'.heap.size)(hq:∀q,lo<=q ->q<wr.heap.size ->w'.heap[q]? =wr.heap[q]?):QbY w' (Uc b) l:=by
 obtain⟨C,O⟩:=h.wr';have Q:=O.lt;have o:=hq b h.b1 Q;have k:∀j,w'.cell? (Ua b j)=wr.cell? (Ua b j):=fun j=>US (a:=(Ua b j)) o;refine .inr ⟨b,0,rfl,oM,fun i hi'=> ?_⟩;obtain⟨m,r,u,v⟩:=h.cel i hi';obtain⟨U,pc,y,z,g⟩:=h.new i hi' hi';simp only [VS];refine⟨U,pc,⟨(k _).trans y,z⟩,?_,(k _).trans m,(k _).trans r,(k _).trans u,(k _).trans v⟩;by_cases M:0<(gL l i).p.length
 ·obtain⟨q,s,V,A,E⟩:=g M;have:=h.b1;exact .inr ⟨q,0,s,oM,fun t ht=>by rw [VS];exact(E.same (hq q oM A)).cell oM⟩
 ·exact .inl oM
theorem LCp.start{A:Nat ->Value}(hb:lo<=b)(h:Wr w1 b 85 (l.length*5) (lCl l A)):LCp w1 lo b l 0:=
 ⟨hb,⟨_,h⟩,fun i h1=>oM,fun i hi=>⟨by rw [h.cell oM,(Qn8 l A i).2.1],by rw [h.cell oM,(Qn8 l A i).2.2.1],by rw [h.cell oM,(Qn8 l A i).2.2.2.1],by rw [h.cell oM,(Qn8 l A i).2.2.2.2]⟩⟩
def CsP (S:Sx)(w:Ur)(e:Ending)(w':Ur):Prop:=∃a c' x d',e=Ui (Uo #[Uf a S.l.length c',Uf x S.n d'])/\ SOw w' w.heap.size w'.heap.size a x d' S/\ Bl w w'
theorem QeD (a x:Option Us)(c d:Nat)(S:Sx)(w:Ur)(hm:S.Sm)(h:SAt w a x S):
  Cl 45 #[Uo #[Uf a S.l.length c,Uf x S.n d]] w fun e w'=>CsP S w e w':=by
 obtain⟨W,g⟩:=zE ((w.alloc (Uj #[Uf a S.l.length c,Uf x S.n d] 28)).alloc (Uj #[Ue,Ue] 28));have O:Bl w W:=g▸Qad _ _ _;have G:Bx2 W w.heap.size (Uf a S.l.length c) (Uf x S.n d):=g▸(Bx2.made _ _ _ _).bw (zO _ _) oP;have F0:Bx2 W (w.heap.size+1) Ue Ue:=by
  rw [<- g];simpa using Bx2.made (w.alloc (Uj #[Uf a S.l.length c,Uf x S.n d] 28)) Ue Ue 28
 obtain⟨A,D,Hg⟩:=(h.lf.bw O).cl;have E:=hid F0;obtain⟨k0,k1⟩:=G.q2;have HX:=hid G;have H:=hid O;have HA:=hid D;have Hn:=hid (h.rn.bw O);have HL:=hid (QiV a c S.l A W hm.l1 D Hg);clear h O G F0 D Hg;go_enter func45,ntmps45;go_wp2_with fail;try rw [g]
 clear g;refine HL.mono ?_;rintro e w1 ⟨y,Q,rfl,K,Ht,Hi⟩;have J:Hid (Bl W w1/\ (0<S.l.length ->∃b,y=Uq (Ub b)/\ LCp w1 W.heap.size b S.l 0/\∀i,i<S.l.length ->w1.cell? (Ua b (i*5))=Uq (A i))):=hid ⟨K,fun r=>by
  obtain⟨q,N,U,B,V⟩:=Hi r;exact⟨q,N,LCp.start U V,fun i hi=>by rw [V.cell oM,(Qn8 S.l A i).1]⟩⟩
 have Hp:=hm.l1;have Hm:=hid hm.p1;clear K Hi HL k0 k1;go_wp2_with fail;go_loopw [10] (fun i wr=>∃j:Nat,j<=S.l.length/\ i=Ud (j:Int)/\ Hid (Bl W wr/\ (0<S.l.length ->∃b,y=Uq (Ub b)/\ LCp wr W.heap.size b S.l j/\∀i,j<=i ->i<S.l.length ->wr.cell? (Ua b (i*5))=Uq (A i)))) (fun i _=>S.l.length - (intOf i).toNat);case atStart=>exact⟨0,Ux _,rfl,hid ⟨J.1,fun r=>by obtain⟨b,N,U,B⟩:=J.2 r;exact⟨b,N,U,fun i _ hi=>B i hi⟩⟩⟩
 case round=>
  clear J;obtain⟨j,hj,rfl,k⟩:=hrel;by_cases Y:j<S.l.length
  ·obtain⟨b,rfl,z,Ha⟩:=k.2 oM;have i1:(0:Int)<=(j:Int):=UI _;have i2:(j:Int)<(S.l.length:Int):=oM;obtain⟨Hq,Hr,eA,Hk⟩:=(HA.bw k.1) j Y;have L:=Ha j zL Y;rw [eA] at L;have s:=hid (Qk1 Hq Hr (gL S.l j).p wr (Hm j) Hk);have M:Hid (∀w1 m pc,Bl wr w1 ->((gL S.l j).p.length<=pc/\ pc<=9223372036854775807) ->(0<(gL S.l j).p.length ->∃q,m=Uq (Ub q)/\ wr.heap.size<=q/\ q<w1.heap.size/\ Wr w1 q 9 ((gL S.l j).p.length*1) (fun t=> Um (gS (gL S.l j).p t))) ->(∃u,w1.cell? (Ua b (j*5))=Uq u)/\ (w1.frozen? (Ua b (j*5))=false)/\ Bl W (w1.setCell (Ua b (j*5)) (Uf m (gL S.l j).p.length pc))/\ (0<S.l.length ->∃b',Uq ((Ub b):Us)=Uq (Ub b')/\ LCp (w1.setCell (Ua b (j*5)) (Uf m (gL S.l j).p.length pc)) W.heap.size b' S.l (j+1)/\∀i,j+1<=i ->i<S.l.length ->(w1.setCell (Ua b (j*5)) (Uf m (gL S.l j).p.length pc)).cell? (Ua b' (i*5))=Uq (A i))):=hid (fun w1 m pc hb hc hn=>by
    obtain⟨C,P⟩:=z.wr';have Hd:=P.same (hb.block b P.lt);have Hs:=z.b1;exact⟨⟨_,Hd.cell (i:=j*5) oM⟩,Hd.frozen _,(k.1.trans (hb.mono k.1.size)).setCell oS _,fun _=>⟨b,rfl,z.step Y hb hc hn,fun i h1 h2=>by
     rw [show (w1.setCell (Ua b (j*5)) (Uf m (gL S.l j).p.length pc)).cell? (Ua b (i*5))=w1.cell? (Ua b (i*5)) from UN _ _ _ _ (by intro e;injection e with _ e;omega)];exact(hb.cell (p:=(Ua b (i*5))) P.lt).trans (Ha i oM h2)⟩⟩)
   obtain⟨np,Z⟩:=zE ((gL S.l j).p.length);obtain⟨pj,Hb⟩:=zE ((gL S.l j).p);rw [Hb] at s M Z;rw [Z] at s M;rw [Hb,Z] at L;clear Z Hb z Ha Hk eA;go_wp2_with fail;refine s.mono ?_;rintro e w2 ⟨m,pc,rfl,b2,Hf,Hh⟩;obtain⟨⟨u,hu⟩,hf,Hc,He⟩:=M w2 m pc b2 Hf Hh;have Hl:=hid (And.intro Hc He);clear L b2 Hh Hc He s M Hf;go_wp2_with fail;go_roundw;case rel=>exact⟨j+1,Y,oN,Hl⟩
   case measure=>exact oE
  ·obtain rfl:j=S.l.length:=oM;have X:=HX.bw k.1 HX.lt;obtain⟨k0,k1⟩:=X.q2;have HR:=hid (Qk0 x S.n d S.R S.F S.T wr hm.n1 (Hn.bw k.1));clear X;go_wp2_with fail;refine HR.mono ?_;rintro e o ⟨x',d',rfl,b3,Hu,Hj⟩;have F3:=(E.bw k.1 E.lt).bw b3 (Ut E.lt k.1.size);obtain⟨f0,f1,ff⟩:=F3.p2;have Ho:=hid Hj;have I:=hid b3;have Hx:w.heap.size+1<W.heap.size:=E.lt;have Hy:W.heap.size<=wr.heap.size:=k.1.size;clear k0 k1 Hj b3 F3 HR;go_wp2_with fail;have Hw:wr.heap.size<=o.heap.size:=I.size;have hh:∀q,W.heap.size<=q ->((o.setCell (Ua (w.heap.size+1) 0) (Uf y S.l.length Q)).setCell (Ua (w.heap.size+1) 1) (Uf x' S.n d')).heap[q]? =o.heap[q]? :=fun q h1=>by
    rw [zH _ _ _ _ oS,zH _ _ _ _ oS]
   have Hv:((o.setCell ⟨w.heap.size+1,0,Up⟩ (Uf y S.l.length Q)).setCell ⟨w.heap.size+1,1,Up⟩ (Uf x' S.n d')).heap.size=o.heap.size:=(by simp [UL]);refine zF (v:=Uo #[Uf y S.l.length Q,Uf x' S.n d']) (by simp [results,results45,go_sem,f0,f1]) ⟨y,Q,x',d',rfl,⟨fun w' g1 g2=>⟨?_,?_⟩,oM,Uv _⟩,?_⟩
   ·by_cases r:0<S.l.length
    ·obtain⟨b,rfl,z,_⟩:=k.2 r;exact z.done oM (fun q h1 h2=>((g2 q oM oM).trans (hh q h1)).trans (I.block q h2))
    ·exact .inl oM
   ·by_cases r:0<S.n
    ·obtain⟨q,rfl,U,B,V⟩:=Ho r;exact Qqp (V.same ((g2 q oM oM).trans (hh q oM)))
    ·exact .inl oM
   ·exact(((H.trans (k.1.mono H.size)).trans (I.mono (oH H.size))).setCell oP _).setCell oP _
theorem Qgg (id:Int)(ga gx ga' gx':Option Us)(c d c' d':Nat)(S S':Sx)(w:Ur)(hm:S.Sm)(hm':S'.Sm)(h:SAt w ga gx S)(h':SAt w ga' gx' S'):
  Cl 26 #[Uo #[Ud id,Uf ga S.l.length c,Uf gx S.n d,Uf ga' S'.l.length c',Uf gx' S'.n d']] w fun e w'=>∃a q x j a' r x' m m2,e=Ui (Uo #[Ud id,Uf a S.l.length q,Uf x S.n j,Uf a' S'.l.length r,Uf x' S'.n m])/\ SOw w' w.heap.size m2 a x j S/\ SOw w' m2 w'.heap.size a' x' m S'/\ Bl w w':=by
 obtain⟨W,z⟩:=zE ((w.alloc (Uj #[Ud id,Uf ga S.l.length c,Uf gx S.n d,Uf ga' S'.l.length c',Uf gx' S'.n d'] 30)).alloc (Uj #[Ud 0,Ue,Ue,Ue,Ue] 30));have U:Bl w W:=z▸Qad _ _ _;have i:Bx5 W w.heap.size (Ud id) (Uf ga S.l.length c) (Uf gx S.n d) (Uf ga' S'.l.length c') (Uf gx' S'.n d'):=z▸(Bx5.new _ _ _ _ _ _ _).up _;have E:Bx5 W (w.heap.size+1) (Ud 0) Ue Ue Ue Ue:=by
  rw [<- z];have:=Bx5.new (w.alloc (Uj #[Ud id,Uf ga S.l.length c,Uf gx S.n d,Uf ga' S'.l.length c',Uf gx' S'.n d'] 30)) (Ud 0) Ue Ue Ue Ue 30;simpa using this
 have Z:=hid (fun w1(hb:Bl w w1)=>QeD ga gx c d S w1 hm (h.bw hb));have G:=hid (fun w1(hb:Bl w w1)=>QeD ga' gx' c' d' S' w1 hm' (h'.bw hb));have O:=hid U;have t:=hid i;have b:=hid E;obtain⟨q0,q1,q2,q3,q4⟩:=i.q5;clear h h' U i E;go_enter func26,ntmps26;go_wp2_with fail;try rw [z]
 clear z;have g:Hid (∀w',Bl w w' ->Bx5 w' w.heap.size (Ud id) (Uf ga S.l.length c) (Uf gx S.n d) (Uf ga' S'.l.length c') (Uf gx' S'.n d') ->(Bl w w'/\ w'.cell? (Ub w.heap.size)=Uq (Ud id)/\ w'.cell? (Ua w.heap.size 1)=Uq (Uf ga S.l.length c)/\ w'.cell? (Ua w.heap.size 2)=Uq (Uf gx S.n d)/\ w'.cell? (Ua w.heap.size 3)=Uq (Uf ga' S'.l.length c')/\ w'.cell? (Ua w.heap.size 4)=Uq (Uf gx' S'.n d'))):=hid (fun w' hB X=>⟨hB,X.c0,X.c1,X.c2,X.c3,X.c4⟩);refine zB g O.drew (t.bw zI.drew t.lt) (fun qh=> ?_);refine tZ 0 3 ?_;refine tZ 1 4 ?_;refine tZ 2 5 ?_;refine tZ 3 6 ?_;refine tZ 5 8 ?_;refine tZ 6 9 ?_;refine cZ 4 ?_;intro K k;go_simp;refine(Z _ qh.1).mono ?_;rintro e w1 ⟨a,q,x,j,rfl,C,u⟩;have o:Bl W w1:=⟨u.os,u.tape,u.output,u.size,u.block⟩;have s:=Qaa O o;have p:=t.bw o t.lt;have M:=b.bw o b.lt;have D:SOw w1 W.heap.size w1.heap.size a x j S:=C;refine k.out _ _ (g _ s p) (fun qh=> ?_);clear k K;try simp only [zP]
 refine cZ 7 ?_;intro K k;go_simp;refine(G _ s).mono ?_;rintro e V ⟨a',r,x',m,rfl,P,y⟩;have A:=Qaa s y;have Q:=p.bw y p.lt;have Y:=M.bw y M.lt;have F:=D.bw y;refine k.out _ _ (g _ A Q) (fun qh=> ?_);clear k K;try simp only [zP]
 refine tZ 8 11 ?_;obtain⟨H,I,J,L,N,R⟩:=Y.p5;refine cZ 9 ?_;intro K k;go_simp;have Ha:w.heap.size+1<W.heap.size:=b.lt;have T:W.heap.size<=w1.heap.size:=o.size;have B:w1.heap.size<=V.heap.size:=y.size;refine k.out _ _ (g _ ((((((A.setCell oP _).setCell oP _).setCell oP _).setCell oP _).setCell oP _)) (((((Q.setAt _ _ oP).setAt _ _ oP).setAt _ _ oP).setAt _ _ oP).setAt _ _ oP)) (fun qh=> ?_);clear k K;try simp only [zP]
 refine zD ?_;go_wp2_with fail;refine zF (v:=Uo #[Ud id,Uf a S.l.length q,Uf x S.n j,Uf a' S'.l.length r,Uf x' S'.n m]) (by simp [results,results26,go_sem,H,I,J,L,N]) ?_;first|refine⟨a,q,x,j,a',r,x',m,rfl,w1.heap.size,?_,?_,?_⟩|refine⟨a,q,x,j,a',r,x',m,w1.heap.size,rfl,?_,?_,?_⟩|refine⟨a,q,x,j,a',r,x',⟨m,rfl⟩,w1.heap.size,?_,?_,?_⟩
 ·refine SOw.wide (lo:=W.heap.size) (hi:=w1.heap.size) ?_ oM zL (by simp [UL];exact B);repeat (refine SOw.set ?_ _ _ (.inl oS))
  exact F
 ·refine SOw.wide (lo:=w1.heap.size) (hi:=V.heap.size) ?_ zL (by simp [UL]) zL;repeat (refine SOw.set ?_ _ _ (.inl oS))
  exact P
 ·repeat (refine Below.setCell ?_ oP _)
  exact A
theorem Own.cellset(h:Own w B v zs)(q:Us)(u:Value)(hq:q.block<B):Own (w.setCell q u) B v zs:=
 Qap h fun g hg=>zH _ _ _ _ (oH ((World.ownsRow.lt h g hg).1))
noncomputable def whZ (id:Int)(S S':Sx):Int×List Int×Bool:=if rpB id S S'=true then(2,(sxZ S).1,true) else(0,[],false)
theorem Qg5 (id:Int)(a x a' x':Option Us)(c d c' d':Nat)(S S':Sx)(w:Ur)(hc:S.l.length<=c)(hcm:c<=9223372036854775807)(hc':S'.l.length<=c')(hcm':c'<=9223372036854775807)(hm:S.Sm)(hm':S'.Sm)(h:QbY w a S.l)(k:QaT w x S.n S.R S.F S.T)(h':QbY w a' S'.l)(k':QaT w x' S'.n S'.R S'.F S'.T):
  Cl 10 #[Uo #[Ud id,Uf a S.l.length c,Uf x S.n d,Uf a' S'.l.length c',Uf x' S'.n d']] w fun e w'=>∃K v u B,e=Ui (Ul #[Uo #[Ud K,v],Un B])/\ whZ id S S'=(K,u,B)/\ Own w' w.heap.size v u/\ Bl w w':=by
 obtain⟨W,q⟩:=zE ((w.alloc (Uj #[Ud id,Uf a S.l.length c,Uf x S.n d,Uf a' S'.l.length c',Uf x' S'.n d'] 30)).alloc (Uj #[Ud 0,Ue] 35));have m:Bl w W:=q▸Qad _ _ _;have V:Bx2 W (w.heap.size+1) (Ud 0) Ue:=by
  rw [<- q];have:=Bx2.made (w.alloc (Uj #[Ud id,Uf a S.l.length c,Uf x S.n d,Uf a' S'.l.length c',Uf x' S'.n d'] 30)) (Ud 0) Ue 35;simpa using this
 have t:Bx5 W w.heap.size (Ud id) (Uf a S.l.length c) (Uf x S.n d) (Uf a' S'.l.length c') (Uf x' S'.n d'):=q▸(Bx5.new _ _ _ _ _ _ _).up _;have r:=hid (QaY id a x a' x' c d c' d' S S' W hc hcm hc' hcm' hm hm' (h.bw m) (k.bw m) (h'.bw m) (k'.bw m));have i:=hid (fun w1(hb:Bl W w1)=>Qcl a x c d S w1 hc hcm hm (h.bw (Qaa m hb)) (k.bw (Qaa m hb)));have b:Hid (rpB id S S'=true ->whZ id S S'=(2,(sxZ S).1,true)):=hid (fun h=>if_pos h);have p:Hid (rpB id S S'=false ->whZ id S S'=(0,[],false)):=hid (fun h=>if_neg (by rw [h];simp));have G:=hid m;have g:=hid t;have z:=hid V;obtain⟨L,N,X,C,D⟩:=t.q5;clear h h' k k' m t V;cases hr:rpB id S S' with
 | true=>
  rw [hr] at r;have s:=hid (b hr);clear hr b p;go_enter func10,ntmps10;go_wp2_with fail;try rw [q]
  clear q;refine r.mono ?_;rintro e w1 ⟨rfl,j⟩;have A:=g.bw j g.lt;have p1:=A.c1;have U:=A.c2;have y:=hid (Qaa G j);have H:=hid (i w1 j);have o:=hid (z.bw j z.lt);clear j A r g L N X C D i;go_wp2_with fail;refine H.mono ?_;rintro e w2 ⟨v,u,kk,rfl,I,Q,E⟩;have Ha:=hid Q;have J:w.heap.size+1<w1.heap.size:=o.lt;have P:=hid (Qaa y E);have HZ:Hid ((sxZ S).1=u):=hid (by rw [I]);obtain⟨va,vc,rfl,_⟩:=Q.any;have Z:=o.bw E o.lt;obtain⟨M,O,ff⟩:=Z.p2;clear I Q E H p1 U Z;go_wp2_with fail;refine zF (v:=Ul #[Uo #[Ud 2,Uf va u.length vc],Un true]) (by simp [results,results10,go_sem,M,O]) ⟨2,_,u,true,rfl,by rw [s.out,HZ.out],?_,?_⟩
  ·exact((Ha.cellset _ _ J).cellset _ _ J).weak y.size
  ·exact(P.setCell oP _).setCell oP _
 | false=>
  rw [hr] at r;have s:=hid (p hr);clear hr b p;go_enter func10,ntmps10;go_wp2_with fail;try rw [q]
  clear q;refine r.mono ?_;rintro e w1 ⟨rfl,j⟩;have y:=hid (Qaa G j);have Y:=z.bw j z.lt;obtain⟨M,O,ff⟩:=Y.p2;clear j r g L N X C D i Y;go_wp2_with fail;refine zF (v:=Ul #[Uo #[Ud 0,Ue],Un false]) (by simp [results,results10,go_sem,M,O]) ⟨0,_,[],false,rfl,s,VE _ _ _ _,?_⟩;first|exact y.out|exact(y.setCell oP _).setCell oP _
theorem Qgr (id:Int)(a x a' x':Option Us)(c d c' d':Nat)(S S':Sx)(w:Ur)(hi:∀i,LfI (gL S.l i))(hi':∀i,LfI (gL S'.l i))(hm:S.Sm)(hm':S'.Sm)(h:SAt w a x S)(h':SAt w a' x' S'):
  Cl 21 #[Uo #[Ud id,Uf a S.l.length c,Uf x S.n d,Uf a' S'.l.length c',Uf x' S'.n d']] w fun e w'=>∃K v q B,e=Ui (Ul #[Uo #[Ud K,v],Un B])/\ whZ id S S'=(K,q,B)/\ Own w' w.heap.size v q/\ Bl w w':=by
 obtain⟨W,k⟩:=zE ((w.alloc (Uj #[Ud id,Uf a S.l.length c,Uf x S.n d,Uf a' S'.l.length c',Uf x' S'.n d'] 30)).alloc (Uj #[Ud 0,Ue] 35));have u:Bl w W:=k▸Qad _ _ _;have V:Bx2 W (w.heap.size+1) (Ud 0) Ue:=by
  rw [<- k];have:=Bx2.made (w.alloc (Uj #[Ud id,Uf a S.l.length c,Uf x S.n d,Uf a' S'.l.length c',Uf x' S'.n d'] 30)) (Ud 0) Ue 35;simpa using this
 have g:Bx5 W w.heap.size (Ud id) (Uf a S.l.length c) (Uf x S.n d) (Uf a' S'.l.length c') (Uf x' S'.n d'):=k▸(Bx5.new _ _ _ _ _ _ _).up _;have m:=hid (QcW id a x a' x' c d c' d' S S' W hi hi' hm hm' (h.bw u) (h'.bw u));have o:=hid (fun w1(hb:Bl W w1)=>Qgp a x c d S w1 hi hm (h.bw (Qaa u hb)));have b:Hid (rpB id S S'=true ->whZ id S S'=(2,(sxZ S).1,true)):=hid (fun h=>if_pos h);have p:Hid (rpB id S S'=false ->whZ id S S'=(0,[],false)):=hid (fun h=>if_neg (by rw [h];simp));have G:=hid u;have z:=hid g;have y:=hid V;obtain⟨L,N,X,C,D⟩:=g.q5;clear h h' u g V;cases hr:rpB id S S' with
 | true=>
  rw [hr] at m;have s:=hid (b hr);clear hr b p;go_enter func21,ntmps21;go_wp2_with fail;try rw [k]
  clear k;refine m.mono ?_;rintro e w1 ⟨rfl,j⟩;have A:=z.bw j z.lt;have p1:=A.c1;have U:=A.c2;have r:=hid (Qaa G j);have H:=hid (o w1 j);have t:=hid (y.bw j y.lt);clear j A m z L N X C D o;go_wp2_with fail;refine H.mono ?_;rintro e w2 ⟨v,q,kk,rfl,I,Q,E⟩;have P:=hid Q;have J:w.heap.size+1<w1.heap.size:=t.lt;have F:=hid (Qaa r E);have R:Hid ((sxZ S).1=q):=hid (by rw [I]);obtain⟨va,vc,rfl,_⟩:=Q.any;have Z:=t.bw E t.lt;obtain⟨M,O,T⟩:=Z.p2;clear I Q E H p1 U Z;go_wp2_with fail;refine zF (v:=Ul #[Uo #[Ud 2,Uf va q.length vc],Un true]) (by simp [results,results21,go_sem,M,O]) ⟨2,_,q,true,rfl,by rw [s.out,R.out],?_,?_⟩
  ·exact((P.cellset _ _ J).cellset _ _ J).weak r.size
  ·exact(F.setCell oP _).setCell oP _
 | false=>
  rw [hr] at m;have s:=hid (p hr);clear hr b p;go_enter func21,ntmps21;go_wp2_with fail;try rw [k]
  clear k;refine m.mono ?_;rintro e w1 ⟨rfl,j⟩;have r:=hid (Qaa G j);have Y:=y.bw j y.lt;obtain⟨M,O,T⟩:=Y.p2;clear j m z L N X C D o Y;go_wp2_with fail;refine zF (v:=Ul #[Uo #[Ud 0,Ue],Un false]) (by simp [results,results21,go_sem,M,O]) ⟨0,_,[],false,rfl,s,VE _ _ _ _,?_⟩;first|exact r.out|exact(r.setCell oP _).setCell oP _
def Qfq (x b:Int):Int:=IntKind.u64.wrap (bits BinOp.xor IntKind.u64 x b*1099511628211)
def dig (f:Nat ->Int):Nat ->Int
 | 0=>14695981039346656037
 | k+1=>Qfq (dig f k) (f k)
theorem Qi7 (a:Option Us)(n c:Nat)(f:Nat ->Int)(w:Ur)(hn:n<=1048576)(hf:Byt f)(h:Seg w a n f):
  Cl 25 #[Uf a n c] w fun e w'=>e=Ui (Ug .u64 (dig f n))/\ w'=w:=by
 have m:∀k,k<n ->∃b off,a=Uq (Ua b off)/\ b<w.heap.size/\∀i,i<n ->w.cell? (Ua b (off+i))=Uq (Ug .u8 (f i)):=by
  intro k u;rcases h with h|h;omega;exact h
 clear h;by_cases q:n=0
 ·subst q;go_enter func25,ntmps25;go_wp2;refine wp_loop_rounds 1 ?_;rw [rounds_succ];go_wp2;go_ret;exact⟨rfl,rfl⟩
 ·obtain⟨b,off,rfl,y,r⟩:=m 0 oM;clear m;go_enter func25,ntmps25;go_wp2;go_loop [3,4] (fun v i=>∃k:Nat,k<=n/\ i=Ud k/\ v=Ug .u64 (dig f k)) (fun _ i=>n - (intOf i).toNat);case atStart=>exact⟨0,Ux _,rfl,rfl⟩
  case round=>
   obtain⟨k,u,rfl,rfl⟩:=hrel;by_cases j:k<n
   ·have z:=r k j;have g:=hf k;go_wp2;go_round;case rel=>exact⟨k+1,j,oN,rfl⟩
    case measure=>exact oE
   ·obtain rfl:k=n:=oM;go_wp2;go_ret;exact⟨rfl,rfl⟩
theorem QeM (a:Option Us)(n c:Nat)(f:Nat ->Int)(w:Ur)(hn:n<=1048576)(hf:Byt f)(h:Seg w a n f):
  Cl 23 #[Uf a n c] w fun e w'=>e=Ui (Ug .u64 (dig f n))/\ w'=w:=by
 have m:∀k,k<n ->∃b off,a=Uq (Ua b off)/\ b<w.heap.size/\∀i,i<n ->w.cell? (Ua b (off+i))=Uq (Ug .u8 (f i)):=by
  intro k u;rcases h with h|h;omega;exact h
 clear h;by_cases q:n=0
 ·subst q;go_enter func23,ntmps23;go_wp2;refine wp_loop_rounds 1 ?_;rw [rounds_succ];go_wp2;go_ret;exact⟨rfl,rfl⟩
 ·obtain⟨b,off,rfl,y,r⟩:=m 0 oM;clear m;go_enter func23,ntmps23;go_wp2;go_loop [3,8] (fun v i=>∃k:Nat,k<=n/\ i=Ud k/\ v=Ug .u64 (dig f k)) (fun _ i=>n - (intOf i).toNat);case atStart=>exact⟨0,Ux _,rfl,rfl⟩
  case round=>
   obtain⟨k,u,rfl,rfl⟩:=hrel;by_cases j:k<n
   ·have z:=r k j;have g:=hf k;go_wp2;go_round;case rel=>exact⟨k+1,j,oN,rfl⟩
    case measure=>exact oE
   ·obtain rfl:k=n:=oM;go_wp2;go_ret;exact⟨rfl,rfl⟩
theorem Qin (S:Sx):By (sxZ S).1:=by
 unfold sxZ psZ;split
 ·rename_i h;have j:Qba S.R S.F S.T S.n S.l:=by
   refine Classical.byContradiction fun hn=> ?_;rw [Qag hn] at h;cases h
  split
  ·exact By.app (Qgz j.1) (Qhx j.2.2.1 j.lvB 8 [])
  ·exact By.nil
 ·exact By.nil
theorem QiW (f:Nat ->Int):∀n,0<=dig f n/\ dig f n<18446744073709551616
 | 0=>by simp [dig]
 | n+1=>by
  show 0<=Qfq _ _/\ Qfq _ _<_;unfold Qfq;rw [IntKind.wrap_u64];omega
noncomputable def sxD (S:Sx):Nat:=(dig (fun i=>(sxZ S).1.getD i 0) (sxZ S).1.length).toNat
theorem Qkd (S:Sx):dig (fun i=>(sxZ S).1.getD i 0) (sxZ S).1.length=(sxD S:Int):=by
 have:=QiW (fun i=>(sxZ S).1.getD i 0) (sxZ S).1.length;unfold sxD;omega
theorem Qim (S:Sx):sxD S<18446744073709551616:=by
 have:=QiW (fun i=>(sxZ S).1.getD i 0) (sxZ S).1.length;unfold sxD;omega
def eB (V:Nat):Nat ->List Int
 | 0=>[]
 | k+1=>((V/256^k%256:Nat):Int)::eB V k
theorem QdR (V:Nat):∀k,(eB V k).length=k
 | 0=>rfl
 | k+1=>by simp [eB,QdR V k]
theorem QiZ (V:Nat):∀k j,j<k ->(eB V k)[j]? =Uq ((V/256^(k - 1 - j)%256:Nat):Int)
 | 0,j,h=>oM
 | k+1,0,h=>by simp [eB]
 | k+1,j+1,h=>by
  simp only [eB,List.getElem?_cons_succ];rw [QiZ V k j oM];congr 5;omega
theorem Qll (V k:Nat):(V:Int)/2^(8*k)%256=((V/256^k%256:Nat):Int):=by
 have e:(2:Nat)^(8*k)=256^k:=by rw [Nat.pow_mul]
 have j:(2:Int)^(8*k)=((256^k:Nat):Int):=e▸oP;rw [j];simp
noncomputable def heZ (id:Int)(S S':Sx):Int×List Int×Bool:=if rpB id S S'=true then(1,eB (sxD S) 8,true) else(0,[],false)
theorem Qpo (V:Nat)(w:Ur)(hV:V<18446744073709551616):
  Cl 62 #[Ug .u64 (V:Int)] w fun e w'=>∃v,e=Ui v/\ Own w' w.heap.size v (eB V 8)/\ Bl w w':=by
 go_enter func62,ntmps62;go_wp2_with fail;go_loopw [0,3,4] (fun v o i wr=>∃(k X:Nat),k<=8/\ X<18446744073709551616/\ v=Ug .u64 (X:Int)/\ i=Ud (k:Int)/\ Hid (X=V/256^k)/\ Hid (Bd w wr o (eB V k))) (fun _ _ i _=>8 - (intOf i).toNat);case atStart=>exact⟨0,V,oM,hV,rfl,rfl,hid oP,hid (Bd.made w)⟩
 case round=>
  obtain⟨k,X,G,U,rfl,rfl,m,j⟩:=hrel;by_cases A:k<8
  ·obtain⟨Y,z⟩:=zE (X%256);obtain⟨Z,h⟩:=zE (X/256);have O:(X:Int)%256=(Y:Int):=oM;have Q:(X:Int)/256=(Z:Int):=oM;have J:Int.tmod (X:Int) 256=(Y:Int):=(by rw [Int.tmod_eq_emod_of_nonneg oM];exact O);have K:Int.tdiv (X:Int) 256=(Z:Int):=(by rw [Int.tdiv_eq_ediv_of_nonneg oM];exact Q);have H:IntKind.u8.wrap (Y:Int)=(Y:Int):=(by rw [IntKind.wrap_u8];omega);have I:IntKind.u64.wrap (Y:Int)=(Y:Int):=Qe8 _ oM oM;have L:IntKind.u64.wrap (Z:Int)=(Z:Int):=(by rw [IntKind.wrap_u64];omega);have r:Hid (eB V (k+1)=(Y:Int)::eB V k):=hid (by simp only [eB];rw [<- m.out,z]);have p:Hid (Z=V/256^(k+1)):=hid (by rw [<- h,m.out,Nat.div_div_eq_div_mul,Nat.pow_succ]);have s:Z<18446744073709551616:=oM;have y:Own (wr.alloc (Uj #[Ug .u8 (Y:Int)] 5)) wr.heap.size (Uf (Uc wr.heap.size) 1 1) [(Y:Int)]:=by
    have:=VF (base:=wr.heap.size) (e:=5) (size:=1) wr #[Ug .u8 (Y:Int)] 1 zL oL rfl;simpa [Own] using this
   obtain⟨E,M,g,q,u⟩:=j.front (zO _ _) y (by simp [QdR];omega);have t:Hid (Bd w M E (eB V (k+1))):=hid ⟨u,by rw [r.out];exact q,QjG q oP⟩;clear q u y z h j m r;go_wp2_with (at_builtin;refine Qab rfl _ _ _ _ rfl g (by rfl) (by rfl) rfl ?_;clear g);go_roundw;case rel=>exact⟨k+1,Z,A,s,rfl,oN,p,t⟩
   case measure=>exact oE
  ·obtain rfl:k=8:=oM;go_wp2_with fail;go_ret;exact⟨_,rfl,j.o,j.b⟩
theorem Qgo (V:Nat)(w:Ur)(hV:V<18446744073709551616):
  Cl 22 #[Ug .u64 (V:Int)] w fun e w'=>∃v,e=Ui v/\ Own w' w.heap.size v (eB V 8)/\ Bl w w':=by
 obtain⟨L,hi,I,J,K⟩:=info_parts Tryz.infoByte;go_enter func22,ntmps22;go_wp2_with (at_make;refine wpList_make_full _ rfl _ _ 22 rfl w.heap.size 5 L _ 1 underlying22 hi I J _ _ _ _ 8 rfl rfl rfl rfl (by rw [K];omega) oL zL ?_;intro w1 o g);have z:Bl w w1:=zI.grown g zL (fun _ h=>by cases h);have b:∃m,w1.ownsRow w.heap.size 5 1 (Uf (Uc w.heap.size) 8 8) 8 m:=⟨_,o⟩;clear o g;go_loopw [8] (fun i wr=>∃k:Nat,k<=8/\ i=Ud (k:Int)/\ Hid (Bl w wr)/\∃m:List Value,Hid (wr.ownsRow w.heap.size 5 1 (Uf (Uc w.heap.size) 8 8) 8 m)/\ Hid (∀j,8 - k<=j ->j<8 ->m[j]? =Uq (Ug .u8 ((V/256^(7 - j)%256:Nat):Int)))) (fun i _=>8 - (intOf i).toNat);case atStart=>obtain⟨m,G⟩:=b;exact⟨0,Ux _,rfl,hid z,m,hid G,hid (fun j h1 h2=>oM)⟩
 case round=>
  clear b z;obtain⟨k,X,rfl,u,m,r,y⟩:=hrel;by_cases Z:k<8
  ·obtain⟨q,H⟩:=zE (7 - k);have D:(7:Int) - (k:Int)=(q:Int):=oM;have F:q<8:=oM;obtain⟨P,C⟩:=QjI r q oM;have N:=r.frozenAt q;have E:=hid (r.stored q (Ug .u8 ((V/256^k%256:Nat):Int))).1;have Y:=r.1;have O:Hid (∀j,8 - (k+1)<=j ->j<8 ->(m.set q (Ug .u8 ((V/256^k%256:Nat):Int)))[j]? =Uq (Ug .u8 ((V/256^(7 - j)%256:Nat):Int))):=hid (fun j h1 h2=>by
    by_cases U:j=q
    ·have Q:7 - j=k:=oM;rw [Q];subst U;rw [List.getElem?_set_self oM]
    ·rw [List.getElem?_set_ne oM];exact y j oM h2)
   have s:=hid (u.setCell (p:=(Ua w.heap.size q)) zL (Ug .u8 ((V/256^k%256:Nat):Int)));have M:=hid (Qll V k);clear Y H;go_wp2_with fail;rw [M.out];go_roundw;case rel=>exact⟨k+1,Z,oN,s,_,E,O⟩
   case measure=>exact oE
  ·obtain rfl:k=8:=oM;have A:Hid (Own wr w.heap.size (Uf (Uc w.heap.size) 8 8) (eB V 8)):=hid (by
    have B:=r.1;have e:m=(eB V 8).map (Value.int .u8):=by
     apply List.ext_getElem?;intro j;by_cases t:j<8
     ·rw [y j oM t,Yj,QiZ V 8 j t];rfl
     ·rw [UX oM,UX (by simp [QdR];omega)]
    have:=r.out;rw [e] at this;unfold Own;rw [QdR];exact this)
   go_wp2_with fail;go_ret;exact⟨_,rfl,A,u⟩
theorem Qjp (id:Int)(a x a' x':Option Us)(c d c' d':Nat)(S S':Sx)(w:Ur)(hi:∀i,LfI (gL S.l i))(hi':∀i,LfI (gL S'.l i))(hm:S.Sm)(hm':S'.Sm)(h:SAt w a x S)(h':SAt w a' x' S'):
  Cl 6 #[Uo #[Ud id,Uf a S.l.length c,Uf x S.n d,Uf a' S'.l.length c',Uf x' S'.n d']] w fun e w'=>∃K v j B,e=Ui (Ul #[Uo #[Ud K,v],Un B])/\ heZ id S S'=(K,j,B)/\ Own w' w.heap.size v j/\ Bl w w':=by
 obtain⟨W,r⟩:=zE ((w.alloc (Uj #[Ud id,Uf a S.l.length c,Uf x S.n d,Uf a' S'.l.length c',Uf x' S'.n d'] 30)).alloc (Uj #[Ud 0,Ue] 35));have M:Bl w W:=r▸Qad _ _ _;have I:Bx2 W (w.heap.size+1) (Ud 0) Ue:=by
  rw [<- r];have:=Bx2.made (w.alloc (Uj #[Ud id,Uf a S.l.length c,Uf x S.n d,Uf a' S'.l.length c',Uf x' S'.n d'] 30)) (Ud 0) Ue 35;simpa using this
 have O:Bx5 W w.heap.size (Ud id) (Uf a S.l.length c) (Uf x S.n d) (Uf a' S'.l.length c') (Uf x' S'.n d'):=r▸(Bx5.new _ _ _ _ _ _ _).up _;have A:=hid (Qgr id a x a' x' c d c' d' S S' W hi hi' hm hm' (h.bw M) (h'.bw M));have E:Hid (rpB id S S'=true ->heZ id S S'=(1,eB (sxD S) 8,true)/\ whZ id S S'=(2,(sxZ S).1,true)):=hid (fun h=>⟨if_pos h,if_pos h⟩);have Y:Hid (rpB id S S'=false ->heZ id S S'=(0,[],false)/\ whZ id S S'=(0,[],false)):=hid (fun h=>⟨if_neg (by rw [h];simp),if_neg (by rw [h];simp)⟩);have R:=hid (Qim S);have Q:=hid (Qkd S);have D:=hid (Qin S);have P:=hid (Qke S);obtain⟨V,hV⟩:=zE (sxD S);rw [hV] at E R Q;have X:=hid M;have T:=hid O;have s:=hid I;obtain⟨q0,q1,H,q3,q4⟩:=O.q5;clear h h' M O I hV;cases hr:rpB id S S' with
 | true=>
  have g:=hid (E hr);clear hr E Y;go_enter func6,ntmps6;go_wp2_with fail;try rw [r]
  clear r;refine A.mono ?_;rintro e w1 ⟨K,v,j,B,rfl,y,k,q⟩;obtain⟨rfl,hzz,rfl⟩:K=2/\ (sxZ S).1=j/\ B=true:=by rw [g.2] at y;injection y with e1 e2;injection e2 with e2 e3;exact⟨e1.symm,e2,e3.symm⟩
  rw [hzz] at Q D P;obtain⟨t,o,rfl,Ha⟩:=k.any;obtain⟨b,u⟩:=zE (w1.alloc (Uj #[Ud 2,Uf t j.length o] 35));have m:Bl w1 b:=u▸zO _ _;have N:Bx2 b w1.heap.size (Ud 2) (Uf t j.length o):=u▸Bx2.made _ _ _ _;have p:=hid (Qaa X (Qaa q m));have z:=hid (s.bw (Qaa q m) s.lt);have U:=hid (QeM t j.length o (fun i=>j.getD i 0) b (oH P) D.byt (Ha.bw m));rw [Q.out] at U;obtain⟨m0,m1⟩:=N.q2;clear q m k y hzz Ha A T q0 q1 H q3 q4 N;go_wp2_with fail;try rw [u]
  clear u m0 m1;refine U.mono ?_;rintro e w2 ⟨rfl,rfl⟩;have F:=hid (Qgo V w2 R);clear U;go_wp2_with fail;refine F.mono ?_;rintro e w3 ⟨v,rfl,k,b3⟩;have He:=hid k;have Hc:w.heap.size+1<w2.heap.size:=z.lt;have Hd:=hid (Qaa p b3);have L:=z.bw b3 z.lt;obtain⟨Z,G,ff⟩:=L.p2;obtain⟨Hf,Hg,Hb,_⟩:=k.any;rw [QdR] at Hb;subst Hb;clear k b3 L F;go_wp2_with fail;refine zF (v:=Ul #[Uo #[Ud 1,Uf Hf 8 Hg],Un true]) (by simp [results,results6,go_sem,Z,G]) ⟨1,_,eB V 8,true,rfl,g.1,?_,?_⟩
  ·exact((He.cellset _ _ Hc).cellset _ _ Hc).weak p.size
  ·exact(Hd.setCell oP _).setCell oP _
 | false=>
  have g:=hid (Y hr);clear hr E Y;go_enter func6,ntmps6;go_wp2_with fail;try rw [r]
  clear r;refine A.mono ?_;rintro e w1 ⟨K,v,j,B,rfl,y,k,q⟩;obtain⟨rfl,rfl,rfl⟩:K=0/\ j=[]/\ B=false:=by rw [g.2] at y;injection y with e1 e2;injection e2 with e2 e3;exact⟨e1.symm,e2.symm,e3.symm⟩
  obtain⟨t,o,rfl,_⟩:=k.any;have p:=hid (Qaa X q);have z:=hid (s.bw q s.lt);obtain⟨b,u⟩:=zE (w1.alloc (Uj #[Ud 0,Uf t 0 o] 35));have m:Bl w1 b:=u▸zO _ _;have J:=z.bw m z.lt;have C:=hid (Qaa p m);obtain⟨Z,G,ff⟩:=J.p2;clear q m k y A T q0 q1 H q3 q4 J;go_wp2_with fail;try rw [u]
  refine zF (v:=Ul #[Uo #[Ud 0,Ue],Un false]) (by simp [results,results6,go_sem,Z,G]) ⟨0,_,[],false,rfl,g.1,VE _ _ _ _,?_⟩;first|exact C.out|exact(C.setCell oP _).setCell oP _
def hdV:Option Value ->Value
 | none=> .nilFunc
 | some v=>v
abbrev HdM (w:Ur)(b c:Nat)(f:Int ->Option Value):Prop:=Qa0 w 3 (Value.int Uh) hdV b c f
theorem HdM.made (w:Ur):HdM (w.alloc (.map #[] 0)) w.heap.size 0 (fun _=>Up):=Qa0.made w _ _ _
theorem QlI(hk:(Lit.int Uh k).wf=true):keyOf prog 3 (Ud k)=Uq (.int Uh k):=keyOf_int_mk underlying3 hk
theorem Qhz{f:Int ->Option Value}(h:HdM w b c f)(hc:c<1000)(hk:(Lit.int Uh k).wf=true){o:Oper}{a:Act}{K:Act ->Ur ->Prop}{Q:Exit ->Act ->Ur ->Prop}{F:Unit ->Ur ->Result Next}
  (hK:∀w',HdM w' b (c+1) (QbX f k (Uq fv)) ->w.grownBy w' (Uq b) ->Oper.upon prog o a K Q ((Result.ok () w').andThen F)):
  Oper.upon prog o a K Q ((Sem.run prog (Instr.mapUpdate 97 (.map (Uq b)) (Ud k) fv) w).andThen F):=by
 obtain⟨w',j,m,q⟩:=h.store (int_keyed underlying3) (fun x y e=>by injection e) underlying97 oL (x:=k) (y:=fv) (QlI hk);have j:Sem.run prog (Instr.mapUpdate 97 (.map (Uq b)) (Ud k) fv) w=.ok () w':=j;rw [j];exact hK w' m q
theorem HdM.look{f:Int ->Option Value}(h:HdM w b c f)(hk:(Lit.int Uh k).wf=true):
  (Instr.lookup 97 (.map (Uq b)) (Ud k) true).run prog w=.ok (Ul #[hdV (f k),Un (f k).isSome]) w:=
 h.look_ok (int_keyed underlying3) underlying97 oK (x:=k) (QlI hk)
open Go.Extern.Stop Go.Stop Go.Extern
theorem Er.valueOfPP (t:Us)(w:Ur):(ReflectliteValue.unpack (.iface 100 (Uk (Uq t)))).run prog w
  =.ok (Uo #[Uk (Uq (Ua 19 100)),Uk (Uc w.heap.size),Ug .u64 150]) (w.alloc (Uj #[Uk (Uq t)] 100)):=oK
theorem Er.typePP (a:Us)(w:Ur):(ReflectliteValue.methodAny (ReflectliteValue.valueError "reflectlite.Value.Type" 0) (fun t _ _ _=>ReflectliteType.toType t) #[Uo #[Uk (Uq (Ua 19 100)),Uk (Uq a),Ug .u64 150]]).run prog w
  =.ok (.iface 190 (Uo #[Uk (Uq (Ua 19 100))])) w:=oK
theorem Er.methodKind (h:Value)(w:Ur):(Go.method 486 190 (Uo #[h]) "Kind").run prog w=.ok (257,h) w:=oK
theorem Er.kindPP (w:Ur):((ReflectliteType.abiMethod fun t=>(fun a:Nat=>Value.int IntKind.u8 (a:Int))<$>Rtype.kind t) #[Uk (Uq (Ua 19 100))]).run prog w=.ok (Ug .u8 22) w:=oK
theorem Er.kindP (w:Ur):((ReflectliteType.abiMethod fun t=>(fun a:Nat=>Value.int IntKind.u8 (a:Int))<$>Rtype.kind t) #[Uk (Uq (Ua 19 91))]).run prog w=.ok (Ug .u8 22) w:=oK
theorem Er.partsPP (a:Us)(w:Ur):(ReflectliteValue.parts (Uo #[Uk (Uq (Ua 19 100)),Uk (Uq a),Ug .u64 150])).run prog w=.ok (Uq (100,a,150)) w:=oK
theorem Er.isNilPP (a q:Us)(W:Ur)(ha:W.cell? a=Uq (Uk (Uq q))):
  (ReflectliteValue.method (ReflectliteValue.valueError "reflectlite.Value.IsNil" 0) ReflectliteValue.isNil #[Uo #[Uk (Uq (Ua 19 100)),Uk (Uq a),Ug .u64 150]]).run prog W=.ok (Un false) W:=by
 show Sem.run prog (ReflectliteValue.parts (Uo #[Uk (Uq (Ua 19 100)),Uk (Uq a),Ug .u64 150])>>=_) W=_;simp only [Sem.run_bind,Er.partsPP,Result.andThen];simp [ReflectliteValue.isNil,loadVar,isAgg,underlying,underlying100,ha,Result.andThen]
theorem Er.methodElem (h:Value)(w:Ur):(Go.method 486 190 (Uo #[h]) "Elem").run prog w=.ok (269,Uo #[h]) w:=oK
theorem Er.methodImplements (h:Value)(w:Ur):(Go.method 486 190 (Uo #[h]) "Implements").run prog w=.ok (270,Uo #[h]) w:=oK
theorem Er.methodAssignableTo (h:Value)(w:Ur):(Go.method 486 190 (Uo #[h]) "AssignableTo").run prog w=.ok (267,Uo #[h]) w:=oK
theorem Er.elemPP (w:Ur):(ReflectliteType.method ReflectliteType.elem #[Uo #[Uk (Uq (Ua 19 100))]]).run prog w=.ok (.iface 190 (Uo #[Uk (Uq (Ua 19 91))])) w:=oK
theorem Er.implementsP (w:Ur):(ReflectliteType.relation "Implements" ReflectliteType.implements_ #[Uo #[Uk (Uq (Ua 19 91))],.iface 190 (Uo #[Uk (Uq (Ua 19 62))])]).run prog w=.ok (Un true) w:=oK
theorem Er.typeOfP (v:Value)(w:Ur):(ReflectliteType.typeOf #[.iface 91 v]).run prog w=.ok (.iface 190 (Uo #[Uk (Uq (Ua 19 91))])) w:=oK
theorem Er.assignableP (w:Ur):(ReflectliteType.relation "AssignableTo" ReflectliteType.assignableTo #[Uo #[Uk (Uq (Ua 19 91))],.iface 190 (Uo #[Uk (Uq (Ua 19 91))])]).run prog w=.ok (Un true) w:=oK
theorem Er.valueOfP (e:Us)(w:Ur):(ReflectliteValue.unpack (.iface 91 (Uk (Uq e)))).run prog w
  =.ok (Uo #[Uk (Uq (Ua 19 91)),Uk (Uc w.heap.size),Ug .u64 150]) (w.alloc (Uj #[Uk (Uq e)] 91)):=oK
theorem Er.elemOfPP (w:Ur):(Rtype.elem? 100).run prog w=.ok (Uq 91) w:=oK
theorem Er.mkP (q:Us)(w:Ur):(ReflectliteValue.mk 91 q ReflectliteValue.flagAddr).run prog w=.ok (Uo #[Uk (Uq (Ua 19 91)),Uk (Uq q),Ug .u64 406]) w:=oK
theorem Er.elemVPP (a q:Us)(W:Ur)(ha:W.cell? a=Uq (Uk (Uq q))):
  (ReflectliteValue.method (ReflectliteValue.valueError "reflectlite.Value.Elem" 0) ReflectliteValue.elem #[Uo #[Uk (Uq (Ua 19 100)),Uk (Uq a),Ug .u64 150]]).run prog W
   =.ok (Uo #[Uk (Uq (Ua 19 91)),Uk (Uq q),Ug .u64 406]) W:=by
 show Sem.run prog (ReflectliteValue.parts (Uo #[Uk (Uq (Ua 19 100)),Uk (Uq a),Ug .u64 150])>>=_) W=_;simp only [Sem.run_bind,Er.partsPP,Result.andThen];simp [ReflectliteValue.elem,loadVar,isAgg,underlying,underlying100,ha,Result.andThen,Er.elemOfPP,Er.mkP]
theorem Er.partsPa (a:Us)(w:Ur):(ReflectliteValue.parts (Uo #[Uk (Uq (Ua 19 91)),Uk (Uq a),Ug .u64 406])).run prog w=.ok (Uq (91,a,406)) w:=oK
theorem Er.partsP (a:Us)(w:Ur):(ReflectliteValue.parts (Uo #[Uk (Uq (Ua 19 91)),Uk (Uq a),Ug .u64 150])).run prog w=.ok (Uq (91,a,150)) w:=oK
theorem Er.directP (w:Ur):(Rtype.directlyAssignable 91 91).run prog w=.ok true w:=oK
theorem Er.setP (ta b e:Us)(old:Value)(W:Ur)(hb:W.cell? b=Uq (Uk (Uq e)))(ht:W.cell? ta=Uq old)(hf:W.frozen? ta=false):
  (ReflectliteValue.set #[Uo #[Uk (Uq (Ua 19 91)),Uk (Uq ta),Ug .u64 406],Uo #[Uk (Uq (Ua 19 91)),Uk (Uq b),Ug .u64 150]]).run prog W
   =.ok (Ul #[]) (W.setCell ta (Uk (Uq e))):=by
 show Sem.run prog (ReflectliteValue.parts (Uo #[Uk (Uq (Ua 19 91)),Uk (Uq ta),Ug .u64 406])>>=fun _=>ReflectliteValue.parts (Uo #[Uk (Uq (Ua 19 91)),Uk (Uq b),Ug .u64 150])>>=_) W=_;simp only [Sem.run_bind,Er.partsPa,Er.partsP,Result.andThen];simp [ReflectliteValue.flagAddr,loadVar,isAgg,underlying,underlying91,hb,Result.andThen,Er.directP,storeVar,Value.cells,storeCells,Addr.add];rw [run_store prog W ta _ _ (by rfl)];simp [ht,hf]
theorem QnF (e t:Us)(old:Value)(w:Ur)(hg:w.cell? (Ub 2)=Uq (.iface 190 (Uo #[Uk (Uq (Ua 19 62))])))(ht0:w.cell? t=Uq old)(hf0:w.frozen? t=false):
  Cl 47 #[.iface 91 (Uk (Uq e)),.iface 100 (Uk (Uq t))] w fun ev w'=>ev=Ui (Un true)/\ w'=((((w.alloc (Uj #[Uk (Uq t)] 100)).alloc (Uj #[Uk (Uq (Ua 19 100)),Uk (Uc w.heap.size),Ug .u64 150] 138)).alloc (Uj #[Uk (Uq (Ua 19 100)),Uk (Uc w.heap.size),Ug .u64 150] 138)).alloc (Uj #[Uk (Uq e)] 91)).setCell t (Uk (Uq e)):=by
 have b:=@run_callFunc_extern prog 79 _ (fun args=>ReflectliteValue.unpack (args.getD 0 (Ul #[]))) func79 oK oK oK oK;have s:=@run_callFunc_extern prog 80 _ (ReflectliteValue.methodAny (ReflectliteValue.valueError "reflectlite.Value.Type" 0) (fun t _ _ _=>ReflectliteType.toType t)) func80 oK oK oK oK;have i:=@run_callFunc_extern prog 81 _ (ReflectliteValue.method (ReflectliteValue.valueError "reflectlite.Value.IsNil" 0) ReflectliteValue.isNil) func81 oK oK oK oK;have u:=@run_callFunc_extern prog 257 _ (ReflectliteType.abiMethod fun t=>do pure (Ug .u8 (<- Rtype.kind t))) func257 oK oK oK oK;have y:=@run_callFunc_extern prog 269 _ (ReflectliteType.method ReflectliteType.elem) func269 oK oK oK oK;have z:=@run_callFunc_extern prog 270 _ (ReflectliteType.relation "Implements" ReflectliteType.implements_) func270 oK oK oK oK;have g:=@run_callFunc_extern prog 111 _ ReflectliteType.typeOf func111 oK oK oK oK;have v:=@run_callFunc_extern prog 267 _ (ReflectliteType.relation "AssignableTo" ReflectliteType.assignableTo) func267 oK oK oK oK;have o:=@run_callFunc_extern prog 112 _ (ReflectliteValue.method (ReflectliteValue.valueError "reflectlite.Value.Elem" 0) ReflectliteValue.elem) func112 oK oK oK oK;have p:=@run_callFunc_extern prog 113 _ ReflectliteValue.set func113 oK oK oK oK;have H:=Er.typeOfP;have Q:=Er.methodAssignableTo;have m:=Er.assignableP;have J:=Er.valueOfP;have K:=Er.valueOfPP;have I:=Er.typePP;have Y:=Er.methodKind;have U:=Er.methodElem;have V:=Er.methodImplements;have O:=Er.kindPP;have M:=Er.kindP;have q:=Er.elemPP;have E:=Er.implementsP;have Z:=Er.isNilPP (Ub w.heap.size) t ((w.alloc (Uj #[Uk (Uq t)] 100)).alloc (Uj #[Uk (Uq (Ua 19 100)),Uk (Uc w.heap.size),Ug .u64 150] 138)) oP;have k:2<w.heap.size:=by
  rcases YS 2 w.heap.size with h|h
  ·exact h
  ·simp [YO,Array.getElem?_eq_none h] at hg
 have A:((w.alloc (Uj #[Uk (Uq t)] 100)).alloc (Uj #[Uk (Uq (Ua 19 100)),Uk (Uc w.heap.size),Ug .u64 150] 138)).cell? (Ub 2)=Uq (.iface 190 (Uo #[Uk (Uq (Ua 19 62))])):=by
  rw [YY _ _ (Ub 2) (by first|(simp;omega)|simp),YY _ _ (Ub 2) k];exact hg
 have j:t.block<w.heap.size:=by
  rcases YS t.block w.heap.size with h|h
  ·exact h
  ·simp [YO,Array.getElem?_eq_none h] at ht0
 have r:=Er.elemVPP (Ub w.heap.size) t (((w.alloc (Uj #[Uk (Uq t)] 100)).alloc (Uj #[Uk (Uq (Ua 19 100)),Uk (Uc w.heap.size),Ug .u64 150] 138)).alloc (Uj #[Uk (Uq (Ua 19 100)),Uk (Uc w.heap.size),Ug .u64 150] 138)) (by rw [YY _ _ (Ub w.heap.size) oS];simp);have G:=Er.setP t (Ua (w.heap.size+1+1+1) 0) e old ((((w.alloc (Uj #[Uk (Uq t)] 100)).alloc (Uj #[Uk (Uq (Ua 19 100)),Uk (Uc w.heap.size),Ug .u64 150] 138)).alloc (Uj #[Uk (Uq (Ua 19 100)),Uk (Uc w.heap.size),Ug .u64 150] 138)).alloc (Uj #[Uk (Uq e)] 91))
  (by rw [VH _ _ _ _ oP];rfl)
  (by rw [YY _ _ t oS,YY _ _ t oS,YY _ _ t oS,YY _ _ t j];exact ht0)
  (by rw [YZ _ _ t oS,YZ _ _ t oS,YZ _ _ t oS,YZ _ _ t (Nat.ne_of_lt j)];exact hf0)
 go_enter func47,ntmps47;go_wp2;refine wp_loop_rounds 1 ?_;rw [rounds_succ];go_wp2;go_ret;exact⟨rfl,rfl⟩
theorem QnG (t:Us)(w:Ur):
  Cl 47 #[.nilIface,.iface 100 (Uk (Uq t))] w fun ev w'=>ev=Ui (Un false)/\ w'=w:=by
 go_enter func47,ntmps47;go_wp2;go_ret;exact⟨rfl,rfl⟩
theorem Qqn (w:Ur):Cl 28 #[.nilIface] w (Rt w (Ud 0)):=by
 have j:=hid (zO w (Uj #[.pointer Up] 91));obtain⟨W,k⟩:=zE (w.alloc (Uj #[.pointer Up] 91));rw [k] at j;go_enter func28,ntmps28;go_wp2_with fail;try rw [k]
 refine(QnG _ W).mono ?_;rintro e w1 ⟨rfl,rfl⟩;go_wp2_with fail;go_ret;exact⟨rfl,j⟩
theorem Qpe (b:Nat)(C:Int)(w:Ur)(hg:w.cell? (Ub 2)=Uq (.iface 190 (Uo #[Uk (Uq (Ua 19 62))])))(hC:w.cell? (Ub b)=Uq (Ud C)):
  Cl 28 #[.iface 91 (Uk (Uc b))] w (Rt w (Ud C)):=by
 have m:Bl w (w.alloc (Uj #[.pointer Up] 91)):=zO w _;obtain⟨W,j⟩:=zE (w.alloc (Uj #[.pointer Up] 91));have g:W.heap.size=w.heap.size+1:=j▸oP;have v:W.cell? (Ub w.heap.size)=Uq (.pointer Up):=j▸oP;have z:W.frozen? (Ub w.heap.size)=false:=j▸oP;rw [j] at m;have h:W.cell? (Ub 2)=Uq (.iface 190 (Uo #[Uk (Uq (Ua 19 62))])):=(m.cell (p:=(Ub 2)) (block_lt_of_cell hg)).trans hg;have y:=hid (QnF (Ub b) (Ub w.heap.size) (.pointer Up) W h v z);have A:Hid (b<w.heap.size):=hid (block_lt_of_cell hC);have i:=hid hC;have t:=hid m;have k:=hid g;have s:=hid v;clear m g v z h hg hC;go_enter func28,ntmps28;go_wp2_with fail;try rw [j]
 clear j;refine y.mono ?_;rintro e w1 ⟨rfl,q⟩;have r:Bl w w1:=by
  rw [q];exact(((((t.alloc (oH k) _).alloc (by simp;have:=k.out;omega) _).alloc (by simp;have:=k.out;omega) _).alloc (by simp;have:=k.out;omega) _).setCell (p:=(Ub w.heap.size)) zL _)
 have M:w1.cell? (Ub w.heap.size)=Uq (Uk (Uc b)):=by
  rw [q];refine UM _ _ _ (u:=.pointer Up) ?_;have E:=k.out;rw [YY _ _ _ oS,YY _ _ _ oS,YY _ _ _ oS,YY _ _ _ oS];exact s
 have O:w1.cell? (Ub b)=Uq (Ud C):=(r.cell (p:=(Ub b)) A).trans i;have o:=hid r;clear q r y;go_wp2_with fail;go_ret;exact⟨rfl,o⟩
def gz (zs:List Int)(i:Nat):Int:=zs.getD i 0
theorem Qf0(h:∀z∈zs,0<=z/\ z<256):Byt (gz zs):=by
 intro i;show 0<=zs.getD i 0/\ zs.getD i 0<256;by_cases hi:i<zs.length
 ·have e:zs.getD i 0=zs[i]:=by simp [UA,hi]
  rw [e];exact h _ (UG hi)
 ·have e:zs.getD i 0=0:=by simp [UA,UX (YR hi)]
  rw [e];omega
theorem Qla{e:TypeId}{z:Nat}{xs:List Value}(h:w.ownsRow B e z v n xs)(hq:∀q,B<=q ->q<w.heap.size ->w'.heap[q]? =w.heap[q]?):w'.ownsRow B e z v n xs:=by
 obtain⟨u,y⟩:=h;refine⟨u,y.imp id ?_⟩;rintro⟨g,cap,m,e,j,k,r⟩;exact⟨g,cap,m,e,j,(hq g j (Array.getElem?_eq_some_iff.1 k).1).trans k,r⟩
theorem Own.stay(h:Own w B v zs)(hq:∀q,B<=q ->q<w.heap.size ->w'.heap[q]? =w.heap[q]?):Own w' B v zs:=Qla h hq
theorem QaA(hb:Bl w w')(h:Own w B v zs):Own w' B v zs:=h.stay (fun q _ h2=>hb.block q h2)
def RpP (w:Ur)(B:Nat)(fv:Value)(R:Option (List Int)):Prop:=match R with
 | none=>fv=Ue
 | some zs=>∃q va vc,fv=Uf (Uc q) 1 1/\ B<=q/\ w.cell? (Ub q)=Uq (Ud 2)/\ w.cell? (Ua q 1)=Uq (Uf va zs.length vc)/\ Own w B (Uf va zs.length vc) zs
theorem RpP.stay{R:Option (List Int)}(h:RpP w B fv R)(hq:∀q,B<=q ->q<w.heap.size ->w'.heap[q]? =w.heap[q]?):RpP w' B fv R:=by
 cases R with
 | none=>exact h
 | some zs=>
  obtain⟨q,v,y,m,j,k,r,u⟩:=h;have e:=hq q j (block_lt_of_cell k);exact⟨q,v,y,m,j,(US (a:=(Ub q)) e).trans k,(US (a:=(Ua q 1)) e).trans r,u.stay hq⟩
theorem RpP.bw{R:Option (List Int)}(h:RpP w B fv R)(hb:Bl w w'):RpP w' B fv R:=h.stay (fun q _ h2=>hb.block q h2)
theorem RpP.low{B':Nat}{R:Option (List Int)}(h:RpP w B fv R)(hB:B'<=B):RpP w B' fv R:=by
 cases R with
 | none=>exact h
 | some zs=>
  obtain⟨q,u,v,j,y,k,m,r⟩:=h;exact⟨q,u,v,j,oM,k,m,Own.weak r hB⟩
noncomputable def dgB (S:Sx)(f:Nat ->Int):Bool:=(Qdg f 0 8).toList==(Qdg (gz (eB (sxD S) 8)) 0 8).toList
noncomputable def hjB (S Y:Sx):Bool:=jnB S Y && Qbq (jnZ S Y)
theorem Qhq{cap:Nat}(hf:Byt f)(h:Seg w a n f)(h0:0<n):(convert 22 9 (Uf a n cap)).run prog w=.ok (Um (Qdg f 0 n)) w:=by
 rcases h with h|⟨b,off,rfl,k,j⟩
 ·omega
 ·exact Qe0 (p:=0) hf (fun i hi=>by rw [Nat.add_zero,VS];exact j i hi)
theorem QdQ (V:Nat):∀k,∀z∈eB V k,0<=z/\ z<256
 | 0=>by simp [eB]
 | k+1=>by
  intro z j;simp only [eB,VZ] at j;rcases j with rfl|j
  ·omega
  ·exact QdQ V k z j
theorem Qq9 (a a':Us)(L q1 q2:Nat)(s1 s2:ByteArray)(w:Ur)(v1:(convert 22 9 (Uf (Uq a) L q1)).run prog w=.ok (Um s1) w)(v2:(convert 22 9 (Uf (Uq a') L q2)).run prog w=.ok (Um s2) w):
  Cl 107 #[Uf (Uq a) L q1,Uf (Uq a') L q2] w fun e w'=>e=Ui (Un (s1.toList==s2.toList))/\ w'=w:=by
 obtain⟨r,j⟩:=zE ((s1.toList==s2.toList));rw [j];cases r with
 | true=>
  go_enter func107,ntmps107;go_wp2_with fail;go_ret;exact⟨rfl,rfl⟩
 | false=>
  go_enter func107,ntmps107;go_wp2_with fail;go_ret;exact⟨rfl,rfl⟩
theorem QdY(h:Bl w w')(row:Option Nat):w.grownBy w' row:=⟨h.os,h.tape,h.output,h.size,fun k hk _=>h.block k hk⟩
noncomputable def heR (S:Sx)(f:Nat ->Int):Option (List Int):=bif dgB S f then Up else Uq (sxZ S).1
theorem Qkz{id:Int}{x a' x':Option Us}{c' d':Nat}(hr:rpB id S D=true)(hm:SmI S)(hm':SmI D)(hx:Bx5 w rb (Ud id) (Uf a S.l.length c) (Uf x S.n d) (Uf a' D.l.length c') (Uf x' D.n d'))(s1:SAt w a x S)(s2:SAt w a' x' D)(hf:Byt f)(hs:Seg w pa 8 f):
  Cl 77 #[Uk (Uc rb),Uf pa 8 pc] w fun e w'=>∃fv,e=Ui (Ul #[fv,.nilIface])/\ RpP w' w.heap.size fv (heR S f)/\ Bl w w':=by
 obtain⟨P,M⟩:∃P:Ending ->Ur ->Prop,(fun e w'=>∃fv,e=Ui (Ul #[fv,.nilIface])/\ RpP w' w.heap.size fv (heR S f)/\ Bl w w')=P:=⟨_,rfl⟩;rw [M];have C:=hid M;obtain⟨G,A⟩:=zE (dgB S f);have R:Hid (whZ id S D=(2,(sxZ S).1,true)):=hid (if_pos hr);have X:=hid (Qgr id a x a' x' c d c' d' S D w hm.2 hm'.2 hm.1 hm'.1 s1 s2);obtain⟨Q,Y,rfl,Hb,Hc⟩:=hs.resolve_left oM;have Hi:Hid (Seg w (Uq (Ua Q Y)) 8 f):=hid (.inr ⟨Q,Y,rfl,Hb,Hc⟩);have F:=hid (Qim S);have g:=hid (Qkd S);have I:=hid (Qin S);have N:=hid (Qke S);have HF:=hid hf;have E:((Qdg f 0 8).toList==(Qdg (gz (eB (sxD S) 8)) 0 8).toList)=G:=A;have b:Hid (heR S f=bif G then Up else Uq (sxZ S).1):=hid (by unfold heR;rw [A]);obtain⟨V,W⟩:=zE (sxD S);rw [W] at F g E;have L:=hid E;obtain⟨k0,k1,k2,k3,k4⟩:=hx.q5;have d0:(((8:Nat):Int) !=8)=false:=oD;clear hx hs hm hm' hr W A E Hb Hc hf s1 s2 M;go_enter func77,ntmps77;go_wp2_with fail;refine X.mono ?_;rintro e w1 ⟨K,v,j,B1,rfl,O,k,T⟩;obtain⟨rfl,hzz,rfl⟩:K=2/\ (sxZ S).1=j/\ B1=true:=by rw [R.out] at O;injection O with e1 e2;injection e2 with e2 e3;exact⟨e1.symm,e2,e3.symm⟩
 rw [hzz] at g I N b;obtain⟨m,q,rfl,Ha⟩:=k.any;obtain⟨U,y⟩:=zE (w1.alloc (Uj #[Ud 2,Uf m j.length q] 35));have u:Bl w1 U:=y▸zO _ _;have h:Bx2 U w1.heap.size (Ud 2) (Uf m j.length q):=y▸Bx2.made _ _ _ _;have Hg:=hid (Qaa T u);have o:=hid h;have B:=hid (QaA u k);have p:=hid (QeM m j.length q (fun i=>j.getD i 0) U (oH N) I.byt (Ha.bw u));rw [g.out] at p;obtain⟨m0,m1⟩:=h.q2;clear T u k O hzz Ha X k0 k1 k2 k3 k4 h R;go_wp2_with fail;try rw [y]
 clear y;refine p.mono ?_;rintro e w2 ⟨rfl,rfl⟩;have J:=hid (Qgo V w2 F);clear p;go_wp2_with fail;refine J.mono ?_;rintro e w3 ⟨v,rfl,k,b3⟩;obtain⟨Hk,Hj,Hf,Z⟩:=k.any;rw [QdR] at Hf Z;subst Hf;obtain⟨qb,qo,rfl,Hd,He⟩:=Z.resolve_left oM;have r:=hid (Qaa Hg b3);have t:=hid (Qq9 (Ua Q Y) (Ua qb qo) 8 pc Hj _ _ w3 (Qhq HF (Hi.bw r) oM) (Qhq (Qf0 (QdQ V 8)) (.inr ⟨qb,qo,rfl,Hd,He⟩) oM));rw [L.out] at t;have H:=o.bw b3 o.lt;have Hh:=hid (QaA b3 B);obtain⟨m2,m3⟩:=H.q2;clear k b3 H J Hd He m0 m1 Z o B;go_wp2_with fail;refine t.mono ?_;rintro e z ⟨rfl,rfl⟩;clear t L;cases G with
 | true=>
  go_wp2_with fail;rw [<- C.out,b.out];exact⟨_,rfl,rfl,r⟩
 | false=>
  have s:Bl z (z.alloc (Uj #[Ud 2,Uf m j.length q] 35)):=zO _ _;have HE:Hid (P (Ui (Ul #[Uf (Uc z.heap.size) 1 1,.nilIface])) (z.alloc (Uj #[Ud 2,Uf m j.length q] 35))):=hid (by
   rw [<- C.out,b.out];exact⟨_,rfl,⟨_,m,q,rfl,r.size,oP,oP,QaA s Hh⟩,Qaa r s⟩)
  clear s;go_wp2_with fail;exact HE
theorem QqE(h:Bl w w1)(v1 v2:Value):w.grownBy ((w1.setCell (Ua rb 1) v1).setCell (Ua rb 2) v2) (Uq rb):=
 ⟨h.os,h.tape,h.output,by simpa [UL] using h.size,fun k hk hne=>by
  have e:∀i,k≠((Ua rb i):Us).block:=fun i e=>hne (by rw [e]);rw [zH _ _ _ _ (e _),zH _ _ _ _ (e _)];exact h.block k hk⟩
def ErC (C:Int)(er:Value)(w:Ur):Prop:=C=0/\ er=.nilIface \/∃b,er=.iface 91 (Uk (Uc b))/\ w.cell? (Ub b)=Uq (Ud C)
theorem ErC.made (w:Ur)(C:Int)(er:Value):ErC C (.iface 91 (Uk (Uc w.heap.size))) (w.alloc (Uj #[Ud C,er] 93)):=.inr ⟨_,rfl,oP⟩
structure Enc (Y:Sx)(f:Nat ->Int)(n:Nat):Prop where
 ok:Qba Y.R Y.F Y.T Y.n Y.l
 at':At f 0 (psB Y.R Y.F Y.T Y.n Y.l)
 len:n=(psB Y.R Y.F Y.T Y.n Y.l).length
 n4:n<=4000
theorem Qhn{x:Option Us}(h:QaT w x (flat R F T m).length (fun i=>(gR (flat R F T m) i).1) (fun i=>(gR (flat R F T m) i).2.1) (fun i=>(gR (flat R F T m) i).2.2)):QaT w x m R F T:=by
 have r:(flat R F T m).length=m:=by simp [flat]
 rw [r] at h;refine h.imp id ?_;rintro⟨b,off,e,k,q⟩;refine⟨b,off,e,k,fun i hi=> ?_⟩;have j:gR (flat R F T m) i=(R i,F i,T i):=by simp [gR,flat,UA,hi]
 have:=q i hi;simp only [j] at this;exact this
theorem QmG(h:Enc Y f n):SmI Y:=Qev h.ok.2.1 (by have:=(Qal.1 h.ok.1).2;omega) (fun x hx=>QfN h.ok.w x hx)
theorem rsK(hE:Enc Y f n)(hnc:n<=c)(hcc:c<=9223372036854775807)(hf:Byt f)(hs:Seg w a n f)(hab:∀y,a=Uq y ->y.block<w.heap.size):
  Cl 108 #[Uf a n c] w fun e w'=>(∃m0 m1 m2,e=Ui (Ul #[Uo #[.map m0,.map m1,.map m2],.nilIface])/\∀u,Bl w' u ->Cl 110 #[Uo #[.map m0,.map m1,.map m2]] u fun e j=>∃a c x d,e=Ui (Uo #[Uf a Y.l.length c,Uf x Y.n d])/\ SAt j a x Y/\ Bl u j)/\ Bl w w':=by
 refine(Qi6 hE.ok hE.at' hE.len hE.n4 hnc hcc hf hs hab).mono ?_;rintro e w' ⟨t,g,rfl,z,b⟩;refine⟨⟨_,_,_,rfl,fun u hu=>(Qme u (z.bw hu) hE.ok.2.2.1 hE.ok.lvB).mono ?_⟩,b⟩;rintro e j ⟨⟨a,c,x,d,rfl,q,m,h⟩,r⟩;have v:(flat Y.R Y.F Y.T Y.n).length=Y.n:=by simp [flat]
 have k:=(SOw.of (S:=⟨Y.l,(flat Y.R Y.F Y.T Y.n).length,fun i=>(gR (flat Y.R Y.F Y.T Y.n) i).1,fun i=>(gR (flat Y.R Y.F Y.T Y.n) i).2.1,fun i=>(gR (flat Y.R Y.F Y.T Y.n) i).2.2⟩) q m rfl rfl rfl rfl h).ct;exact⟨a,c,x,d,by rw [v],⟨k.lf.seg,Qhn k.rn⟩,r⟩
def AbP (rb:Nat)(id:Int)(v3 v4:Value)(S Y:Sx)(w:Ur)(e:Ending)(w':Ur):Prop:=w.grownBy w' (Uq rb)/\
 ((hjB S Y=true/\ e=Ui (Ul #[Ue,.nilIface])/\∃ja jc jx jd lj,Bx5 w' rb (Ud id) (Uf ja (jnZ S Y).l.length jc) (Uf jx (jnZ S Y).n jd) v3 v4/\ SOw w' lj w'.heap.size ja jx jd (jnZ S Y)/\ w.heap.size<=lj) \/
  (hjB S Y=false/\∃er,e=Ui (Ul #[Ue,er])/\ ErC 3 er w'/\ Bl w w'))
theorem Qmq{id:Int}{x:Option Us}{v3 v4:Value}(hm:SmI S)(hx:Bx5 w rb (Ud id) (Uf a S.l.length c) (Uf x S.n d) v3 v4)(s1:SAt w a x S)(hE:Enc Y f n)(hf:Byt f)(hs:Seg w pa n f)(hnc:n<=pc)(hcc:pc<=9223372036854775807)(hab:∀y,pa=Uq y ->y.block<w.heap.size){t:TypeId}{u:Value}(hg:w.cell? (Ub 6)=Uq (.iface t u)):
  Cl 78 #[Uk (Uc rb),Uf pa n pc] w fun e w'=>AbP rb id v3 v4 S Y w e w':=by
 obtain⟨P,hP⟩:=zE (AbP rb id v3 v4 S Y w);rw [hP];have HP:=hid hP;have Hn:=hid (rsK hE hnc hcc hf hs hab);have HY:=hid (QmG hE);have HR:=hid hx;have Hv:=hid s1;have HM:=hid hm;have HG:=hid hg;clear hx s1 hs hE hab hg hf hm hP;go_enter func78,ntmps78;go_wp2_with fail;refine Hn.mono ?_;rintro e w1 ⟨⟨m0,m1,m2,rfl,Hs⟩,b1⟩;obtain⟨U,hU⟩:=zE (w1.alloc (Uj #[.map m0,.map m1,.map m2] 128));have b2:Bl w1 U:=hU▸zO _ _;have V0:Bx3 U w1.heap.size (.map m0) (.map m1) (.map m2):=hU▸Bx3.made _ _ _ _ _;have HU:=hid (Qaa b1 b2);have HV:=hid V0;have Z:Hid (∀w',Bl U w' ->(w'.cell? (Ua rb 1)=Uq (Uf a S.l.length c)/\ w'.cell? (Ua rb 2)=Uq (Uf x S.n d)/\ w'.cell? (Ub w1.heap.size)=Uq (.map m0)/\ w'.cell? (Ua w1.heap.size 1)=Uq (.map m1)/\ w'.cell? (Ua w1.heap.size 2)=Uq (.map m2))):=hid (fun w' hb=>by
  have R2:=HR.bw (Qaa HU hb) HR.lt;have Y2:=HV.bw hb HV.lt;exact⟨R2.c1,R2.c2,Y2.c0,Y2.c1,Y2.c2⟩)
 have Hi:=hid (fun u hb=>Hs u (Qaa b2 hb));have Hm:=hid (fun(u:Ur)(ya yx:Option Us)(yc yd:Nat)(hb:Bl U u)(hy:SAt u ya yx Y)=>QkF a x ya yx c d yc yd S Y u HM HY (Hv.bw (Qaa HU hb)) hy t _ (((Qaa HU hb).cell (p:=(Ub 6)) (block_lt_of_cell HG)).trans HG));obtain⟨G,hG⟩:=zE (hjB S Y);have HJ:=hid Hm;first|rw [hG] at HJ|rw [show (jnB S Y && Qbq (jnZ S Y))=G from hG] at HJ
 have Hl:=hid hG;clear b1 b2 V0 Hs hG Hn Hm;go_upto_region 4 with fail;try rw [hU]
 clear hU;go_cut [7,8] from 20 to 29 (fun v7 v8 wx=>∃A v z g h s J,v8=Uk (Uc A)/\ (G=true/\ v7=.nilIface \/G=false/\∃t u,v7=.iface t u)/\ Hid (Bx2 wx A (Uf v J.l.length z) (Uf g J.n h)/\ (G=true ->J=jnZ S Y)/\ SOw wx s wx.heap.size v g h J/\ U.heap.size<=s/\ Bl U wx/\ U.heap.size<=A));case first=>
  refine zS Z (fun qh=> ?_);refine tZ 0 21 ?_;refine tZ 1 22 ?_;refine tZ 2 23 ?_;refine tZ 3 24 ?_;refine tZ 4 25 ?_;obtain⟨D,Hk⟩:=zE U.drew;have Hg:Bl U D:=Hk▸zI.drew;rw [Hk];clear Hk;refine QaK (i:=5) (j:=10) (d:=Uq 26) (d':=Uq 8) oK oK oK ?_ ?_
  ·skip;intro o X Hj K q;simp only [gZa,gZb,gZc,gZd] at X;subst X;go_simp;refine(Hi _ Hg).mono ?_;rintro e Q ⟨ya,yc,yx,yd,rfl,oy,m⟩;have L:=Qaa Hg m;have Hy:=m.size;have Hz:=Hg.size;refine q.out _ _ (Z _ L) (fun qh=> ?_);clear q K;try simp only [zP]
   clear m;refine QaK (i:=6) (j:=10) (d:=Uq 27) (d':=Uq 8) oK oK oK ?_ ?_
   ·skip;intro o X Hj K q;simp only [gZa,gZb,gZc,gZd] at X;subst X;go_simp;obtain⟨s,C⟩:=zE Q.heap.size;refine(HJ _ _ _ _ _ L oy).mono ?_;rintro e b ⟨J,v,z,g,h,er,rfl,W,Hb,O,m⟩;obtain⟨N,Ha⟩:=zE b.heap.size;have H:=Qaa L m;have Hq:=m.size;have Ht:=L.size;rw [C,Ha] at O;replace C:Q.heap.size<=s/\ s<=Q.heap.size:=oM
    replace Ha:b.heap.size<=N/\ N<=b.heap.size:=oM
    refine q.out _ _ (Z _ H) (fun qh=> ?_);clear q K;try simp only [zP]
    clear m;refine tZ 7 20 ?_;refine tZ 8 28 ?_;refine tZ 9 29 ?_;refine cZ 10 ?_;intro K q;go_simp;obtain⟨V,E⟩:=zE (b.alloc (Uj #[Ue,Ue] 28));have m:Bl b V:=E▸zO _ _;have r:Bx2 V b.heap.size Ue Ue:=E▸Bx2.made _ _ _ _;have Hr:=H.size;have Hu:V.heap.size<=b.heap.size+1/\ b.heap.size+1<=V.heap.size:=E▸oP;have T:=Qaa H m;obtain⟨k,B⟩:=zE b.heap.size;rw [B] at r ⊢;rw [E];clear E;replace B:b.heap.size<=k/\ k<=b.heap.size:=oM
    replace O:=O.bw m
    refine q.out _ _ (Z _ T) (fun qh=> ?_);clear q K;try simp only [zP]
    clear m;obtain⟨Hd,He,Hf⟩:=r.p2;refine cZ 11 ?_;intro K q;go_simp;have F:=r.set (Uf v J.l.length z) (Uf g J.n h);have R:=((O.set (Ub k) (Uf v J.l.length z) oQ).set (Ua k 1) (Uf g J.n h) oQ).wide zL (show N<=((V.setCell (Ub k) (Uf v J.l.length z)).setCell (Ua k 1) (Uf g J.n h)).heap.size by simp [UL];omega) zL;have I:=(T.setCell (p:=(Ub k)) oQ (Uf v J.l.length z)).setCell (p:=(Ua k 1)) oQ (Uf g J.n h);refine q.out _ _ (Z _ I) (fun qh=> ?_);clear q K;try simp only [zP]
    refine tZ 12 7 ?_;refine zD ?_;have Hc:=hid (And.intro F (And.intro W (And.intro R (And.intro (show U.heap.size<=s by omega) (And.intro I (show U.heap.size<=k by omega))))));clear F R I Hd He Hf r O qh W;go_wp2_with fail;go_meet;exact⟨k,v,z,g,h,s,J,rfl,Hb,Hc⟩
   ·skip;intro o X Hj K q;simp only [gZa,gZb,gZc,gZd] at X;subst X;go_simp;obtain⟨b,E⟩:=zE (Q.alloc (Uj #[Ue,Ue] 28));have m:Bl Q b:=E▸zO _ _;have r:Bx2 b Q.heap.size Ue Ue:=E▸Bx2.made _ _ _ _;have Hr:=L.size;have Hu:b.heap.size<=Q.heap.size+1/\ Q.heap.size+1<=b.heap.size:=E▸oP;have H:=Qaa L m;obtain⟨k,B⟩:=zE Q.heap.size;rw [B] at r ⊢;rw [E];clear E;replace B:Q.heap.size<=k/\ k<=Q.heap.size:=oM
    replace oy:=oy.bw m
    refine q.out _ _ (Z _ H) (fun qh=> ?_);clear q K;try simp only [zP]
    clear m;refine cZ 6 ?_;intro K q;go_simp;obtain⟨s,C⟩:=zE b.heap.size;refine(HJ _ _ _ _ _ H oy).mono ?_;rintro e V ⟨J,v,z,g,h,er,rfl,W,Hb,O,m⟩;obtain⟨N,Ha⟩:=zE V.heap.size;have T:=Qaa H m;have Hq:=m.size;have Ht:=H.size;have Hw:=r.lt;replace r:=r.bw m r.lt
    rw [C,Ha] at O;replace C:b.heap.size<=s/\ s<=b.heap.size:=oM
    replace Ha:V.heap.size<=N/\ N<=V.heap.size:=oM
    refine q.out _ _ (Z _ T) (fun qh=> ?_);clear q K;try simp only [zP]
    clear m;refine tZ 7 20 ?_;refine tZ 8 28 ?_;refine tZ 9 29 ?_;obtain⟨Hd,He,Hf⟩:=r.p2;refine cZ 11 ?_;intro K q;go_simp;have F:=r.set (Uf v J.l.length z) (Uf g J.n h);have R:=((O.set (Ub k) (Uf v J.l.length z) oQ).set (Ua k 1) (Uf g J.n h) oQ).wide zL (show N<=((V.setCell (Ub k) (Uf v J.l.length z)).setCell (Ua k 1) (Uf g J.n h)).heap.size by simp [UL];omega) zL;have I:=(T.setCell (p:=(Ub k)) oQ (Uf v J.l.length z)).setCell (p:=(Ua k 1)) oQ (Uf g J.n h);refine q.out _ _ (Z _ I) (fun qh=> ?_);clear q K;try simp only [zP]
    refine tZ 12 7 ?_;refine zD ?_;have Hc:=hid (And.intro F (And.intro W (And.intro R (And.intro (show U.heap.size<=s by omega) (And.intro I (show U.heap.size<=k by omega))))));clear F R I Hd He Hf r O qh W;go_wp2_with fail;go_meet;exact⟨k,v,z,g,h,s,J,rfl,Hb,Hc⟩
  ·skip;intro o X Hj K q;simp only [gZa,gZb,gZc,gZd] at X;subst X;go_simp;obtain⟨Q,E⟩:=zE (D.alloc (Uj #[Ue,Ue] 28));have m:Bl D Q:=E▸zO _ _;have r:Bx2 Q D.heap.size Ue Ue:=E▸Bx2.made _ _ _ _;have Hr:=Hg.size;have Hu:Q.heap.size<=D.heap.size+1/\ D.heap.size+1<=Q.heap.size:=E▸oP;have L:=Qaa Hg m;obtain⟨k,B⟩:=zE D.heap.size;rw [B] at r ⊢;rw [E];clear E;replace B:D.heap.size<=k/\ k<=D.heap.size:=oM
   refine q.out _ _ (Z _ L) (fun qh=> ?_);clear q K;try simp only [zP]
   clear m;refine cZ 5 ?_;intro K q;go_simp;refine(Hi _ L).mono ?_;rintro e b ⟨ya,yc,yx,yd,rfl,oy,m⟩;have H:=Qaa L m;have Hy:=m.size;have Hz:=L.size;have H0:=r.lt;replace r:=r.bw m r.lt
   refine q.out _ _ (Z _ H) (fun qh=> ?_);clear q K;try simp only [zP]
   clear m;refine cZ 6 ?_;intro K q;go_simp;obtain⟨s,C⟩:=zE b.heap.size;refine(HJ _ _ _ _ _ H oy).mono ?_;rintro e V ⟨J,v,z,g,h,er,rfl,W,Hb,O,m⟩;obtain⟨N,Ha⟩:=zE V.heap.size;have T:=Qaa H m;have Hq:=m.size;have Ht:=H.size;have Hw:=r.lt;replace r:=r.bw m r.lt
   rw [C,Ha] at O;replace C:b.heap.size<=s/\ s<=b.heap.size:=oM
   replace Ha:V.heap.size<=N/\ N<=V.heap.size:=oM
   refine q.out _ _ (Z _ T) (fun qh=> ?_);clear q K;try simp only [zP]
   clear m;refine tZ 7 20 ?_;refine tZ 8 28 ?_;refine tZ 9 29 ?_;obtain⟨Hd,He,Hf⟩:=r.p2;refine cZ 11 ?_;intro K q;go_simp;have F:=r.set (Uf v J.l.length z) (Uf g J.n h);have R:=((O.set (Ub k) (Uf v J.l.length z) oQ).set (Ua k 1) (Uf g J.n h) oQ).wide zL (show N<=((V.setCell (Ub k) (Uf v J.l.length z)).setCell (Ua k 1) (Uf g J.n h)).heap.size by simp [UL];omega) zL;have I:=(T.setCell (p:=(Ub k)) oQ (Uf v J.l.length z)).setCell (p:=(Ua k 1)) oQ (Uf g J.n h);refine q.out _ _ (Z _ I) (fun qh=> ?_);clear q K;try simp only [zP]
   refine tZ 12 7 ?_;refine zD ?_;have Hc:=hid (And.intro F (And.intro W (And.intro R (And.intro (show U.heap.size<=s by omega) (And.intro I (show U.heap.size<=k by omega))))));clear F R I Hd He Hf r O qh W;go_wp2_with fail;go_meet;exact⟨k,v,z,g,h,s,J,rfl,Hb,Hc⟩
 case rest=>
 obtain⟨k,v,z,g,h,s,J,rfl,Hb,Hh⟩:=hcut;have H5:=hid (Qaa HU Hh.2.2.2.2.1);clear Z HJ Hi;rcases Hb with ⟨rfl,rfl⟩|⟨rfl,et,ev,rfl⟩
 ·obtain⟨j8,Hp,O,C,bj,B⟩:=Hh.out;obtain rfl:=Hp rfl;have R5:=HR.bw H5 HR.lt;have M:=(R5.set1 (Uf v (jnZ S Y).l.length z)).set2 (Uf g (jnZ S Y).n h);have Hx:=HR.lt;have hz:=HU.size;have HE:Hid (P (Ui (Ul #[Ue,.nilIface])) ((wc.setCell (Ua rb 1) (Uf v (jnZ S Y).l.length z)).setCell (Ua rb 2) (Uf g (jnZ S Y).n h))):=hid (by
   rw [<- HP.out];exact⟨QqE H5 _ _,.inl ⟨Hl,rfl,v,z,g,h,s,M,((O.set (Ua rb 1) _ (.inl oQ)).set (Ua rb 2) _ (.inl oQ)).wide zL (by simp [UL]) zL,oM⟩⟩)
  obtain⟨J9,Ho⟩:=zE (jnZ S Y);rw [Ho] at HE j8;obtain⟨p0,p1⟩:=j8.q2;have r1:=R5.c1;have r2:=(R5.set1 (Uf v J9.l.length z)).c2;have r3:=R5.c2;have rf:=R5.f;have rg:=(R5.set1 (Uf v J9.l.length z)).f;clear R5 M Hx hz j8 Hp O C bj B Hh Ho;go_wp2_with fail;exact HE
 ·have b6:Bl wc (wc.alloc (Uj #[Ud 3,.iface et ev] 93)):=zO _ _;have HE:Hid (P (Ui (Ul #[Ue,.iface 91 (Uk (Uc wc.heap.size))])) (wc.alloc (Uj #[Ud 3,.iface et ev] 93))):=hid (by
   rw [<- HP.out];exact⟨QdY (Qaa H5 b6) _,.inr ⟨Hl,_,rfl,ErC.made _ _ _,Qaa H5 b6⟩⟩)
  clear Hh b6;go_wp2_with fail;exact HE
theorem LB.caps(h:LB w lo (Uf a l.length c) l):QbY w a l/\ l.length<=c/\ c<=9223372036854775807:=by
 obtain⟨P,Q,j,y⟩:=h;rcases j.row.2 with ⟨e,k⟩|⟨v,r,u,m,g,z,t,q,o,i⟩
 ·injection e with e1 e2 e3;exact⟨.inl k,oM,oM⟩
 ·injection m with e1 e2 e3;subst e1 e3;unfold maxLen at q;exact⟨j.lcap rfl,oM,oM⟩
theorem Qil(h:Seg w pa L f)(hf:Byt f)(cap:Nat):(convert 22 9 (Uf pa L cap)).run prog w=.ok (Um (Qdg f 0 L)) w:=by
 by_cases j:L=0
 ·subst j;have e:Qdg f 0 0=⟨#[]⟩:=by simp [Qdg]
  cases pa with
  | none=>
   rw [e,run_convert_bytes_string _ _ _ 5 Up 0 cap underlying22 underlying5 underlying9];rfl
  | some ad=>exact Qe1 ad 0 cap f
 ·exact Qhq hf h oM
theorem Bx2.fill {v:Ur}{v0 v1:Value}(h:Bx2 v b v0 v1)(u0 u1:Value):∃Z,Z=(v.setCell (Ub b) u0).setCell (Ua b 1) u1/\ Z.cell? (Ub b)=Uq u0/\ Z.cell? (Ua b 1)=Uq u1/\ v.grownBy Z (Uq b):=by
 refine⟨_,rfl,?_,?_,⟨rfl,rfl,rfl,by simp [UL],fun k hk hne=> ?_⟩⟩
 ·rw [UN _ _ _ _ oP];exact UM _ _ _ h.c0
 ·exact UM _ _ _ (by rw [UN _ _ _ _ oP];exact h.c1)
 ·have j:k≠b:=fun e=>hne (by rw [e]);exact(zH _ _ _ _ j).trans (zH _ _ _ _ j)
theorem QjZ {g:Nat ->Int}(h:∀i,i<L ->f i=g i):Qdg f 0 L=Qdg g 0 L:=by
 have e:((UW L).map fun i=>UInt8.ofNat (f (0+i)).toNat)=(UW L).map fun i=>UInt8.ofNat (g (0+i)).toNat:=List.map_congr_left fun i hi=>by rw [VS,h i (oU hi)]
 unfold Qdg;rw [e]
theorem QnY(h:Enc Y f n)(hf:Byt f):Byt (gz (psB Y.R Y.F Y.T Y.n Y.l))/\ Qdg (gz (psB Y.R Y.F Y.T Y.n Y.l)) 0 (psB Y.R Y.F Y.T Y.n Y.l).length=Qdg f 0 n:=by
 have e:∀i,i<n ->gz (psB Y.R Y.F Y.T Y.n Y.l) i=f i:=fun i hi=>by
  have:=h.at' i (by rw [<- h.len];exact hi);rw [VS] at this;exact this.symm
 refine⟨fun i=> ?_,?_⟩
 ·by_cases hi:i<n
  ·rw [e i hi];exact hf i
  ·have:gz (psB Y.R Y.F Y.T Y.n Y.l) i=0:=by
    unfold gz;simp [UA,UX (by rw [<- h.len];omega:(psB Y.R Y.F Y.T Y.n Y.l).length<=i)]
   rw [this];omega
 ·rw [<- h.len];exact QjZ e
def SgV (Y:Sx)(w:Ur)(e:Ending)(w':Ur):Prop:=∃va vc xa xc,e=Ui (Ul #[Uo #[Uf va Y.l.length vc,Uf xa Y.n xc],Ud 0])/\ SCt w' va xa Y/\ (Y.l.length<=vc/\ vc<=9223372036854775807)/\ Bl w w'
theorem Qlm (a:Option Us)(n c:Nat)(f:Nat ->Int)(Y:Sx)(w:Ur)(hE:Enc Y f n)(hnc:n<=c)(hf:Byt f)(hs:Seg w a n f)(hab:∀y,a=Uq y ->y.block<w.heap.size):
  Cl 64 #[Uf a n c] w fun e w'=>SgV Y w e w':=by
 obtain⟨P,hP⟩:=zE (SgV Y w);rw [hP];have HP:=hid hP;clear hP;obtain⟨W,H⟩:=zE (w.alloc (Uj #[Ue,Ue] 28));have K:Bl w W:=H▸zO _ _;have zW:W.heap.size=w.heap.size+1:=H▸oP;have xW:Bx2 W w.heap.size Ue Ue:=H▸Bx2.made w _ _ _;have Gg:=hE.n4;have Gk:¬(4000:Int)<(n:Int):=oM;obtain⟨c1,G,c3,c4,c5,c6,c7⟩:=QlA hE.ok.1;have Hz:Rb f n 0 (QlC (Qkp (Lk Y.R Y.F Y.T Y.n))++tB Y.l 8 []) n:=by rw [G];exact⟨hE.at',by rw [VS];exact hE.len,Uv _⟩
 obtain⟨x1,Q,q2⟩:=Hz.app;have Hw:flG (Qkp (Lk Y.R Y.F Y.T Y.n))=flat Y.R Y.F Y.T Y.n:=by
  rw [<- c4];unfold flG Qkp Qdt;rw [Yo]
 have He:=hid (Qna a n c 0 x1 f (Qkp (Lk Y.R Y.F Y.T Y.n)) W oM hf (hs.bw K) c1 Q);rw [Hw] at He;have HF:=hid hf;have Hr:=hid (hs.bw K);have Hh:=hid hab;have HX:=hid xW;have Hm:=hid K;have Gc:=hid zW;have o:=hid hE;have H7:=hid q2;clear hf hs xW K zW hab c1 G c3 c4 c5 c6 c7 Q q2 Hz Hw hE;go_enter func64,ntmps64;go_wp2_with fail;try rw [H]
 clear H;refine He.mono ?_;clear He;rintro e w1 ⟨v1,rfl,N,b1⟩;obtain⟨r,z,rfl,_⟩:=N.fs;have Hg:(flat Y.R Y.F Y.T Y.n).length=Y.n:=by simp [flat]
 rw [Hg] at N ⊢;obtain⟨m,I⟩:=zE (w1.alloc (Uj #[Uf r Y.n z] 26));have b2:Bl w1 m:=I▸zO _ _;have z2:m.heap.size=w1.heap.size+1:=I▸oP;have G:m.cell? (Ub w1.heap.size)=Uq (Uf r Y.n z):=I▸oP;obtain⟨h,J⟩:=zE ((m.alloc (Uj #[] 9)).alloc (Uj #[] 85));have b3:Bl m h:=J▸Qad _ _ _;have z3:h.heap.size=m.heap.size+1+1:=J▸oP;have V:=Qaa b1 (Qaa b2 b3);have Gi:=Gc.out;have Gh:=b1.size;have L3:LB h (w.heap.size+1) (Uf (Uq (Ua (m.heap.size+1) 0)) 0 0) []:=by
  refine⟨fun _=>0,fun _=>0,⟨?_,fun i hi=>by simp at hi⟩,fun i j hi=>by simp at hi⟩;have:=VF (base:=w.heap.size+1) (e:=85) (size:=5) (m.alloc (Uj #[] 9)) #[] 0 oS oL rfl;rw [J] at this;simpa using this
 have Hs:Hid (SpB h a n f m.heap.size [] (Uf (Uq (Ua (m.heap.size+1) 0)) 0 0) [] (w.heap.size+1)):=hid (by
  refine⟨Hr.bw V,oM,fun t ht=>by simp at ht,fun e=> ?_,fun y hy e=> ?_,L3,fun i=> ?_,oM⟩
  ·have e:(Uq (m.heap.size+1):Option Nat)=Uq m.heap.size:=e;injection e with e;omega
  ·have e:(Uq (m.heap.size+1):Option Nat)=Uq y.block:=e;injection e with e;have:=Hh y hy;omega
  ·simp [gL,UA])
 have Ht:Hid (Cl 95 #[Uf a n c,Ud (x1:Int),Uf (Uc m.heap.size) 0 0,Uf (Uq (Ua (m.heap.size+1) 0)) 0 0] h fun e w'=>LdV h (w.heap.size+1) (Uf (Uq (Ua (m.heap.size+1) 0)) 0 0) n Y.l e w'):=
  hid (Qg1 _ (QlM o.ok.1) a n c f (w.heap.size+1) oM hnc HF 8 [] rfl x1 n m.heap.size 0 (Uq (Ua (m.heap.size+1) 0)) 0 [] Y.l (tB Y.l 8 []) h Hs (by rw [VX];exact o.ok.2.1) (Qps o.ok) H7)
 have Hi:=hid (Hm.trans (V.mono Hm.size));have Ga:=hid (HX.bw V HX.lt);have Hq:Hid (∀w',(∀q,w.heap.size+1<=q ->q<w1.heap.size ->w'.heap[q]? =w1.heap[q]?) ->QaT w' r Y.n Y.R Y.F Y.T):=hid (fun w' hq=>by
  have h0:FR w1 W.heap.size (Uf r (flat Y.R Y.F Y.T Y.n).length z) (flat Y.R Y.F Y.T Y.n):=by rw [Hg];exact N
  have M:FR w' W.heap.size (Uf r (flat Y.R Y.F Y.T Y.n).length z) (flat Y.R Y.F Y.T Y.n):=Qap h0 (fun g hg=>hq g (oH ((World.ownsRow.lt h0 g hg).1)) (World.ownsRow.lt h0 g hg).2);obtain⟨Gp,Gq,ex,Gd,_,_⟩:=M.fs;injection ex with e1 e2 e3;subst e1;exact Qhn Gd.rseg)
 have H3:=hid ((b3.cell (p:=(Ub w1.heap.size)) (show w1.heap.size<m.heap.size by omega)).trans G);have Gb:Hid (w.heap.size+1<=w1.heap.size/\ m.heap.size=w1.heap.size+1/\ h.heap.size=m.heap.size+1+1):=hid ⟨oM,z2,z3⟩;have H1:=hid V;have H2:=hid (Qaa b2 b3);clear b1 b2 b3 V N L3 HX Hs z2 z3 Gh Gi G Hg;go_wp2_with fail;try rw [I]
 try rw [J]
 clear I J;refine Ht.mono ?_;clear Ht;rintro e u ⟨A,E,rfl,O,Hy,Hx⟩;have Gm:=Gb.out;have S:(Value.slice (Uq (Ua (m.heap.size+1) 0)) 0 0).ownBlock=Uq (m.heap.size+1):=rfl;have L:∀k,k<h.heap.size ->k≠m.heap.size+1 ->u.heap[k]? =h.heap[k]? :=fun k M h2=>O.1.block k M (fun e=>h2 (by rw [S] at e;injection e));have Hj:Hid (Bl w u):=hid (Hi.grown O.1 Hi.size (fun k e=>by rw [S] at e;injection e with e;omega));obtain⟨U,B⟩:=zE (u.alloc (Uj #[Uf A Y.l.length E,Uf r Y.n z] 28));have b:Bl u U:=B▸zO _ _;have X5:Bx2 U u.heap.size (Uf A Y.l.length E) (Uf r Y.n z):=B▸Bx2.made u _ _ _;have R4:Bx2 u w.heap.size Ue Ue:=Ga.sm (L w.heap.size oM oM) O.1.size;have Hp:=hid (R4.bw b R4.lt);have Ge:u.cell? (Ub w1.heap.size)=Uq (Uf r Y.n z):=(US (a:=(Ub w1.heap.size)) (L w1.heap.size oM oM)).trans H3;have Ho:Hid (∀q,w.heap.size+1<=q ->q<w1.heap.size ->u.heap[q]? =w1.heap[q]?):=hid (fun q _ hq=>(L q oM oM).trans (H2.block q hq));have H5:Hid (QaT U r Y.n Y.R Y.F Y.T):=hid ((Hq u Ho).bw b);have Hv:Hid (w1.heap.size<=u.heap.size):=hid (oH O.1.size);have Hc:=hid b;have Hn:=hid (Hy.bw b);have Hk:=hid (Hj.trans (b.mono Hj.size));have H9:Hid (Seg U a n f):=hid (Seg.bw (Seg.keptR (row:=Uq (m.heap.size+1)) (Hr.bw H1) (S▸O.1) (fun y hy e=>by injection e with e;have:=Hh y hy;omega)) b);obtain⟨Q,q3,q4⟩:=Hn.caps;have Hd:=hid (Qd5 A E Y.l r Y.n z Y.R Y.F Y.T U q3 q4 (oH o.ok.2.1) Hx (oH ((Qal.1 o.ok.1).2)) Q Q.seg H5);have H4:=hid (And.intro q3 q4);rw [Qes o.ok (by rw [<- o.len];exact Gg)] at Hd;obtain⟨x0,Gj⟩:=X5.q2;have Hu:=hid X5;clear O Hy Hx L R4 b Q q3 q4 X5 S;go_wp2_with fail;try rw [B]
 clear B Ge;refine Hd.mono ?_;clear Hd;rintro e w6 ⟨v6,zs,k,rfl,D,ho,s⟩;injection D with D hk;subst hk;obtain⟨oa,oc,rfl,os⟩:=ho.any;have R6:=Hp.bw s Hp.lt;have Hl:=hid (Hk.trans (s.mono Hk.size));obtain⟨c0,c1,cf⟩:=R6.p2;have H8:=hid R6;have C:=QnY o HF;rw [D] at C;have Hb:=Qil os C.1 oc;have Hf:=Qil (H9.bw s) HF c;rw [show Qdg (fun i=>zs.getD i 0) 0 zs.length=Qdg f 0 n from C.2] at Hb;obtain⟨s1,H0⟩:=zE (Qdg f 0 n);rw [H0] at Hb Hf;have Gl:(s1.toList==s1.toList)=true:=oP;have X6:=Hu.bw s Hu.lt;obtain⟨Gn,Go⟩:=X6.q2;have H6:=hid (Hn.bw s);have Ha:=hid (Qaa Hc s);clear R6 os ho s D x0 Gj X6 H0 C;go_wp2_with fail;obtain⟨Z,hZ,p0,p1,X⟩:=H8.fill (Uf A Y.l.length E) (Uf r Y.n z);rw [<- hZ];clear hZ;refine zF (v:=Ul #[Uo #[Uf A Y.l.length E,Uf r Y.n z],Ud 0]) (by simp [results,results64,go_sem,p0,p1]) ?_;rw [<- HP.out];have Gf:LB Z (w.heap.size+1) (Uf A Y.l.length E) Y.l:=H6.move X.size (fun q M h2=>X.block q h2 (fun e=>oI e));refine⟨A,E,r,z,rfl,⟨Gf.caps.1,?_⟩,H4,Hl.grown X Hl.size (fun k e=>oI e)⟩;exact Hq Z (fun q M h2=>(X.block q (oJ Hv Ha.size) (fun e=>oI e)).trans ((Ha.block q (oH Hv)).trans (Ho q M h2)))
theorem Qjh (l:List Rn):flat (fun i=>(gR l i).1) (fun i=>(gR l i).2.1) (fun i=>(gR l i).2.2) l.length=l:=by
 refine YU (by simp [flat]) (fun i h1 h2=> ?_);simp [flat,gR,UA,h2]
theorem QmK {l:List Rn}(h:Qcy l):Qeo (fun i=>(gR l i).1) (fun i=>(gR l i).2.1) (fun i=>(gR l i).2.2) l.length:=by
 intro i hi;have e:∀j,(hj:j<l.length) ->gR l j=l[j]:=fun j hj=>by simp [gR,UA,hj]
 refine⟨?_,fun h0=> ?_⟩
 ·have:=h.2 _ (UG hi);rw [<- e i hi] at this;exact Qcw this
 ·have:=List.pairwise_iff_getElem.1 h.1 (i - 1) i oM hi oM;rw [<- e i hi,<- e (i - 1) oM] at this;unfold QaD;exact decide_eq_true this
theorem QmO (R F T:Nat ->Int)(r x:Int)(n:Nat):Qb6 R F T r x x n=true↔RI (flat R F T n) r x:=by
 rw [QdT,<- Qec];unfold inB In;simp
theorem Qjm:QbW R F T n x↔RI (flat R F T n) x.r x.q:=QmO R F T x.r x.q n
def mkS (l:List Lf)(u:List Rn):Sx:=⟨l,u.length,fun i=>(gR u i).1,fun i=>(gR u i).2.1,fun i=>(gR u i).2.2⟩
theorem QoC (S S':Sx):jnS S S'=mkS (jn S.R S.F S.T S.n S.l S'.R S'.F S'.T S'.n S'.l) (jnU S S'):=rfl
theorem Qj7:QbW (mkS l u).R (mkS l u).F (mkS l u).T (mkS l u).n x↔RI u x.r x.q:=by
 rw [Qjm];unfold mkS;simp only;rw [Qjh]
def dtR (x:Lf):Rn:=(x.r,x.q,x.q)
theorem QiY{r x:Int}:RI (l.map dtR) r x↔∃y∈l,y.r=r/\ y.q=x:=by
 unfold RI InR dtR;constructor
 ·rintro⟨p,v,j,m,u⟩;obtain⟨y,k,rfl⟩:=List.mem_map.1 v;exact⟨y,k,j,by simp only at m u;omega⟩
 ·rintro⟨y,k,j,m⟩;exact⟨_,List.mem_map.2 ⟨y,k,rfl⟩,j,by simp only;omega,by simp only;omega⟩
noncomputable def goL (g:Lf ->Prop)(l:List Lf):List Lf:=l.filter fun x=>yes (g x)
noncomputable def stL (g:Lf ->Prop)(l:List Lf):List Lf:=l.filter fun x=> !yes (g x)
noncomputable def dlU (g:Lf ->Prop)(l P:List Lf):List Rn:=unF [] ((goL g l).map dtR++P.map dtR)
noncomputable def dlS (g:Lf ->Prop)(l P:List Lf):Sx:=mkS P (dlU g l P)
def nxU (S:Sx)(P:List Lf):List Rn:=unF (flat S.R S.F S.T S.n) (P.map dtR)
noncomputable def nxL (g:Lf ->Prop)(l P:List Lf):List Lf:=P.foldl (fun o y=>Qc1 y o) (stL g l)
noncomputable def nxS (g:Lf ->Prop)(S:Sx)(P:List Lf):Sx:=mkS (nxL g S.l P) (nxU S P)
theorem Qdm {g:Lf ->Prop}:x∈goL g l↔x∈l/\ g x:=by
 unfold goL;rw [YV];exact and_congr_right fun _=>⟨fun h=>Classical.byContradiction fun hn=>(by rw [Qag hn] at h;cases h),fun h=>Qaj h⟩
theorem Qhv {g:Lf ->Prop}:x∈stL g l↔x∈l/\¬g x:=by
 unfold stL;rw [YV];exact and_congr_right fun _=>⟨fun h hn=>(by rw [Qaj hn] at h;cases h),fun h=>(by rw [Qag h];rfl)⟩
structure PtO (S:Sx)(P:List Lf):Prop where
 one:P.length<=1
 ok:∀y∈P,Qcz y
 dot:∀y∈P,Rok (dtR y)
 new:∀y∈P,¬QbW S.R S.F S.T S.n y
theorem PtO.nil (S:Sx):PtO S []:=⟨oP,fun y h=>(by cases h),fun y h=>(by cases h),fun y h=>(by cases h)⟩
theorem QeT(h:Qba S.R S.F S.T S.n S.l):∀z∈S.l,QbW S.R S.F S.T S.n z:=fun z hz=>by
 obtain⟨j,k,e⟩:=Qao.1 hz;have:=(h.2.2.1 j k).2.1;rw [e] at this;exact this
theorem QgS(h:Qeo R F T n)(hx:QbW R F T n x):Rok (dtR x):=by
 obtain⟨k,j,m,q,r⟩:=Qdo R F T _ _ _ n hx;have:=(h k j).1;simp only [QaF,Bool.and_eq_true,decide_eq_true_eq] at this;unfold Rok dtR;simp only;omega
theorem QcD(h:Qba S.R S.F S.T S.n S.l):Qeo S.R S.F S.T S.n:=(Qal.1 h.1).1
section
variable {g : Lf -> Prop} {S : Sx} {P : List Lf}
theorem QlB (h:Qba S.R S.F S.T S.n S.l)(hp:PtO S P):∀p∈(goL g S.l).map dtR++P.map dtR,Rok p:=fun p j=>by
 rcases List.mem_append.1 j with j|j
 ·obtain⟨x,k,rfl⟩:=List.mem_map.1 j;exact QgS (QcD h) (QeT h x (Qdm.1 k).1)
 ·obtain⟨x,k,rfl⟩:=List.mem_map.1 j;exact hp.dot x k
theorem QlE:Qcy []:=⟨List.Pairwise.nil,fun p h=>by cases h⟩
theorem QhB (h:Qba S.R S.F S.T S.n S.l)(hp:PtO S P):Qcy (dlU g S.l P)/\∀r x,RI (dlU g S.l P) r x↔(∃y,(y∈S.l/\ g y)/\ y.r=r/\ y.q=x) \/∃y∈P,y.r=r/\ y.q=x:=by
 obtain⟨k,m⟩:=Qd7 ((goL g S.l).map dtR++P.map dtR) [] QlE (QlB h hp);refine⟨k,fun r x=>(m r x).trans ?_⟩;rw [Qby,QiY,QiY];constructor
 ·rintro(e|⟨y,j,e⟩|e)
  ·exact absurd e QiI
  ·exact .inl ⟨y,Qdm.1 j,e⟩
  ·exact .inr e
 ·rintro(⟨y,j,e⟩|e)
  ·exact .inr (.inl ⟨y,Qdm.2 j,e⟩)
  ·exact .inr (.inr e)
theorem QmD (h:Qba S.R S.F S.T S.n S.l)(hp:PtO S P):(dlU g S.l P).length<=1001:=by
 have j:=Qdx ((goL g S.l).map dtR++P.map dtR) [];have k:(goL g S.l).length<=S.l.length:=Yz _ _;have m:=h.2.1;have q:=hp.one;simp at j;show (unF [] ((goL g S.l).map dtR++P.map dtR)).length<=1001;omega
theorem QoW (hp:PtO S P){R F T:Nat ->Int}{n:Nat}(hh:∀y∈P,QbW R F T n y):QbT R F T n P P.length/\ Dis P P.length:=by
 have m:=hp.one;refine⟨fun i hi=> ?_,fun i hi j hj=>oM⟩;have k:gL P i∈P:=Qao.2 ⟨i,hi,rfl⟩;exact⟨hp.ok _ k,hh _ k,fun h0=>oM⟩
theorem QpH (h:Qba S.R S.F S.T S.n S.l)(hp:PtO S P):StW (dlS g S.l P).R (dlS g S.l P).F (dlS g S.l P).T (dlS g S.l P).n (dlS g S.l P).l:=by
 have k:=(QhB (g:=g) h hp).1;have m:=QmD (g:=g) h hp;have j:=QoW hp (R:=(dlS g S.l P).R) (F:=(dlS g S.l P).F) (T:=(dlS g S.l P).T) (n:=(dlS g S.l P).n) (fun y hy=>Qj7.2 (((QhB h hp).2 _ _).2 (.inr ⟨y,hy,rfl,rfl⟩)));exact⟨⟨QmK k,by show (dlU g S.l P).length<=2000;omega⟩,by show P.length<=1000;have:=hp.one;omega,j.1,j.2⟩
theorem Qfa (h:Qba S.R S.F S.T S.n S.l):(stL g S.l).Pairwise (fun a b=>QaL a b<0):=by
 refine List.Pairwise.filter _ (List.pairwise_iff_getElem.2 fun i j hi hj hij=> ?_);have:=h.2.2.1.lt j hij hj;have k:gL S.l i=S.l[i]:=by simp [gL,UA,hi]
 have m:gL S.l j=S.l[j]:=by simp [gL,UA,hj]
 rw [k,m] at this;exact this
theorem Qf7 {l:List Lf}{z:Lf}:∀{P:List Lf} {o:List Lf},z∈P.foldl (fun o y=>Qc1 y o) o↔z∈o \/z∈P
 | [],o=>oP
 | y::P,o=>by
  rw [Vf,Qf7 (l:=l) (P:=P),QdB,VZ];constructor
  ·rintro((e|e)|e)
   ·exact .inr (.inl e)
   ·exact .inl e
   ·exact .inr (.inr e)
  ·rintro(e|e|e)
   ·exact .inl (.inr e)
   ·exact .inl (.inl e)
   ·exact .inr e
theorem Qi4 (h:Qba S.R S.F S.T S.n S.l)(hp:PtO S P):(nxL g S.l P).Pairwise (fun a b=>QaL a b<0):=by
 unfold nxL;match P,hp with
 | [],_=>exact Qfa h
 | [y],hp=>
  refine QcC (Qfa h) (fun z hz e=> ?_);exact hp.new y (List.mem_singleton.2 rfl) ((QhJ e).1 (QeT h z (Qhv.1 hz).1))
 | _::_::_,hp=>exact absurd hp.one oP
theorem QpD (h:Qba S.R S.F S.T S.n S.l)(hp:PtO S P):(jnS S (dlS g S.l P)).l=nxL g S.l P:=by
 refine QhV (Qef h.w (QpH h hp)) (Qi4 h hp) (fun z=> ?_);show z∈jnL S.l P _ _↔_;rw [Qed];unfold nxL;rw [Qf7 (l:=S.l),Qhv];have v:QbW (dlS g S.l P).R (dlS g S.l P).F (dlS g S.l P).T (dlS g S.l P).n z↔_:=Qj7.trans ((QhB (g:=g) h hp).2 z.r z.q);rw [v];constructor
 ·rintro(⟨j,k⟩|⟨j,_⟩)
  ·rcases k with k|k
   ·exact .inr k
   ·exact .inl ⟨j,fun m=>k (.inl ⟨z,⟨j,m⟩,rfl,rfl⟩)⟩
  ·exact .inr j
 ·rintro(⟨j,k⟩|j)
  ·refine .inl ⟨j,.inr ?_⟩;rintro(⟨y,⟨u,m⟩,e⟩|⟨y,u,e⟩)
   ·exact k ((QgM h.2.2.2 u j e)▸m)
   ·refine hp.new y u ?_;have:=QeT h z j;unfold QbW at this ⊢;rw [e.1,e.2];exact this
  ·exact .inr ⟨j,hp.new z j⟩
theorem QoU (h:Qba S.R S.F S.T S.n S.l)(hp:PtO S P):Qcy (nxU S P)/\∀r x,RI (nxU S P) r x↔RI (flat S.R S.F S.T S.n) r x \/∃y∈P,y.r=r/\ y.q=x:=by
 obtain⟨j,k⟩:=Qd7 (P.map dtR) (flat S.R S.F S.T S.n) (Qbh S.n (QcD h)) (fun p hq=>by
  obtain⟨x,m,rfl⟩:=List.mem_map.1 hq;exact hp.dot x m)
 refine⟨j,fun r x=>(k r x).trans ?_⟩;rw [QiY]
theorem QpF (h:Qba S.R S.F S.T S.n S.l)(hp:PtO S P):jnU S (dlS g S.l P)=nxU S P:=by
 have j:=QhB (g:=g) h hp;have k:jnU S (dlS g S.l P)=unF (flat S.R S.F S.T S.n) (dlU g S.l P):=by
  unfold jnU unL dlS mkS;simp only;rw [Qjh]
 rw [k];obtain⟨u,v⟩:=Qd7 (dlU g S.l P) (flat S.R S.F S.T S.n) (Qbh S.n (QcD h)) j.1.2;obtain⟨z,t⟩:=QoU h hp;refine uniq u z (fun r x=> ?_);rw [v,t,j.2];constructor
 ·rintro(e|⟨y,⟨o,_⟩,m,q⟩|e)
  ·exact .inl e
  ·have:=Qjm.1 (QeT h y o);rw [m,q] at this;exact .inl this
  ·exact .inr e
 ·rintro(e|e)
  ·exact .inl e
  ·exact .inr (.inr e)
theorem QpE (h:Qba S.R S.F S.T S.n S.l)(hp:PtO S P):jnS S (dlS g S.l P)=nxS g S P:=by
 rw [QoC,QpF h hp];have:=QpD (g:=g) h hp;unfold nxS;rw [<- this];rfl
end
def gnS (p:List ByteArray)(fl:Bool)(x:Lf):Prop:=x.p=p/\ x.fl=fl
def gnR (p:List ByteArray)(x:Lf):Prop:=p <+:x.p
theorem QnV (r q:Int)(w:Ur):
  Cl 161 #[Uo #[Ud r,Ud q]] w (Rt w (Un (QaF r q q))):=by
 have j:Bl w (w.alloc (Uj #[Ud r,Ud q] 83)):=zO _ _;have m:=hid j;clear j;go_enter func161,ntmps161;go_wp2_with fail;refine(Qde r q q _).mono ?_;rintro e w1 ⟨rfl,k⟩;have u:=hid (Qaa m k);clear k;go_wp2_with fail;go_ret;exact⟨rfl,u⟩
def Qcj (R F T:Nat ->Int)(rep:Int)(n:Nat):Bool:=QcS R F T n && QaF rep (Qbn R T rep n+1) (Qbn R T rep n+1)
theorem Qhy(h:QcS R F T n=true)(rep:Int):0<=Qbn R T rep n/\ Qbn R T rep n<=1000000000:=by
 have:=QiE n (Qal.1 h).1;rw [this.2.2.1 rep];exact this.2.2.2 rep
theorem Qlu(hT:I64 T)(rep:Int)(k:Nat): -9223372036854775808<=Qbn R T rep k/\ Qbn R T rep k<=9223372036854775807:=by
 induction k with
 | zero=>simp [Qbn]
 | succ k ih=>
  simp only [Qbn];split
  ·exact hT k
  ·exact ih
theorem Qn4{k:Nat}(h:R k=rep)(h2:Qbn R T rep k<T k):Qbn R T rep (k+1)=T k:=by
 show (if R k=rep/\ Qbn R T rep k<T k then T k else Qbn R T rep k)=_;rw [if_pos ⟨h,h2⟩]
theorem Qip{k:Nat}(h:¬(R k=rep/\ Qbn R T rep k<T k)):Qbn R T rep (k+1)=Qbn R T rep k:=by
 show (if R k=rep/\ Qbn R T rep k<T k then T k else Qbn R T rep k)=_;rw [if_neg h]
theorem vI {a b:Int}(h:a=b):Value.int Uh a=Ud b:=by rw [h]
theorem Qlo (a:Option Us)(n c:Nat)(R F T:Nat ->Int)(rep:Int)(w:Ur)(hn:n<=1048576)(h:QaT w a n R F T)(hT:I64 T):
  Cl 136 #[Uo #[Uf a n c],Ud rep] w fun e w'=>
   (Qcj R F T rep n=true ->e=Ui (Ul #[Uo #[Ud rep,Ud (Qbn R T rep n+1)],Un true]))/\ (Qcj R F T rep n=false ->e=Ui (Ul #[Uo #[Ud 0,Ud 0],Un false]))/\ Bl w w':=by
 obtain⟨m,y⟩:=zE ((w.alloc (Uj #[Uf a n c] 26)).alloc (Uj #[Ud 0,Ud 0] 83));have bW:Bl w m:=y▸Qad _ _ _;have L:m.heap.size=w.heap.size+2:=y▸oP;have H:m.cell? (Ub w.heap.size)=Uq (Uf a n c):=y▸oP;have x0:m.cell? (Ua (w.heap.size+1) 0)=Uq (Ud 0):=y▸oP;have K:m.cell? (Ua (w.heap.size+1) 1)=Uq (Ud 0):=y▸oP;have Z:m.frozen? (Ua (w.heap.size+1) 0)=false:=y▸oP;have G:m.frozen? (Ua (w.heap.size+1) 1)=false:=y▸oP;have M:=h.bw bW;go_enter func136,ntmps136;go_wp2_with fail;try rw [y]
 go_loop [6,7] (fun t i=>∃k:Nat,k<=n/\ i=Ud k/\ t=Ud (Qbn R T rep k)) (fun _ i=>n - (intOf i).toNat);case atStart=>exact⟨0,Ux _,rfl,rfl⟩
 case round=>
  obtain⟨k,hk,rfl,rfl⟩:=hrel;have Hd:=Qlu (R:=R) hT rep k;by_cases W:k<n
  ·rcases M with M|⟨b,off,rfl,hb,hc⟩
   ·omega
   have c0:=(hc k W).1;have c2:=(hc k W).2.2;clear hc h;by_cases s:R k=rep
   ·have t1:(R k==rep)=true:=(by simp;exact s);by_cases e2:Qbn R T rep k<T k
    ·have X:=hid (Qn4 s e2);have H1:=hid s;clear s;generalize Qbn R T rep k=tk at*;go_wp2_with fail;go_round;case rel=>exact⟨k+1,W,oN,vI X.symm⟩
     case measure=>exact oE
    ·have X:=hid (Qip (R:=R) (T:=T) (rep:=rep) (k:=k) (fun hh=>e2 hh.2));clear s;generalize Qbn R T rep k=tk at*;go_wp2_with fail;go_round;case rel=>exact⟨k+1,W,oN,vI X.symm⟩
     case measure=>exact oE
   ·have t1:(R k==rep)=false:=(by simp;exact s);have X:=hid (Qip (R:=R) (T:=T) (rep:=rep) (k:=k) (fun hh=>s hh.1));clear s;generalize Qbn R T rep k=tk at*;go_wp2_with fail;go_round;case rel=>exact⟨k+1,W,oN,vI X.symm⟩
    case measure=>exact oE
  ·obtain rfl:k=n:=oM;clear h hk;cases hcx:QcS R F T k with
   | false=>
    have B:Hid (Qcj R F T rep k=false):=(by unfold Hid Qcj;rw [hcx];rfl);obtain⟨j,q⟩:=zE (m.alloc (Uj #[Ud rep,Ud (wrap64 (Qbn R T rep k+1))] 83));have b3:Bl m j:=q▸zO _ _;have z3:j.heap.size=w.heap.size+3:=(by rw [<- q];simp;omega);have g:j.cell? (Ua (w.heap.size+2) 0)=Uq (Ud rep):=(by rw [<- q,<- L];simp);have o:j.cell? (Ua (w.heap.size+2) 1)=Uq (Ud (wrap64 (Qbn R T rep k+1))):=(by rw [<- q,<- L];simp);have z:=bW.trans (b3.mono oM);have Q:=(b3.cell (p:=(Ua (w.heap.size+1) 0)) (show w.heap.size+1<m.heap.size by omega)).trans x0;have U:=(b3.cell (p:=(Ua (w.heap.size+1) 1)) (show w.heap.size+1<m.heap.size by omega)).trans K;have A:=(b3.frozen (p:=(Ua (w.heap.size+1) 0)) (show w.heap.size+1<m.heap.size by omega)).trans Z;have E:=(b3.frozen (p:=(Ua (w.heap.size+1) 1)) (show w.heap.size+1<m.heap.size by omega)).trans G;have P:=(b3.cell (p:=(Ub w.heap.size)) (show w.heap.size<m.heap.size by omega)).trans H;have O:=M.bw b3;clear M b3 y;go_wp2_with fail;try rw [q]
    clear q H P x0 K Z G;refine(Qg4 a k c R F T _ hn O).mono ?_;rintro e u ⟨rfl,b4⟩;rw [hcx];have z4:=b4.size;have V:=(b4.cell (p:=(Ua (w.heap.size+1) 0)) (show w.heap.size+1<j.heap.size by omega)).trans Q;have Y:=(b4.cell (p:=(Ua (w.heap.size+1) 1)) (show w.heap.size+1<j.heap.size by omega)).trans U;have I:=(b4.frozen (p:=(Ua (w.heap.size+1) 0)) (show w.heap.size+1<j.heap.size by omega)).trans A;have J:=(b4.frozen (p:=(Ua (w.heap.size+1) 1)) (show w.heap.size+1<j.heap.size by omega)).trans E;have C:=(b4.cell (p:=(Ua (w.heap.size+2) 0)) (show w.heap.size+2<j.heap.size by omega)).trans g;have D:=(b4.cell (p:=(Ua (w.heap.size+2) 1)) (show w.heap.size+2<j.heap.size by omega)).trans o;have N:=hid (Qaa z b4);clear Q U A E g o O b4 z hcx;go_wp2_with fail;refine zF (v:=Ul #[Uo #[Ud 0,Ud 0],Un false]) (by simp [results,results136,go_sem,V,Y]) ⟨(fun h=>by have:=B.symm.trans h;cases this),(fun _=>rfl),?_⟩;exact(N.setCell oP _).setCell oP _
   | true=>
    have Hi:=Qhy hcx rep;cases hdo:QaF rep (Qbn R T rep k+1) (Qbn R T rep k+1) with
    | false=>
     have B:Hid (Qcj R F T rep k=false):=(by unfold Hid Qcj;rw [hcx,hdo];rfl);clear Hd;generalize S:Qbn R T rep k=tk at*;have HT:=hid S;clear S;obtain⟨j,q⟩:=zE (m.alloc (Uj #[Ud rep,Ud (tk+1)] 83));have b3:Bl m j:=q▸zO _ _;have z3:j.heap.size=w.heap.size+3:=(by rw [<- q];simp;omega);have g:j.cell? (Ua (w.heap.size+2) 0)=Uq (Ud rep):=(by rw [<- q,<- L];simp);have o:j.cell? (Ua (w.heap.size+2) 1)=Uq (Ud (tk+1)):=(by rw [<- q,<- L];simp);have z:=bW.trans (b3.mono oM);have Q:=(b3.cell (p:=(Ua (w.heap.size+1) 0)) (show w.heap.size+1<m.heap.size by omega)).trans x0;have U:=(b3.cell (p:=(Ua (w.heap.size+1) 1)) (show w.heap.size+1<m.heap.size by omega)).trans K;have A:=(b3.frozen (p:=(Ua (w.heap.size+1) 0)) (show w.heap.size+1<m.heap.size by omega)).trans Z;have E:=(b3.frozen (p:=(Ua (w.heap.size+1) 1)) (show w.heap.size+1<m.heap.size by omega)).trans G;have P:=(b3.cell (p:=(Ub w.heap.size)) (show w.heap.size<m.heap.size by omega)).trans H;have O:=M.bw b3;clear M b3 y;go_wp2_with fail;try rw [q]
     clear q H P x0 K Z G;refine(Qg4 a k c R F T _ hn O).mono ?_;rintro e u ⟨rfl,b4⟩;rw [hcx];have z4:=b4.size;have V:=(b4.cell (p:=(Ua (w.heap.size+1) 0)) (show w.heap.size+1<j.heap.size by omega)).trans Q;have Y:=(b4.cell (p:=(Ua (w.heap.size+1) 1)) (show w.heap.size+1<j.heap.size by omega)).trans U;have I:=(b4.frozen (p:=(Ua (w.heap.size+1) 0)) (show w.heap.size+1<j.heap.size by omega)).trans A;have J:=(b4.frozen (p:=(Ua (w.heap.size+1) 1)) (show w.heap.size+1<j.heap.size by omega)).trans E;have C:=(b4.cell (p:=(Ua (w.heap.size+2) 0)) (show w.heap.size+2<j.heap.size by omega)).trans g;have D:=(b4.cell (p:=(Ua (w.heap.size+2) 1)) (show w.heap.size+2<j.heap.size by omega)).trans o;have N:=hid (Qaa z b4);clear Q U A E g o O b4 z hcx;go_wp2_with fail;refine(QnV rep (tk+1) _).mono ?_;rintro e w5 ⟨rfl,r⟩;rw [hdo];have Hb:=(r.cell (p:=(Ua (w.heap.size+1) 0)) (show w.heap.size+1<u.heap.size by omega)).trans V;have Hc:=(r.cell (p:=(Ua (w.heap.size+1) 1)) (show w.heap.size+1<u.heap.size by omega)).trans Y;have Hg:=(r.frozen (p:=(Ua (w.heap.size+1) 0)) (show w.heap.size+1<u.heap.size by omega)).trans I;have Hh:=(r.frozen (p:=(Ua (w.heap.size+1) 1)) (show w.heap.size+1<u.heap.size by omega)).trans J;have Ha:=hid (Qaa N r);clear V Y I J r hdo C D;go_wp2_with fail;refine zF (v:=Ul #[Uo #[Ud 0,Ud 0],Un false]) (by simp [results,results136,go_sem,Hb,Hc]) ⟨(fun h=>by have:=B.symm.trans h;cases this),(fun _=>rfl),?_⟩;exact(Ha.setCell oP _).setCell oP _
    | true=>
     have B:Hid (Qcj R F T rep k=true):=(by unfold Hid Qcj;rw [hcx,hdo];rfl);clear Hd;generalize S:Qbn R T rep k=tk at*;have HT:=hid S;clear S;obtain⟨j,q⟩:=zE (m.alloc (Uj #[Ud rep,Ud (tk+1)] 83));have b3:Bl m j:=q▸zO _ _;have z3:j.heap.size=w.heap.size+3:=(by rw [<- q];simp;omega);have g:j.cell? (Ua (w.heap.size+2) 0)=Uq (Ud rep):=(by rw [<- q,<- L];simp);have o:j.cell? (Ua (w.heap.size+2) 1)=Uq (Ud (tk+1)):=(by rw [<- q,<- L];simp);have z:=bW.trans (b3.mono oM);have Q:=(b3.cell (p:=(Ua (w.heap.size+1) 0)) (show w.heap.size+1<m.heap.size by omega)).trans x0;have U:=(b3.cell (p:=(Ua (w.heap.size+1) 1)) (show w.heap.size+1<m.heap.size by omega)).trans K;have A:=(b3.frozen (p:=(Ua (w.heap.size+1) 0)) (show w.heap.size+1<m.heap.size by omega)).trans Z;have E:=(b3.frozen (p:=(Ua (w.heap.size+1) 1)) (show w.heap.size+1<m.heap.size by omega)).trans G;have P:=(b3.cell (p:=(Ub w.heap.size)) (show w.heap.size<m.heap.size by omega)).trans H;have O:=M.bw b3;clear M b3 y;go_wp2_with fail;try rw [q]
     clear q H P x0 K Z G;refine(Qg4 a k c R F T _ hn O).mono ?_;rintro e u ⟨rfl,b4⟩;rw [hcx];have z4:=b4.size;have V:=(b4.cell (p:=(Ua (w.heap.size+1) 0)) (show w.heap.size+1<j.heap.size by omega)).trans Q;have Y:=(b4.cell (p:=(Ua (w.heap.size+1) 1)) (show w.heap.size+1<j.heap.size by omega)).trans U;have I:=(b4.frozen (p:=(Ua (w.heap.size+1) 0)) (show w.heap.size+1<j.heap.size by omega)).trans A;have J:=(b4.frozen (p:=(Ua (w.heap.size+1) 1)) (show w.heap.size+1<j.heap.size by omega)).trans E;have C:=(b4.cell (p:=(Ua (w.heap.size+2) 0)) (show w.heap.size+2<j.heap.size by omega)).trans g;have D:=(b4.cell (p:=(Ua (w.heap.size+2) 1)) (show w.heap.size+2<j.heap.size by omega)).trans o;have N:=hid (Qaa z b4);clear Q U A E g o O b4 z hcx;go_wp2_with fail;refine(QnV rep (tk+1) _).mono ?_;rintro e w5 ⟨rfl,r⟩;rw [hdo];have Hb:=(r.cell (p:=(Ua (w.heap.size+1) 0)) (show w.heap.size+1<u.heap.size by omega)).trans V;have Hc:=(r.cell (p:=(Ua (w.heap.size+1) 1)) (show w.heap.size+1<u.heap.size by omega)).trans Y;have Hg:=(r.frozen (p:=(Ua (w.heap.size+1) 0)) (show w.heap.size+1<u.heap.size by omega)).trans I;have Hh:=(r.frozen (p:=(Ua (w.heap.size+1) 1)) (show w.heap.size+1<u.heap.size by omega)).trans J;have He:=(r.cell (p:=(Ua (w.heap.size+2) 0)) (show w.heap.size+2<u.heap.size by omega)).trans C;have Hf:=(r.cell (p:=(Ua (w.heap.size+2) 1)) (show w.heap.size+2<u.heap.size by omega)).trans D;have Ha:=hid (Qaa N r);clear V Y I J r hdo C D;go_wp2_with fail;refine zF (v:=Ul #[Uo #[Ud rep,Ud (tk+1)],Un true]) (by simp [results,results136,go_sem,Hb,Hc]) ⟨(fun _=>by rw [HT.out]),(fun h=>by have:=B.symm.trans h;cases this),?_⟩;exact(Ha.setCell oP _).setCell oP _
noncomputable def chF (S D:Sx):Bool:=jnF S D && (decide (D.l.length<=1000) && decide (D.n<=1000))
noncomputable def chX (S D:Sx):Sx:=if chF S D then jnS S D else Sx.mt
noncomputable def chY (S D:Sx):Sx:=if chF S D then D else Sx.mt
noncomputable def chC (S D:Sx):Int:=if chF S D then 0 else 4
theorem Qq0(h:chF S D=true):chX S D=jnS S D/\ chY S D=D/\ chC S D=0:=by unfold chX chY chC;rw [if_pos h,if_pos h,if_pos h];exact⟨rfl,rfl,rfl⟩
theorem QpC(h:chF S D=false):chX S D=Sx.mt/\ chY S D=Sx.mt/\ chC S D=4:=by unfold chX chY chC;rw [if_neg (by rw [h];simp),if_neg (by rw [h];simp),if_neg (by rw [h];simp)];exact⟨rfl,rfl,rfl⟩
noncomputable def ocC (S:Sx)(p:List ByteArray)(v:ByteArray):Int:=if stB S=true then(if yes (Qbb p/\ v.size<=200)=true then 0 else 2) else 1
theorem Qnt{v:ByteArray}(h:stB S=false):ocC S p v=1:=by unfold ocC;rw [if_neg (by rw [h];simp)]
theorem QkX{v:ByteArray}(h:stB S=true)(hn:¬(Qbb p/\ v.size<=200)):ocC S p v=2:=by unfold ocC;rw [if_pos h,if_neg (by rw [Qag hn];simp)]
theorem QoV{v:ByteArray}(h:stB S=true)(hn:Qbb p/\ v.size<=200):ocC S p v=0:=by unfold ocC;rw [if_pos h,if_pos (Qaj hn)]
theorem QlU{v:ByteArray}(h:ocC S p v=0):stB S=true/\ Qbb p/\ v.size<=200:=by
 cases hb:stB S with
 | false=>rw [Qnt hb] at h;cases h
 | true=>
  by_cases j:Qbb p/\ v.size<=200
  ·exact⟨rfl,j⟩
  ·rw [QkX hb j] at h;cases h
noncomputable def rmD (S:Sx)(p:List ByteArray):Sx:=dlS (gnR p) S.l []
noncomputable def rmX (S:Sx)(p:List ByteArray):Sx:=if ocC S p ⟨#[]⟩=0 then chX S (rmD S p) else Sx.mt
noncomputable def rmY (S:Sx)(p:List ByteArray):Sx:=if ocC S p ⟨#[]⟩=0 then chY S (rmD S p) else Sx.mt
noncomputable def rmC (S:Sx)(p:List ByteArray):Int:=if ocC S p ⟨#[]⟩=0 then chC S (rmD S p) else ocC S p ⟨#[]⟩
theorem Qq3(h:ocC S p ⟨#[]⟩=0):rmX S p=chX S (rmD S p)/\ rmY S p=chY S (rmD S p)/\ rmC S p=chC S (rmD S p):=by unfold rmX rmY rmC;rw [if_pos h,if_pos h,if_pos h];exact⟨rfl,rfl,rfl⟩
theorem Qqo(h:ocC S p ⟨#[]⟩≠0):rmX S p=Sx.mt/\ rmY S p=Sx.mt/\ rmC S p=ocC S p ⟨#[]⟩:=by unfold rmX rmY rmC;rw [if_neg h,if_neg h,if_neg h];exact⟨rfl,rfl,rfl⟩
theorem Qkh {R T:Nat ->Int}{rep:Int}:∀{n k:Nat},k<n ->R k=rep ->T k<=Qbn R T rep n
 | 0,k,h,_=>oM
 | n+1,k,h,e=>by
  have mono:Qbn R T rep n<=Qbn R T rep (n+1):=by
   show _<=(if R n=rep/\ Qbn R T rep n<T n then T n else Qbn R T rep n);split<;>omega
  by_cases j:k=n
  ·subst j;show _<=(if R k=rep/\ Qbn R T rep k<T k then T k else Qbn R T rep k);split
   ·omega
   ·next hn=>exact Int.not_lt.1 (fun hlt=>hn ⟨e,hlt⟩)
  ·exact Int.le_trans (Qkh oM e) mono
def QoT (S:Sx)(rep:Int):Prop:=(0<=rep/\ rep<8)/\ Qbn S.R S.T rep S.n+1<=1000000000
def nxY (S:Sx)(rep:Int)(p:List ByteArray)(fl:Bool)(v:ByteArray):Lf:=⟨p,fl,rep,Qbn S.R S.T rep S.n+1,v⟩
theorem QlT{fl:Bool}{v:ByteArray}(hs:Qba S.R S.F S.T S.n S.l)(hp:Qbb p)(hv:v.size<=200)(hf:fl=true ->emB v=true)(h:QoT S rep):PtO S [nxY S rep p fl v]:=by
 have g:=Qhy hs.1 rep;have z:=h.2;have u:=h.1;refine⟨oP,fun y hy=> ?_,fun y hy=> ?_,fun y hy hx=> ?_⟩
 ·rw [List.mem_singleton.1 hy];exact⟨hp,hv,hf⟩
 ·rw [List.mem_singleton.1 hy];unfold Rok dtR nxY;simp only;omega
 ·rw [List.mem_singleton.1 hy] at hx;obtain⟨k,q,j,r,m⟩:=Qdo S.R S.F S.T _ _ _ S.n hx;have:=Qkh (R:=S.R) (T:=S.T) (rep:=rep) q (by first|exact j|exact j.symm);unfold nxY at m;simp only at m;omega
section
variable {S : Sx} {rep : Int} {p : List ByteArray} {fl : Bool} {v : ByteArray}
end
noncomputable def cDR (g:Lf ->Prop)(l P:List Lf)(j k:Nat):List Rn:=unF [] ((goL g (l.take j)).map dtR++(P.take k).map dtR)
def cNR (S:Sx)(P:List Lf)(k:Nat):List Rn:=unF (flat S.R S.F S.T S.n) ((P.take k).map dtR)
noncomputable def cNL (g:Lf ->Prop)(l P:List Lf)(j k:Nat):List Lf:=(P.take k).foldl (fun o y=>Qc1 y o) (stL g (l.take j))
noncomputable def cDL (P:List Lf)(k:Nat):List Lf:=(P.take k).foldl (fun o y=>Qc1 y o) []
theorem QbQ(h:j<l.length):l.take (j+1)=l.take j++[gL l j]:=by
 rw [Vl,List.getElem?_eq_getElem h];simp [gL,UA,h]
theorem Qcx(h:x∈l.take j):x∈l:=List.mem_of_mem_take h
section
variable {g : Lf -> Prop} {l P : List Lf} {j k : Nat}
theorem QpU (h:j<l.length)(hg:g (gL l j)):goL g (l.take (j+1))=goL g (l.take j)++[gL l j]:=by
 unfold goL;rw [QbQ h,YW];congr 1;simp [Qaj hg]
theorem QpT (h:j<l.length)(hg:¬g (gL l j)):goL g (l.take (j+1))=goL g (l.take j):=by
 unfold goL;rw [QbQ h,YW];simp [Qag hg]
theorem Qqv (h:j<l.length)(hg:g (gL l j)):stL g (l.take (j+1))=stL g (l.take j):=by
 unfold stL;rw [QbQ h,YW];simp [Qaj hg]
theorem Qqu (h:j<l.length)(hg:¬g (gL l j)):stL g (l.take (j+1))=stL g (l.take j)++[gL l j]:=by
 unfold stL;rw [QbQ h,YW];congr 1;simp [Qag hg]
theorem QnI (h:j<l.length)(hg:g (gL l j)):cDR g l P (j+1) 0=ins (cDR g l P j 0) (dtR (gL l j)):=by
 unfold cDR;rw [QpU h hg,YX,UC,List.map_nil,VW,VW];exact QdI _ _ _
theorem QnK (h:j<l.length)(hg:¬g (gL l j)):cDR g l P (j+1) 0=cDR g l P j 0:=by unfold cDR;rw [QpT h hg]
theorem QnL (h:j<l.length)(hg:g (gL l j)):cNL g l P (j+1) 0=cNL g l P j 0:=by unfold cNL;rw [Qqv h hg]
theorem QnM (h:j<l.length)(hg:¬g (gL l j)):cNL g l P (j+1) 0=cNL g l P j 0++[gL l j]:=by
 unfold cNL;rw [Qqu h hg,YX];rfl
theorem Qm1 (h:k<P.length):cDR g l P j (k+1)=ins (cDR g l P j k) (dtR (gL P k)):=by
 unfold cDR;rw [QbQ h,UC,<- Vg];exact QdI _ _ _
theorem Qm7 {S:Sx}(h:k<P.length):cNR S P (k+1)=ins (cNR S P k) (dtR (gL P k)):=by
 unfold cNR;rw [QbQ h,UC];exact QdI _ _ _
theorem Qm5 (h:k<P.length):cNL g l P j (k+1)=Qc1 (gL P k) (cNL g l P j k):=by
 unfold cNL;rw [QbQ h,Yf];rfl
theorem Qmz (h:k<P.length):cDL P (k+1)=Qc1 (gL P k) (cDL P k):=by
 unfold cDL;rw [QbQ h,Yf];rfl
theorem QgI:cDR g l P l.length P.length=dlU g l P:=by unfold cDR dlU;rw [Vn,Vn]
theorem QgK {S:Sx}:cNR S P P.length=nxU S P:=by unfold cNR nxU;rw [Vn]
theorem QgJ:cNL g l P l.length P.length=nxL g l P:=by unfold cNL nxL;rw [Vn,Vn]
theorem QiP (h:P.length<=1):cDL P P.length=P:=by
 unfold cDL;rw [Vn];match P,h with
 | [],_=>rfl
 | [y],_=>rfl
 | _::_::_,h=>simp at h
theorem Qfw:∀(P o:List Lf),(P.foldl (fun o y=>Qc1 y o) o).length=o.length+P.length
 | [],o=>rfl
 | y::P,o=>by rw [Vf,Qfw P,QbL,Vq];omega
theorem Qm2:(cNL g l P j k).length<=l.length+P.length:=by
 unfold cNL;rw [Qfw];have m:(stL g (l.take j)).length<=(l.take j).length:=Yz _ _;rw [Vo] at m ⊢;omega
theorem Qmw:(cDL P k).length<=P.length:=by
 unfold cDL;rw [Qfw,Vo,Yr];omega
theorem Qm0:(cDR g l P j k).length<=l.length+P.length:=by
 have m:=Qdx ((goL g (l.take j)).map dtR++(P.take k).map dtR) [];have q:(goL g (l.take j)).length<=(l.take j).length:=Yz _ _;rw [UB,Vm,Vm,Vo,Yr] at m;rw [Vo] at q;show (unF [] _).length<=_;omega
theorem Qm6 {S:Sx}:(cNR S P k).length<=S.n+P.length:=by
 have j:=Qdx ((P.take k).map dtR) (flat S.R S.F S.T S.n);rw [Vm,Vo,QaV] at j;show (unF _ _).length<=_;omega
theorem Qm3 {z:Lf}(h:z∈cNL g l P j k):z∈l \/z∈P:=by
 unfold cNL at h;rcases (Qf7 (l:=l)).1 h with h|h
 ·exact .inl (Qcx (Qhv.1 h).1)
 ·exact .inr (Qcx h)
theorem Qmx {z:Lf}(h:z∈cDL P k):z∈P:=by
 unfold cDL at h;rcases (Qf7 (l:=P)).1 h with h|h
 ·cases h
 ·exact Qcx h
end
section
variable {g : Lf -> Prop} {S : Sx} {P : List Lf}
theorem QnJ (h:Qba S.R S.F S.T S.n S.l)(hp:PtO S P)(j k:Nat):Qcy (cDR g S.l P j k):=(Qd7 _ [] QlE (fun p m=>by
 refine QlB (g:=g) h hp p ?_;rcases List.mem_append.1 m with m|m
 ·obtain⟨x,q,rfl⟩:=List.mem_map.1 m;exact List.mem_append.2 (.inl (List.mem_map.2 ⟨x,Qdm.2 ⟨Qcx (Qdm.1 q).1,(Qdm.1 q).2⟩,rfl⟩))
 ·obtain⟨x,q,rfl⟩:=List.mem_map.1 m;exact List.mem_append.2 (.inr (List.mem_map.2 ⟨x,Qcx q,rfl⟩)))).1
theorem QnN (h:Qba S.R S.F S.T S.n S.l)(hp:PtO S P)(k:Nat):Qcy (cNR S P k):=(Qd7 _ _ (Qbh S.n (QcD h)) (fun p hq=>by
 obtain⟨x,j,rfl⟩:=List.mem_map.1 hq;exact hp.dot x (Qcx j))).1
theorem QlX {l:List Lf}(h:∀z∈l,1<=z.p.length/\ z.p.length<=8):∀i,i<l.length ->1<=(gL l i).p.length/\ (gL l i).p.length<=8:=fun i hi=>h _ (Qao.2 ⟨i,hi,rfl⟩)
theorem Qqg (h:Qba S.R S.F S.T S.n S.l):∀z∈S.l,1<=z.p.length/\ z.p.length<=8:=fun z hz=>by
 obtain⟨j,k,e⟩:=Qao.1 hz;have:=(h.2.2.1 j k).1;rw [e] at this;exact⟨this.1.1,this.1.2.1⟩
theorem PtO.pm (hp:PtO S P):∀z∈P,1<=z.p.length/\ z.p.length<=8:=fun z hz=>⟨(hp.ok z hz).1.1,(hp.ok z hz).1.2.1⟩
theorem Qm4 (h:Qba S.R S.F S.T S.n S.l)(hp:PtO S P)(j k:Nat):∀i,i<(cNL g S.l P j k).length ->1<=(gL (cNL g S.l P j k) i).p.length/\ (gL (cNL g S.l P j k) i).p.length<=8:=QlX fun z m=>by
 rcases Qm3 m with m|m
 ·exact Qqg h z m
 ·exact hp.pm z m
theorem Qmy (hp:PtO S P)(k:Nat):∀i,i<(cDL P k).length ->1<=(gL (cDL P k) i).p.length/\ (gL (cDL P k) i).p.length<=8:=QlX fun z hz=>hp.pm z (Qmx hz)
end
theorem QoO{ra:Option Us}{rc:Nat}{P Q:Nat ->Nat}(h:LC w lo (Uf (Uc g) l.length c) l P Q)(hf:FR w lo (Uf ra u.length rc) u):SNc w lo (Uc g) c ra (mkS l u):=⟨fun w' h1 h2=>by
 have k:=h.move h1 h2;have j:FR w' lo (Uf ra u.length rc) u:=Qap hf (fun q hq=>h2 q (World.ownsRow.lt hf q hq).1 (World.ownsRow.lt hf q hq).2);obtain⟨a,c',e,s,_,_⟩:=j.fs;injection e with e1 e2 e3;subst e1;exact⟨k.lcap rfl,s.rseg⟩,h.cp rfl⟩
structure CS (w wr:Ur)(t1 t2:Nat)(va0 va1:Value)(gD cD:Nat)(DL:List Lf)(DP DQ:Nat ->Nat)(vr1:Value)(DU:List Rn)(gN cN:Nat)(NL:List Lf)(NP NQ:Nat ->Nat)(vr2:Value)(NU:List Rn):Prop where
 low:Bl w wr
 a:Bx2 wr w.heap.size va0 va1
 r1:Bx2 wr (w.heap.size+1) Ue Ue
 r2:Bx2 wr (w.heap.size+1+1) Ue Ue
 d:Bx2 wr t1 (Uf (Uc gD) DL.length cD) vr1
 n:Bx2 wr t2 (Uf (Uc gN) NL.length cN) vr2
 ld:LC wr (w.heap.size+3) (Uf (Uc gD) DL.length cD) DL DP DQ
 ln:LC wr (w.heap.size+3) (Uf (Uc gN) NL.length cN) NL NP NQ
 fd:FR wr (w.heap.size+3) vr1 DU
 fn:FR wr (w.heap.size+3) vr2 NU
 h1:w.heap.size+3<=t1
 h2:w.heap.size+3<=t2
 h12:t1≠t2
 sd:gD≠t1/\ gD≠t2/\ gD≠gN
 sn:gN≠t1/\ gN≠t2
 s1:∀b,vr1.ownBlock=Uq b ->b≠t1/\ b≠t2/\ b≠gN
 s2:∀b,vr2.ownBlock=Uq b ->b≠t1/\ b≠t2/\ b≠gN
 pd:∀i,i<DL.length ->DP i≠t1/\ DP i≠t2
 pn:∀i,i<NL.length ->NP i≠t1/\ NP i≠t2
section
variable {w wr w1 : Ur} {t1 t2 : Nat} {va0 va1 : Value} {gD cD : Nat} {DL : List Lf} {DP DQ : Nat -> Nat} {vr1 : Value} {DU : List Rn} {gN cN : Nat} {NL : List Lf} {NP NQ : Nat -> Nat} {vr2 : Value} {NU : List Rn}
theorem CS.bw (h:CS w wr t1 t2 va0 va1 gD cD DL DP DQ vr1 DU gN cN NL NP NQ vr2 NU)(hb:Bl wr w1):CS w w1 t1 t2 va0 va1 gD cD DL DP DQ vr1 DU gN cN NL NP NQ vr2 NU:=
 ⟨h.low.trans (hb.mono h.low.size),h.a.bw hb h.a.lt,h.r1.bw hb h.r1.lt,h.r2.bw hb h.r2.lt,h.d.bw hb h.d.lt,h.n.bw hb h.n.lt,h.ld.bw hb,h.ln.bw hb,h.fd.bw hb,h.fn.bw hb,h.h1,h.h2,h.h12,h.sd,h.sn,h.s1,h.s2,h.pd,h.pn⟩
theorem QbB {a b:Nat}{n c:Nat}(h:a≠b):(Value.slice (Uc a) n c).ownBlock≠Uq b:=fun e=>h (by simpa [Value.ownBlock] using e)
theorem CS.setD1 {v:Value}{U:List Rn}(h:CS w wr t1 t2 va0 va1 gD cD DL DP DQ vr1 DU gN cN NL NP NQ vr2 NU)(hb:Bl wr w1)(hf:FR w1 wr.heap.size v U):CS w (w1.setCell (Ua t1 1) v) t1 t2 va0 va1 gD cD DL DP DQ v U gN cN NL NP NQ vr2 NU:=by
 have k:=h.bw hb;have m:=h.d.lt;have q:=h.n.lt;have r:=(h.ln.row.lt gN rfl).2;have u:=h.h1;have j:∀b,v.ownBlock=Uq b ->wr.heap.size<=b:=fun b e=>(World.ownsRow.lt hf b e).1;refine⟨k.low.setCell oQ _,k.a.setAt _ _ oQ,k.r1.setAt _ _ oQ,k.r2.setAt _ _ oQ,k.d.set1 _,k.n.setAt _ _ h.h12,k.ld.set _ _ (QbB h.sd.1) (fun i hi=>(h.pd i hi).1),k.ln.set _ _ (QbB h.sn.1) (fun i hi=>(h.pn i hi).1),(hf.weak oM).setFar _ _ (fun e=>by have:=j _ e;have:wr.heap.size<=t1:=this;omega),k.fn.setFar _ _ (fun e=>(h.s2 _ e).1 rfl),h.h1,h.h2,h.h12,h.sd,h.sn,fun b e=> ?_,h.s2,h.pd,h.pn⟩;have:=j b e;exact⟨oM,oM,oM⟩
theorem CS.setN1 {v:Value}{U:List Rn}(h:CS w wr t1 t2 va0 va1 gD cD DL DP DQ vr1 DU gN cN NL NP NQ vr2 NU)(hb:Bl wr w1)(hf:FR w1 wr.heap.size v U):CS w (w1.setCell (Ua t2 1) v) t1 t2 va0 va1 gD cD DL DP DQ vr1 DU gN cN NL NP NQ v U:=by
 have k:=h.bw hb;have m:=h.d.lt;have q:=h.n.lt;have r:=(h.ln.row.lt gN rfl).2;have u:=h.h2;have j:∀b,v.ownBlock=Uq b ->wr.heap.size<=b:=fun b e=>(World.ownsRow.lt hf b e).1;refine⟨k.low.setCell oQ _,k.a.setAt _ _ oQ,k.r1.setAt _ _ oQ,k.r2.setAt _ _ oQ,k.d.setAt _ _ (Ne.symm h.h12),k.n.set1 _,k.ld.set _ _ (QbB h.sd.2.1) (fun i hi=>(h.pd i hi).2),k.ln.set _ _ (QbB h.sn.2) (fun i hi=>(h.pn i hi).2),k.fd.setFar _ _ (fun e=>(h.s1 _ e).2.1 rfl),(hf.weak oM).setFar _ _ (fun e=>by have:=j _ e;have:wr.heap.size<=t2:=this;omega),h.h1,h.h2,h.h12,h.sd,h.sn,h.s1,fun b e=> ?_,h.pd,h.pn⟩;have:=j b e;exact⟨oM,oM,oM⟩
theorem QeR {g n c:Nat}{l:List Lf}{P Q:Nat ->Nat}{lo t:Nat}{n0 c0:Nat}{a0:Option Us}{u:Value}(h:LC w lo (Uf (Uc g) n c) l P Q)(hp:∀i,i<l.length ->1<=(gL l i).p.length)(hb:Bx2 w t (Uf a0 n0 c0) u):∀i,i<l.length ->P i≠t:=fun i hi e=>by
 have j:=(h.pt i hi).2.2.2.1.cell (i:=0) (oH (hp i hi));rw [e,hb.c0] at j;cases j
theorem CS.setD0 {g2 c2 n2:Nat}{l2:List Lf}{P2 Q2:Nat ->Nat}(h:CS w wr t1 t2 va0 va1 gD cD DL DP DQ vr1 DU gN cN NL NP NQ vr2 NU)(hb:Bl wr w1)(hl:LC w1 (w.heap.size+3) (Uf (Uc g2) n2 c2) l2 P2 Q2)(hn:n2=l2.length)(hg:wr.heap.size<=g2)(hp:∀i,i<l2.length ->1<=(gL l2 i).p.length):CS w (w1.setCell (Ub t1) (Uf (Uc g2) n2 c2)) t1 t2 va0 va1 g2 c2 l2 P2 Q2 vr1 DU gN cN NL NP NQ vr2 NU:=by
 subst hn;have k:=h.bw hb;have q:=h.d.lt;have r:=h.n.lt;have v:=(h.ln.row.lt gN rfl).2;have u:=h.h1;have j:=QeR hl hp k.d;have m:=QeR hl hp k.n;exact⟨k.low.setCell oQ _,k.a.setAt _ _ oQ,k.r1.setAt _ _ oQ,k.r2.setAt _ _ oQ,k.d.set0 _,k.n.setAt _ _ h.h12,hl.set _ _ (QbB (show g2≠t1 by omega)) j,k.ln.set _ _ (QbB h.sn.1) (fun i hi=>(h.pn i hi).1),k.fd.setFar _ _ (fun e=>(h.s1 _ e).1 rfl),k.fn.setFar _ _ (fun e=>(h.s2 _ e).1 rfl),h.h1,h.h2,h.h12,⟨oM,oM,oM⟩,h.sn,h.s1,h.s2,fun i hi=>⟨j i hi,m i hi⟩,h.pn⟩
theorem CS.setN0 {g2 c2 n2:Nat}{l2:List Lf}{P2 Q2:Nat ->Nat}(h:CS w wr t1 t2 va0 va1 gD cD DL DP DQ vr1 DU gN cN NL NP NQ vr2 NU)(hb:Bl wr w1)(hl:LC w1 (w.heap.size+3) (Uf (Uc g2) n2 c2) l2 P2 Q2)(hn:n2=l2.length)(hg:wr.heap.size<=g2)(hp:∀i,i<l2.length ->1<=(gL l2 i).p.length):CS w (w1.setCell (Ub t2) (Uf (Uc g2) n2 c2)) t1 t2 va0 va1 gD cD DL DP DQ vr1 DU g2 c2 l2 P2 Q2 vr2 NU:=by
 subst hn;have k:=h.bw hb;have q:=h.d.lt;have r:=h.n.lt;have v:=(h.ld.row.lt gD rfl).2;have u:=h.h2;have m:=QeR hl hp k.d;have j:=QeR hl hp k.n;refine⟨k.low.setCell oQ _,k.a.setAt _ _ oQ,k.r1.setAt _ _ oQ,k.r2.setAt _ _ oQ,k.d.setAt _ _ (Ne.symm h.h12),k.n.set0 _,k.ld.set _ _ (QbB h.sd.2.1) (fun i hi=>(h.pd i hi).2),hl.set _ _ (QbB (show g2≠t2 by omega)) j,k.fd.setFar _ _ (fun e=>(h.s1 _ e).2.1 rfl),k.fn.setFar _ _ (fun e=>(h.s2 _ e).2.1 rfl),h.h1,h.h2,h.h12,⟨h.sd.1,h.sd.2.1,oM⟩,⟨oM,oM⟩,fun b e=> ?_,fun b e=> ?_,h.pd,fun i hi=>⟨m i hi,j i hi⟩⟩
 ·have:=(World.ownsRow.lt h.fd b e).2;exact⟨(h.s1 b e).1,(h.s1 b e).2.1,oM⟩
 ·have:=(World.ownsRow.lt h.fn b e).2;exact⟨(h.s2 b e).1,(h.s2 b e).2.1,oM⟩
theorem CS.appN {y:Lf}{p pc:Nat}(h:CS w wr t1 t2 va0 va1 gD cD [] DP DQ vr1 DU gN cN NL NP NQ vr2 NU)(hb:Bl wr w1)(hk:NL.length<=1048576)(hy:1<=y.p.length)(hp:∀i,i<NL.length ->1<=(gL NL i).p.length)(hp1:wr.heap.size<=p)(hp2:p<w1.heap.size)(hw:Wr w1 p 9 y.p.length (fun t=> Um (gS y.p t)))(hpc:y.p.length<=pc/\ pc<=9223372036854775807):
  ∃m s u,(Builtin.append_ #[23,23] 23 #[Uf (Uc gN) NL.length cN,Uf (Uc w1.heap.size) 1 1]).run prog (w1.alloc (Uj #[Uf (Uc p) y.p.length pc,Un y.fl,Ud y.r,Ud y.q,Um y.v] 85))=.ok (Uf (Uc m) (NL.length+1) s) u/\ Bl w u/\ Bx2 u w.heap.size va0 va1/\ Bx2 u t2 (Uf (Uc gN) NL.length cN) vr2/\
   ∃P' Q',CS w (u.setCell (Ub t2) (Uf (Uc m) (NL.length+1) s)) t1 t2 va0 va1 gD cD [] DP DQ vr1 DU m s (NL++[y]) P' Q' vr2 NU:=by
 have k:=h.bw hb;have S:=h.low.size;have T:=hb.size;have W:=h.d.lt;have l2:=h.n.lt;have l3:=h.a.lt;have l4:=h.r1.lt;have l5:=h.r2.lt;have l6:=h.ln.row.lt gN rfl;have l7:=h.ld.row.lt gD rfl;have V:=h.h1;have Y:=h.h2;obtain⟨m,s,u,B,A,z⟩:=h.ln.app hb oM hk y p pc oM hp2 (fun e=>by simp [Value.ownBlock] at e;omega) hw hpc;have O:m=gN \/w1.heap.size<=m:=by
  rcases z.l with e|⟨b,e,P⟩
  ·exact .inl (by simpa [Value.ownBlock] using e)
  ·have F:m=b:=(by simpa [Value.ownBlock] using e);exact .inr oM
 have R:=(A.row.lt m rfl).2;have row:∀b,(Value.slice (Uc gN) NL.length cN).ownBlock=Uq b ->b=gN:=fun b e=>by
  have:gN=b:=by simpa [Value.ownBlock] using e
  exact this.symm
 have o:∀{b:Nat} {u0 u1:Value},Bx2 w1 b u0 u1 ->b≠gN ->Bx2 u b u0 u1:=fun hB hne=>hB.gr z.g (fun b e=>by rw [row b e];exact fun j=>hne j.symm);have Q:=o k.a oM;have N:=o k.r1 oM;have X:=o k.r2 oM;have U:=o k.d (fun e=>h.sn.1 e.symm);have M:=o k.n (fun e=>h.sn.2 e.symm);have J:FR u (w.heap.size+3) vr1 DU:=k.fd.gr z.g (fun b e j=>(h.s1 b e).2.2 (row b j.symm));have K:FR u (w.heap.size+3) vr2 NU:=k.fn.gr z.g (fun b e j=>(h.s2 b e).2.2 (row b j.symm));have L:LC u (w.heap.size+3) (Uf (Uc gD) ([]:List Lf).length cD) [] DP DQ:=⟨Qap k.ld.row (fun b e=>by
  have e:gD=b:=by simpa [Value.ownBlock] using e
  subst e;exact z.g.block gD oM (fun j=>h.sd.2.2 (row gD j.symm))),fun i hi=>by simp at hi⟩
 have H:Bl w u:=k.low.grown z.g k.low.size (fun b e=>by rw [row b e];omega);have G:∀i,i<(NL++[y]).length ->1<=(gL (NL++[y]) i).p.length:=fun i hi=>by
  by_cases e:i=NL.length
  ·rw [e,QeJ];exact hy
  ·have Z:i<NL.length:=(by simp at hi;omega);rw [QeK NL y Z];exact hp i Z
 have D:=QeR A G U;have I:=QeR A G M;have E:m≠t1/\ m≠t2/\ gD≠m:=by
  rcases O with e|e
  ·rw [e];exact⟨h.sn.1,h.sn.2,h.sd.2.2⟩
  ·exact⟨oM,oM,oM⟩
 have C:NL.length+1=(NL++[y]).length:=oP;refine⟨m,s,u,B,H,Q,M,(fun i=>if i=NL.length then p else NP i),(fun i=>if i=NL.length then pc else NQ i),?_⟩;rw [C] at A ⊢;refine⟨H.setCell oQ _,Q.setAt _ _ oQ,N.setAt _ _ oQ,X.setAt _ _ oQ,U.setAt _ _ (Ne.symm h.h12),M.set0 _,L.set _ _ (QbB h.sd.2.1) (fun i hi=>by simp at hi),A.set _ _ (QbB E.2.1) I,J.setFar _ _ (fun e=>(h.s1 _ e).2.1 rfl),K.setFar _ _ (fun e=>(h.s2 _ e).2.1 rfl),h.h1,h.h2,h.h12,⟨h.sd.1,h.sd.2.1,E.2.2⟩,⟨E.1,E.2.1⟩,fun b e=>⟨(h.s1 b e).1,(h.s1 b e).2.1,?_⟩,fun b e=>⟨(h.s2 b e).1,(h.s2 b e).2.1,?_⟩,fun i hi=>by simp at hi,fun i hi=>⟨D i hi,I i hi⟩⟩
 ·have:=(World.ownsRow.lt h.fd b e).2;rcases O with j|j
  ·rw [j];exact(h.s1 b e).2.2
  ·omega
 ·have:=(World.ownsRow.lt h.fn b e).2;rcases O with j|j
  ·rw [j];exact(h.s2 b e).2.2
  ·omega
end
abbrev Vd (S:Sx):Prop:=Qba S.R S.F S.T S.n S.l
def fS (S:Sx):List Rn:=flat S.R S.F S.T S.n
def Hs (S:Sx)(x:Lf):Prop:=RI (fS S) x.r x.q
theorem Qc2 (S:Sx):(fS S).length=S.n:=QaV _ _ _ _
theorem QmH {A B:Sx}:EqS A B↔A.l=B.l/\ fS A=fS B:=by
 constructor
 ·rintro⟨r,j,v⟩;refine⟨r,YU (by rw [Qc2,Qc2,j]) (fun i h4 h5=> ?_)⟩;have hi:i<A.n:=(Qc2 A)▸h4;obtain⟨k,m,q⟩:=v i hi;simp [fS,flat,k,m,q]
 ·rintro⟨r,j⟩;have u:A.n=B.n:=by rw [<- Qc2,<- Qc2,j]
  refine⟨r,u,fun i hi=> ?_⟩;have e:gR (fS A) i=gR (fS B) i:=by rw [j]
  unfold fS at e;rw [QgQ _ _ _ _ _ hi,QgQ _ _ _ _ _ (u▸hi)] at e;injection e with k e;injection e with m q;exact⟨k,m,q⟩
theorem EqS.refl (A:Sx):EqS A A:=QmH.2 ⟨rfl,rfl⟩
theorem Qml(h:Vd S):Qcy (fS S):=Qbh S.n (QcD h)
section
variable {S S' S2 : Sx}
end
def Ow (w:Ur)(lo:Nat)(l:List Lf)(P Q:Nat ->Nat):Prop:=∀i,i<l.length ->w.ownsRow lo 9 1 (Uf (Uq ⟨P i,0,Up⟩) (gL l i).p.length (Q i)) (gL l i).p.length (Qck (gL l i).p)
structure CpS (w wr:Ur)(va vx:Value)(g c:Nat)(l:List Lf)(P Q:Nat ->Nat):Prop where
 low:Bl w wr
 ab:Bx2 wr w.heap.size va vx
 rb:Bx2 wr (w.heap.size+1) Ue Ue
 ob:Bx2 wr (w.heap.size+1+1+1+1) (Uf (Uc g) l.length c) (Uf (Uq (Ua (w.heap.size+1+1+1) 0)) 0 0)
 lc:LC wr (w.heap.size+1+1) (Uf (Uc g) l.length c) l P Q
 q1:g=w.heap.size+1+1 \/w.heap.size+5<=g
 rn:wr.ownsRow (w.heap.size+1+1+1) 89 3 (Uf (Uq (Ua (w.heap.size+1+1+1) 0)) 0 0) 0 []
 pt:∀i,i<l.length ->w.heap.size+5<=P i
 ow:Ow wr (w.heap.size+1+1) l P Q
 sep:Sep P l.length
theorem CpS.bw{P Q:Nat ->Nat}(h:CpS w wr va vx g c l P Q)(hb:Bl wr w'):CpS w w' va vx g c l P Q:=
 ⟨Qaa h.low hb,h.ab.bw hb h.ab.lt,h.rb.bw hb h.rb.lt,h.ob.bw hb h.ob.lt,h.lc.bw hb,h.q1,Qap h.rn fun g hg=>hb.block g (h.rn.lt g hg).2,h.pt,fun i hi=>Qap (h.ow i hi) fun g hg=>hb.block g ((h.ow i hi).lt g hg).2,h.sep⟩
theorem Bx2.grw(h:Bx2 w b u0 u1)(hg:w.grownBy w' (Uq g))(hne:b≠g):Bx2 w' b u0 u1:=h.gr hg (fun k e=>by injection e with e;omega)
theorem CpS.step{P Q:Nat ->Nat}(h:CpS w wr va vx g c l P Q)(hb:Bl wr w1)(hk:l.length<=1048576)(y:Lf)(p pc:Nat)(hp1:wr.heap.size<=p)(hp2:p<w1.heap.size)(hw:Wr w1 p 9 y.p.length (fun t=> Um (gS y.p t)))(hpc:y.p.length<=pc/\ pc<=9223372036854775807)(ho:w1.ownsRow wr.heap.size 9 1 (Uf (Uc p) y.p.length pc) y.p.length (Qck y.p)):
  ∃u o j,(Builtin.append_ #[23,23] 23 #[Uf (Uc g) l.length c,Uf (Uc w1.heap.size) 1 1]).run prog (w1.alloc (Uj #[Uf (Uc p) y.p.length pc,Un y.fl,Ud y.r,Ud y.q,Um y.v] 85))=.ok (Uf (Uc u) (l.length+1) o) j/\
   Bl w j/\ Bx2 j w.heap.size va vx/\ Bx2 j (w.heap.size+1+1+1+1) (Uf (Uc g) l.length c) (Uf (Uq (Ua (w.heap.size+1+1+1) 0)) 0 0)/\
   ∃q cap P Q,CpS w (j.setCell (Ua (w.heap.size+1+1+1+1) 0) (Uf (Uc u) (l.length+1) o)) va vx q cap (l++[y]) P Q:=by
 have X:=h.ob.lt;have m:=h.bw hb;obtain⟨u,o,j,J,K,V⟩:=h.lc.app hb oM hk y p pc oM hp2 (fun e=>oH ((h.lc.lt p e.symm).2)) hw hpc;have s:w1.grownBy j (Uq g):=V.g;have B:=h.q1;have N:=(h.lc.lt g rfl).2;have C:=hb.size;have D:=s.size;have I:u=g \/w1.heap.size<=u:=by
  rcases V.l with e|⟨q,e,I⟩
  ·exact .inl (by simpa [Value.ownBlock] using e)
  ·have e:u=q:=(by simpa [Value.ownBlock] using e);exact .inr oM
 have A:∀b,b<w1.heap.size ->b≠g ->j.heap[b]? =w1.heap[b]? :=fun b m h2=>s.block b m (fun e=>h2 (by injection e));have O:=m.ab.grw s oM;have G:=m.rb.grw s oM;have U:=m.ob.grw s oM;have Z:Bl w j:=m.low.grown s m.low.size (fun k e=>oI e);have Y:∀i,i<(l++[y]).length ->w.heap.size+5<=(if i=l.length then p else P i)/\ (if i=l.length then p else P i)<j.heap.size:=fun i hi=>by
  by_cases e:i=l.length
  ·rw [if_pos e];exact⟨oM,oM⟩
  ·rw [if_neg e];have z:i<l.length:=(by simp at hi;omega);have:=(h.lc.pt i z).2.1;exact⟨h.pt i z,oM⟩
 have M:∀b,b≠w.heap.size+1+1+1+1 ->(j.setCell (Ua (w.heap.size+1+1+1+1) 0) (Uf (Uc u) (l.length+1) o)).heap[b]? =j.heap[b]? :=fun b hb2=>zH _ _ _ _ (oU hb2);have E:(l++[y]).length=l.length+1:=oP;refine⟨u,o,j,J,Z,O,U,u,o,(fun i=>if i=l.length then p else P i),(fun i=>if i=l.length then pc else Q i),Z.setCell oS _,O.setAt _ _ oS,G.setAt _ _ oS,?_,?_,oM,?_,fun i hi=>(Y i hi).1,fun i hi=> ?_,?_⟩
 ·rw [E];exact U.set0 _
 ·rw [E];exact K.set _ _ (fun e=>by have e:=Qbo e;simp only at e;omega) (fun i hi=>by have:=(Y i hi).1;simp only;omega)
 ·refine Qap m.rn (fun b hb2=> ?_);have e:w.heap.size+1+1+1=b:=by simpa [Value.ownBlock] using hb2
  exact(M b oM).trans (A b oM oM)
 ·by_cases e:i=l.length
  ·subst e;simp only [if_pos];rw [QeJ];refine QaW (Qap ho (fun b hb2=> ?_)) oM;have e:p=b:=(by simpa [Value.ownBlock] using hb2);exact(M b oM).trans (A b oM oM)
  ·have z:i<l.length:=(by simp at hi;omega);simp only [if_neg e];rw [QeK l y z];refine Qap (m.ow i z) (fun b hb2=> ?_);have e:P i=b:=(by simpa [Value.ownBlock] using hb2);obtain⟨_,L,H,_⟩:=h.lc.pt i z;have:=h.pt i z;exact(M b oM).trans (A b oM (fun e2=>H (by simp [Value.ownBlock];omega)))
 ·rw [E];exact h.sep.app (fun i hi=>oH ((h.lc.pt i hi).2.1))
theorem Qms{x:Option Us}(ho:wr.ownsRow B 89 3 (Uf (Uc q) 0 0) 0 [])(hB:B<=wr.heap.size)(hn:n<=1048576)(h:QaT wr x n R F T):
  ∃k z y,(Builtin.append_ #[24,24] 24 #[Uf (Uc q) 0 0,Uf x n d]).run prog wr=.ok (Uf (Uc k) n z) y/\ FR y B (Uf (Uc k) n z) (flat R F T n)/\ wr.grownBy y (Uq q)/\ (k=q \/k=wr.heap.size)/\ (0<n ->k=wr.heap.size):=by
 obtain⟨v,p,U,V,Y⟩:=info_parts Tryz.infoRun;have fl:(flat R F T n).length=n:=QaV _ _ _ _;rcases x with _|b
 ·obtain rfl:n=0:=by
   rcases h with h|⟨_,_,e,_⟩
   ·exact h
   ·cases e
  refine⟨q,0,wr,QcF wr _ _ _ v underlying24 p _ 0 0 d zL,?_,⟨rfl,rfl,rfl,Uv _,fun _ _ _=>rfl⟩,.inl rfl,fun h=>oM⟩;simpa [FR,flat,Qaf] using ho
 ·have O:∀j u,(Qaf (flat R F T n))[j]? =Uq u ->wr.cell? (b.add j)=Uq u:=by
   rcases h with rfl|⟨g,o,e,I,H⟩
   ·intro j u s;simp [flat,Qaf] at s
   ·injection e with e;subst e;exact QeW (.inr ⟨g,o,rfl,I,H⟩)
  have E:∀u∈Qaf (flat R F T n),u.oneCell'=true:=fun u hu=>by
   obtain⟨j,s⟩:=List.getElem?_of_mem hu;rcases (Qgk _ j u s).2 with ⟨_,e⟩|⟨_,e⟩|⟨_,e⟩<;>rw [e]<;>rfl
  have M:(Qaf (flat R F T n)).length=n*3:=by rw [Qdk,fl]
  obtain⟨v',y,i,t,Z,G,m⟩:=run_append_own_at (P:=prog) wr B 24 24 89 v _ 3 24 underlying24 p U V Y rfl oD (Uf (Uc q) 0 0) 0 [] ho b n d _ M O E oL oM hB;rcases t.2 with ⟨A,_⟩|⟨k,z,L,A,r⟩
  ·have:=G.1 A;exact absurd this.1 oP
  rw [A] at i t m;rw [VS] at i t;refine⟨k,z,y,i,?_,Z,?_,fun h0=> ?_⟩
  ·show y.ownsRow B 89 3 _ (flat R F T n).length (Qaf (flat R F T n));rw [fl];simpa using t
  ·rcases m with m|m
   ·exact .inl (by simpa [Value.ownBlock] using m)
   ·exact .inr (by simpa [Value.ownBlock] using m)
  ·have J:(Builtin.firstCells v.size 0 (Uf (Uc q) 0 0)).run prog wr.drew=.ok #[] wr.drew:=run_firstCells_some (P:=prog) wr.drew v.size 0 (Ub q) 0 0 [] oP (fun j u hu=>by simp at hu);have K:Src prog v.size 24 (Uf (Uq b) n d) n (Qaf (flat R F T n)) wr:=Src.ofSlice wr underlying24 b n d _ (by rw [M,V]) O E;have Q:=run_append_grow_src (P:=prog) (w:=wr) 24 24 24 89 v _ underlying24 p U (Uc q) 0 0 [] J (Uf (Uq b) n d) n _ K oM oM (growslice_fits oM (by rw [Y];omega));rw [i] at Q;injection Q with e1 e2;injection e1 with e1 _ _;injection e1 with e1;injection e1
theorem CpS.start (w:Ur)(va vx:Value):
  CpS w (((((w.alloc (Uj #[va,vx] 28)).alloc (Uj #[Ue,Ue] 28)).alloc (Uj #[] 85)).alloc (Uj #[] 89)).alloc (Uj #[Uf (Uq (Ua (w.heap.size+1+1) 0)) 0 0,Uf (Uq (Ua (w.heap.size+1+1+1) 0)) 0 0] 28)) va vx (w.heap.size+1+1) 0 [] (fun _=>0) (fun _=>0):=by
 obtain⟨w1,u⟩:=zE (w.alloc (Uj #[va,vx] 28));have A:w1.heap.size=w.heap.size+1:=u▸oP;have O:Bx2 w1 w.heap.size va vx:=u▸Bx2.made _ _ _ _;have U:Bl w w1:=u▸zO _ _;rw [u];obtain⟨k,q⟩:=zE (w1.alloc (Uj #[Ue,Ue] 28));have E:k.heap.size=w.heap.size+1+1:=by rw [<- q];simp [A]
 have h:Bx2 k w.heap.size va vx:=q▸O.allocs _;have b:Bx2 k (w.heap.size+1) Ue Ue:=by rw [<- q,<- A];exact Bx2.made _ _ _ _
 have V:Bl w k:=q▸U.alloc oM _;rw [q];obtain⟨m,v⟩:=zE (k.alloc (Uj #[] 85));have M:m.heap.size=w.heap.size+1+1+1:=by rw [<- v];simp [E]
 have b3:Bl k m:=v▸zO _ _;have Q:LC m (w.heap.size+1+1) (Uf (Uq (Ua (w.heap.size+1+1) 0)) 0 0) [] (fun _=>0) (fun _=>0):=by
  refine⟨?_,fun i hi=>by simp at hi⟩;rw [<- v,<- E];have:=VF (base:=k.heap.size) (e:=85) (size:=5) k #[] 0 zL oL rfl;simpa using this
 rw [v];obtain⟨r,y⟩:=zE (m.alloc (Uj #[] 89));have Y:r.heap.size=w.heap.size+1+1+1+1:=by rw [<- y];simp [M]
 have b4:Bl m r:=y▸zO _ _;have t:r.ownsRow (w.heap.size+1+1+1) 89 3 (Uf (Uq (Ua (w.heap.size+1+1+1) 0)) 0 0) 0 []:=by
  rw [<- y,<- M];have:=VF (base:=m.heap.size) (e:=89) (size:=3) m #[] 0 zL oL rfl;simpa using this
 rw [y];have s:∀o,Bl r (r.alloc o):=fun o=>zO _ o;have p:=fun o=>Qaa b4 (s o);have z:=fun o=>Qaa b3 (p o);refine⟨Qaa V (z _),h.bw (z _) h.lt,b.bw (z _) b.lt,?_,Q.bw (p _),.inl rfl,Qap t fun g hg=>(s _).block g (t.lt g hg).2,fun i hi=>by simp at hi,fun i hi=>by simp at hi,fun i j hi=>by simp at hi⟩;rw [<- Y];exact Bx2.made _ _ _ _
structure Cpd (w w':Ur)(S:Sx)(g c gx cx:Nat)(P Q:Nat ->Nat):Prop where
 lc:LC w' w.heap.size (Uf (Uc g) S.l.length c) S.l P Q
 ow:Ow w' w.heap.size S.l P Q
 sep:Sep P S.l.length
 fr:FR w' w.heap.size (Uf (Uc gx) S.n cx) (fS S)
 gn:g≠gx
 pn:∀i,i<S.l.length ->P i≠gx
 up:0<S.n ->g<gx/\∀i,i<S.l.length ->P i<gx
 low:Bl w w'
theorem Qf5 (a x:Option Us)(c d:Nat)(S:Sx)(w:Ur)(hm:S.Sm)(hpl:∀i,i<S.l.length ->1<=(gL S.l i).p.length)(h:SCt w a x S):
  Cl 19 #[Uo #[Uf a S.l.length c,Uf x S.n d]] w fun e w'=>∃g cg gx cx P Q,e=Ui (Uo #[Uf (Uc g) S.l.length cg,Uf (Uc gx) S.n cx])/\ Cpd w w' S g cg gx cx P Q:=by
 have HA:=hid h.lf;have H4:=hid h.rn;have H6:=hm.l1;have H7:=hm.n1;have H2:=hid hm.p1;have H3:=hid hpl;have Hs:=hid (CpS.start w (Uf a S.l.length c) (Uf x S.n d));clear h hpl;go_enter func19,ntmps19;go_wp2_with fail;go_loopw [4] (fun i wr=>∃(j:Nat),j<=S.l.length/\ i=Ud (j:Int)/\ Hid (∃q cap P Q,CpS w wr (Uf a S.l.length c) (Uf x S.n d) q cap (S.l.take j) P Q)) (fun i _=>S.l.length - (intOf i).toNat);case atStart=>exact⟨0,Ux _,rfl,hid ⟨_,_,_,_,Hs⟩⟩
 case round=>
  clear Hs;obtain⟨j,hj,rfl,HI⟩:=hrel;obtain⟨q,cap,P,Q,Z⟩:=HI.out;have Hp:(S.l.take j).length=j:=oS;have Hk:=hid Hp;have s:=hid Z;obtain⟨a0,a1⟩:=Z.ab.q2;obtain⟨o0,o1⟩:=Z.ob.q2;rw [Hp] at o0;clear Z HI Hp;by_cases Hf:j<S.l.length
  ·have i1:(0:Int)<=(j:Int):=UI _;have i2:(j:Int)<(S.l.length:Int):=oM;obtain⟨u,M,rfl,He,Hv⟩:=(HA).resolve_left oM;obtain⟨Ge,pc,⟨z,d0⟩,sg,c1,c2,c3,c4⟩:=Hv j Hf;have H9:=H3 j Hf;obtain⟨pb,po,rfl,Hn,Hy⟩:=sg.resolve_left oM;have Ht:Hid (S.l.take j++[gL S.l j]=S.l.take (j+1)):=hid (by
    rw [Vl];congr 1;simp [gL,UA,Hf])
   have B:Hid (∀w1 p V,Bl wr w1 ->wr.heap.size<=p ->p<w1.heap.size ->Wr w1 p 9 (gL S.l j).p.length (fun t=> Um (gS (gL S.l j).p t)) ->((gL S.l j).p.length<=V/\ V<=9223372036854775807) ->w1.ownsRow wr.heap.size 9 1 (Uf (Uc p) (gL S.l j).p.length V) (gL S.l j).p.length (Qck (gL S.l j).p) ->∃q' Hc w3,(Builtin.append_ #[23,23] 23 #[Uf (Uc q) j cap,Uf (Uc w1.heap.size) 1 1]).run prog (w1.alloc (Uj #[Uf (Uc p) (gL S.l j).p.length V,Un (gL S.l j).fl,Ud (gL S.l j).r,Ud (gL S.l j).q,Um (gL S.l j).v] 85))=.ok (Uf (Uc q') (j+1) Hc) w3/\
    Bl w w3/\ Bx2 w3 w.heap.size (Uf (Uq (Ua u M)) S.l.length c) (Uf x S.n d)/\ Bx2 w3 (w.heap.size+1+1+1+1) (Uf (Uc q) j cap) (Uf (Uq (Ua (w.heap.size+1+1+1) 0)) 0 0)/\
    ∃q cap P Q,CpS w (w3.setCell (Ua (w.heap.size+1+1+1+1) 0) (Uf (Uc q') (j+1) Hc)) (Uf (Uq (Ua u M)) S.l.length c) (Uf x S.n d) q cap (S.l.take (j+1)) P Q):=hid (fun w1 p V hb h1 h2 h3 h4 D=>by
    have:=s.step hb (by rw [Hk.out];omega) (gL S.l j) p V h1 h2 h3 h4 D;rw [Hk.out,Ht.out] at this;exact this)
   have X:Hid (∀w1,Bl wr w1 ->Cl 41 #[Uo #[Uf (Uq (Ua pb po)) (gL S.l j).p.length pc,Un (gL S.l j).fl,Ud (gL S.l j).r,Ud (gL S.l j).q,Um (gL S.l j).v]] w1 fun e w'=>∃q cap,e=Ui (Uo #[Uf (Uc q) (gL S.l j).p.length cap,Un (gL S.l j).fl,Ud (gL S.l j).r,Ud (gL S.l j).q,Um (gL S.l j).v])/\ Bl w1 w'/\ w1.heap.size<=q/\ q<w'.heap.size/\ Wr w' q 9 (gL S.l j).p.length (fun t=> Um (gS (gL S.l j).p t))/\ (gL S.l j).p.length<=cap/\ cap<=9223372036854775807/\ w'.ownsRow w1.heap.size 9 1 (Uf (Uc q) (gL S.l j).p.length cap) (gL S.l j).p.length (Qck (gL S.l j).p)):=hid (fun w1 hb=>by
    have b2:=Qaa s.low hb;exact Qhd pb po (gL S.l j).p.length pc (gL S.l j) w1 rfl (H2 j) (Ut Hn b2.size) (fun t ht=>(b2.cell (p:=(Ua pb (po+t))) Hn).trans (Hy t ht)))
   have N:Hid (∀w',Bl w w' ->w'.cell? (Ua u (M+j*5))=Uq (Uf (Uq (Ua pb po)) (gL S.l j).p.length pc)/\ w'.cell? (Ua u (M+j*5+1))=Uq (Un (gL S.l j).fl)/\ w'.cell? (Ua u (M+j*5+2))=Uq (Ud (gL S.l j).r)/\ w'.cell? (Ua u (M+j*5+3))=Uq (Ud (gL S.l j).q)/\ w'.cell? (Ua u (M+j*5+4))=Uq (Um (gL S.l j).v)):=hid (fun w' b=>⟨(b.cell (p:=(Ua u _)) He).trans z,(b.cell (p:=(Ua u _)) He).trans c1,(b.cell (p:=(Ua u _)) He).trans c2,(b.cell (p:=(Ua u _)) He).trans c3,(b.cell (p:=(Ua u _)) He).trans c4⟩);obtain⟨z,c1,c2,c3,c4⟩:=N wr s.low;obtain⟨y,hy⟩:=zE (gL S.l j);rw [hy] at z c1 c2 c3 c4 X B N;obtain⟨yp,yf,yr,yq,yv⟩:=y;dsimp only at z c1 c2 c3 c4 X B N;obtain⟨np,Hw⟩:=zE yp.length;rw [Hw] at z X B N;clear hy Hw Hv sg Hy Hn He d0 H9 Ht;go_wp2_with fail;have A:Hid (∀w',Bl w w' ->w'.cell? (Ub w.heap.size)=Uq (Uf (Uq (Ua u M)) S.l.length c) ->(Bl w w'/\ w'.cell? (Ub w.heap.size)=Uq (Uf (Uq (Ua u M)) S.l.length c)/\ w'.cell? (Ua u (M+j*5))=Uq (Uf (Uq (Ua pb po)) np pc)/\ w'.cell? (Ua u (M+j*5+1))=Uq (Un yf)/\ w'.cell? (Ua u (M+j*5+2))=Uq (Ud yr)/\ w'.cell? (Ua u (M+j*5+3))=Uq (Ud yq)/\ w'.cell? (Ua u (M+j*5+4))=Uq (Um yv))):=hid (fun w' hB h0=>⟨hB,h0,N w' hB⟩);refine zB A s.low.drew (s.ab.bw zI.drew s.ab.lt).c0 (fun qh=> ?_);clear z c1 c2 c3 c4;refine tZ 0 16 ?_;refine tZ 2 18 ?_;refine tZ 3 19 ?_;refine tZ 4 20 ?_;refine tZ 5 21 ?_;refine tZ 6 22 ?_;refine QaK (i:=1) (j:=7) (d:=Uq 17) (d':=Uq 23) oK oK oK ?_ ?_
   ·
    intro o G Hm K m;simp only [gZa,gZb,gZc,gZd] at G;subst G;go_simp;refine m.out _ _ (A _ s.low.drew (s.ab.bw zI.drew s.ab.lt).c0) (fun qh=> ?_);clear m K;try simp only [zP]
    refine cZ 7 ?_;intro K m;go_simp;refine(X _ zI.drew).mono ?_;rintro e w1 ⟨p,V,rfl,E,p1,W,Hh,q1,H,Hg⟩;have C:Bl wr w1:=⟨E.os,E.tape,E.output,E.size,E.block⟩;have O:=s.bw C;have U:=O.bw (zO w1 (Uj #[Uf (Uc p) np V,Un yf,Ud yr,Ud yq,Um yv] 85));obtain⟨q',Hc,w3,J,l3,A3,I,D⟩:=B w1 p V C p1 W Hh ⟨q1,H⟩ Hg;have Hd:=hid D;refine m.out _ _ (A _ O.low O.ab.c0) (fun qh=> ?_);clear m K;try simp only [zP]
    refine cZ 8 ?_;intro K m;go_simp;refine m.out _ _ (A _ U.low U.ab.c0) (fun qh=> ?_);clear m K;try simp only [zP]
    refine cZ 9 ?_;intro K m;refine Qbg _ _ _ _ rfl J (by rfl) (by rfl) rfl ?_;refine m.out _ _ (A _ l3 A3.c0) (fun qh=> ?_);clear m K;try simp only [zP]
    refine tZ 10 26 ?_;have L:=I.c0;have tf:=I.f;refine cZ 11 ?_;intro K m;go_simp;obtain⟨_,_,_,_,Y⟩:=Hd.out;refine m.out _ _ (A _ Y.low Y.ab.c0) (fun qh=> ?_);clear m K;try simp only [zP]
    refine zD ?_;clear qh E C O U J l3 A3 I D Y L tf Hh p1 W B X N A q1 H Hg;go_wp2_with fail;go_roundw;case rel=>exact⟨j+1,Hf,oN,Hd⟩
    case measure=>exact oE
   ·
    intro o G Hm K m;simp only [gZa,gZb,gZc,gZd] at G;subst G;go_simp;refine(X _ zI.drew).mono ?_;rintro e w1 ⟨p,V,rfl,E,p1,W,Hh,q1,H,Hg⟩;have C:Bl wr w1:=⟨E.os,E.tape,E.output,E.size,E.block⟩;have O:=s.bw C;have U:=O.bw (zO w1 (Uj #[Uf (Uc p) np V,Un yf,Ud yr,Ud yq,Um yv] 85));obtain⟨q',Hc,w3,J,l3,A3,I,D⟩:=B w1 p V C p1 W Hh ⟨q1,H⟩ Hg;have Hd:=hid D;refine m.out _ _ (A _ O.low O.ab.c0) (fun qh=> ?_);clear m K;try simp only [zP]
    refine QaK (i:=1) (j:=8) (d:=Uq 17) (d':=Uq 24) oK oK oK ?_ ?_
    ·
     have L:=O.ob.c0;intro o G Hm K m;simp only [gZa,gZb,gZc,gZd] at G;subst G;go_simp;refine m.out _ _ (A _ O.low O.ab.c0) (fun qh=> ?_);clear m K;try simp only [zP]
     clear L;refine cZ 8 ?_;intro K m;go_simp;refine m.out _ _ (A _ U.low U.ab.c0) (fun qh=> ?_);clear m K;try simp only [zP]
     refine cZ 9 ?_;intro K m;refine Qbg _ _ _ _ rfl J (by rfl) (by rfl) rfl ?_;refine m.out _ _ (A _ l3 A3.c0) (fun qh=> ?_);clear m K;try simp only [zP]
     refine tZ 10 26 ?_;have L:=I.c0;have tf:=I.f;refine cZ 11 ?_;intro K m;go_simp;obtain⟨_,_,_,_,Y⟩:=Hd.out;refine m.out _ _ (A _ Y.low Y.ab.c0) (fun qh=> ?_);clear m K;try simp only [zP]
     refine zD ?_;clear qh E C O U J l3 A3 I D Y L tf Hh p1 W B X N A q1 H Hg;go_wp2_with fail;go_roundw;case rel=>exact⟨j+1,Hf,oN,Hd⟩
     case measure=>exact oE
    ·
     intro o G Hm K m;simp only [gZa,gZb,gZc,gZd] at G;subst G;go_simp;refine m.out _ _ (A _ U.low U.ab.c0) (fun qh=> ?_);clear m K;try simp only [zP]
     have L:=U.ob.c0;refine cZ 1 ?_;intro K m;go_simp;refine m.out _ _ (A _ U.low U.ab.c0) (fun qh=> ?_);clear m K;try simp only [zP]
     clear L;refine cZ 9 ?_;intro K m;refine Qbg _ _ _ _ rfl J (by rfl) (by rfl) rfl ?_;refine m.out _ _ (A _ l3 A3.c0) (fun qh=> ?_);clear m K;try simp only [zP]
     refine tZ 10 26 ?_;have L:=I.c0;have tf:=I.f;refine cZ 11 ?_;intro K m;go_simp;obtain⟨_,_,_,_,Y⟩:=Hd.out;refine m.out _ _ (A _ Y.low Y.ab.c0) (fun qh=> ?_);clear m K;try simp only [zP]
     refine zD ?_;clear qh E C O U J l3 A3 I D Y L tf Hh p1 W B X N A q1 H Hg;go_wp2_with fail;go_roundw;case rel=>exact⟨j+1,Hf,oN,Hd⟩
     case measure=>exact oE
  ·obtain rfl:j=S.l.length:=oM;have Hu:QaT wr x S.n S.R S.F S.T:=H4.bw s.low;have Gb:=s.ob.lt;obtain⟨H,Hl,w5,J,Hx,Hb,Ho,Hz⟩:=Qms (d:=d) s.rn oM H7 Hu;have O5:=s.ob.grw Hb oM;have R5:=s.rb.grw Hb oM;obtain⟨b0,E,bf⟩:=O5.p2;obtain⟨r0,r1,rf⟩:=R5.p2;rw [Hk.out] at b0;have Hj:Hid (∀b,b<wr.heap.size ->b≠w.heap.size+1+1+1 ->w5.heap[b]? =wr.heap[b]?):=hid (fun b h1 h2=>Hb.block b h1 (fun e=>h2 (by injection e)));have H1:=hid Hx;have H0:=hid Hb;have Hr:=hid (And.intro Ho Hz);have H5:Hid (wr.heap.size<=w5.heap.size):=hid Hb.size;clear Hx Hb Ho Hz O5 R5 Hu;go_wp2_with (at_builtin;refine Qab rfl _ _ _ _ rfl J (by rfl) (by rfl) rfl ?_;clear J);have Gd:=H5.out;have Ho:=Hr.1;have Gc:=s.q1;have Ga:=(s.lc.lt q rfl).2;have Ha:∀(v0 v1 v2:Value) (b:Nat),b≠w.heap.size+1 ->b≠w.heap.size+1+1+1+1 ->(((w5.setCell (Ua (w.heap.size+1+1+1+1) 1) v0).setCell (Ua (w.heap.size+1) 0) v1).setCell (Ua (w.heap.size+1) 1) v2).heap[b]? =w5.heap[b]? :=fun v0 v1 v2 b h1 h2=>by
    rw [zH _ _ _ _ (oU h1),zH _ _ _ _ (oU h1),zH _ _ _ _ (oU h2)]
   have Hq:Bl w w5:=s.low.grown H0 s.low.size (fun k e=>oI e);have H8:S.l.take S.l.length=S.l:=oP;have Z:CpS w wr (Uf a S.l.length c) (Uf x S.n d) q cap S.l P Q:=(by have:=s.out;rw [H8] at this;exact this);have Hi:∀i,i<S.l.length ->w.heap.size+5<=P i/\ P i<wr.heap.size:=fun i hi=>⟨Z.pt i hi,(Z.lc.pt i hi).2.1⟩;refine zF (v:=Uo #[Uf (Uc q) S.l.length cap,Uf (Uc H) S.n Hl]) (by simp [results,results19,go_sem,r0,r1]) ⟨_,_,_,_,P,Q,rfl,?_,?_,Z.sep,?_,oM,fun i hi=>oH (Hi i hi),fun h0=> ?_,?_⟩
   ·refine⟨QaW (Qap Z.lc.row (fun b hb=> ?_)) oM,fun i hi=> ?_⟩
    ·have e:q=b:=(by simpa [Value.ownBlock] using hb);exact(Ha _ _ _ b oM oM).trans (Hj b oM oM)
    ·obtain⟨e1,e2,e3,e4,e5⟩:=Z.lc.pt i hi;have:=Hi i hi;exact⟨oM,by simp [UL];omega,e3,e4.same ((Ha _ _ _ _ oM oM).trans (Hj _ oM oM)),e5⟩
   ·intro i hi;refine QaW (Qap (Z.ow i hi) (fun b hb=> ?_)) oM;have e:P i=b:=(by simpa [Value.ownBlock] using hb);have:=Hi i hi;exact(Ha _ _ _ b oM oM).trans (Hj b oM oM)
   ·refine QaW (Qap H1 (fun b hb=> ?_)) oM;have e:H=b:=(by simpa [Value.ownBlock] using hb);exact Ha _ _ _ b oM oM
   ·have:=Hr.2 h0;exact⟨oM,fun i hi=>oH (Hi i hi)⟩
   ·exact((Hq.setCell oS _).setCell oP _).setCell oP _
theorem QqA {G T:Prop}(h:Hid T ->G)(k:T):G:=h k
theorem Qei (gn:Lf ->Prop)(P:List Lf)(a:Option Us)(c:Nat)(xa:Option Us)(d gg gc:Nat)(pa:Option Us)(ppc:Nat)(S:Sx)(w:Ur)(hs:Qba S.R S.F S.T S.n S.l)(hP:PtO S P)(h1:QbY w a S.l)(h3:QaT w xa S.n S.R S.F S.T)(hgg:gg<w.heap.size)(hgo:∀i,i<S.l.length ->w.cell? (Ua gg i)=Uq (Un (yes (gn (gL S.l i)))))(h2:QbY w pa P):
  Cl 117 #[Uo #[Uf a S.l.length c,Uf xa S.n d],Uf (Uc gg) S.l.length gc,Uf pa P.length ppc] w fun e w'=>∃a m x t a' m' x' t',e=Ui (Ul #[Uo #[Uf a (chX S (dlS gn S.l P)).l.length m,Uf x (chX S (dlS gn S.l P)).n t],Uo #[Uf a' (chY S (dlS gn S.l P)).l.length m',Uf x' (chY S (dlS gn S.l P)).n t'],Ud (chC S (dlS gn S.l P))])/\ SNc w' w.heap.size a m x (chX S (dlS gn S.l P))/\ SNc w' w.heap.size a' m' x' (chY S (dlS gn S.l P))/\ Bl w w':=by
 obtain⟨z,Gu⟩:=zE (((w.alloc (Uj #[Uf a S.l.length c,Uf xa S.n d] 28)).alloc (Uj #[Ue,Ue] 28)).alloc (Uj #[Ue,Ue] 28));obtain⟨W,hW⟩:=zE ((((z.alloc (Uj #[] 85)).alloc (Uj #[] 89)).alloc (Uj #[Uf (Uc z.heap.size) 0 0,Uf (Uq (Ua (z.heap.size+1) 0)) 0 0] 28)).alloc (Uj #[] 85));have zA:z.heap.size=w.heap.size+1+1+1:=Gu▸oP;have bA:Bl w z:=Gu▸(Qad _ _ _).alloc oS _;have al:∀(v:Ur) (o:Obj),Bl v (v.alloc o):=fun v o=>zO _ _;have Kk:Bl z W:=by rw [<- hW];exact(Qaa (Qaa (Qaa (al _ _) (al _ _)) (al _ _)) (al _ _))
 have b0:Bl w W:=Qaa bA Kk;have zW:W.heap.size=w.heap.size+7:=by rw [<- hW];simp;omega
 have A0:Bx2 W w.heap.size (Uf a S.l.length c) (Uf xa S.n d):=by
  have:Bx2 z w.heap.size (Uf a S.l.length c) (Uf xa S.n d):=Gu▸((Bx2.made w _ _ _).allocs _).allocs _;exact this.bw Kk this.lt
 have J2:Bx2 W (w.heap.size+1) Ue Ue:=by
  have:Bx2 z (w.heap.size+1) Ue Ue:=by
   rw [<- Gu];have:=Bx2.made (w.alloc (Uj #[Uf a S.l.length c,Uf xa S.n d] 28)) Ue Ue 28;exact(by simpa using this:Bx2 _ (w.heap.size+1) _ _).allocs _
  exact this.bw Kk this.lt
 have J3:Bx2 W (w.heap.size+1+1) Ue Ue:=by
  have:Bx2 z (w.heap.size+1+1) Ue Ue:=by
   rw [<- Gu];simpa using Bx2.made ((w.alloc (Uj #[Uf a S.l.length c,Uf xa S.n d] 28)).alloc (Uj #[Ue,Ue] 28)) Ue Ue 28
  exact this.bw Kk this.lt
 have J0:LC W (w.heap.size+3) (Uf (Uc z.heap.size) 0 0) [] (fun _=>0) (fun _=>0):=by
  refine⟨?_,fun i hi=>by simp at hi⟩;have q:=VF (base:=w.heap.size+3) (e:=85) (size:=5) z #[] 0 oM oL rfl;have q3:=((World.ownsRow.alloc q (Uj #[] 89)).alloc (Uj #[Uf (Uc z.heap.size) 0 0,Uf (Uq (Ua (z.heap.size+1) 0)) 0 0] 28)).alloc (Uj #[] 85);rw [hW] at q3;exact q3
 have Js:FR W (w.heap.size+3) (Uf (Uq (Ua (z.heap.size+1) 0)) 0 0) []:=by
  have q:=VF (base:=w.heap.size+3) (e:=89) (size:=3) (z.alloc (Uj #[] 85)) #[] 0 oS oL rfl;have zz:(z.alloc (Uj #[] 85)).heap.size=z.heap.size+1:=oP;rw [zz] at q;have q3:=(World.ownsRow.alloc q (Uj #[Uf (Uc z.heap.size) 0 0,Uf (Uq (Ua (z.heap.size+1) 0)) 0 0] 28)).alloc (Uj #[] 85);rw [hW] at q3;exact q3
 have D0:Bx2 W (z.heap.size+1+1) (Uf (Uc z.heap.size) 0 0) (Uf (Uq (Ua (z.heap.size+1) 0)) 0 0):=by
  have q:=Bx2.made ((z.alloc (Uj #[] 85)).alloc (Uj #[] 89)) (Uf (Uc z.heap.size) 0 0) (Uf (Uq (Ua (z.heap.size+1) 0)) 0 0) 28;have zz:((z.alloc (Uj #[] 85)).alloc (Uj #[] 89)).heap.size=z.heap.size+1+1:=oP;rw [zz] at q;have q3:=q.allocs (Uj #[] 85);rw [hW] at q3;exact q3
 have J1:LC W (w.heap.size+3) (Uf (Uq (Ua (z.heap.size+1+1+1) 0)) 0 0) [] (fun _=>0) (fun _=>0):=by
  refine⟨?_,fun i hi=>by simp at hi⟩;have q:=VF (base:=w.heap.size+3) (e:=85) (size:=5) (((z.alloc (Uj #[] 85)).alloc (Uj #[] 89)).alloc (Uj #[Uf (Uc z.heap.size) 0 0,Uf (Uq (Ua (z.heap.size+1) 0)) 0 0] 28)) #[] 0 oS oL rfl;have zz:(((z.alloc (Uj #[] 85)).alloc (Uj #[] 89)).alloc (Uj #[Uf (Uc z.heap.size) 0 0,Uf (Uq (Ua (z.heap.size+1) 0)) 0 0] 28)).heap.size=z.heap.size+1+1+1:=oP;rw [zz,hW] at q;exact q
 have Km:=Qal.1 hs.1;have HU:=hid (QeZ xa S.n d S.R S.F S.T (Uq (Ua (z.heap.size+1) 0)) 0 0 (fun _=>0) (fun _=>0) (fun _=>0) W Km.2 oM (h3.bw b0) (.inl rfl) Km.1 (fun i hi=>absurd hi oM));have Jy:Hid (unL S.R S.F S.T S.n (fun _=>0) (fun _=>0) (fun _=>0) 0=cNR S P 0):=hid (by unfold unL cNR;simp [flat]);rw [Jy.out] at HU;have Lg:Hid (z.heap.size=w.heap.size+3):=hid oM;have H1:=hid h1;have H2:=hid h2;have K6:=hid hs;have Jk:=hid hP;have Le:Hid (∀wr,Bl w wr ->∀i,i<S.l.length ->wr.cell? (Ua gg i)=Uq (Un (yes (gn (gL S.l i))))):=hid (fun wr b i hi=>(b.cell (p:=(Ua gg i)) hgg).trans (hgo i hi));have Ke:Hid (S.l.length<=1000/\ S.n<=1000/\ P.length<=1):=hid ⟨hs.2.1,Km.2,hP.one⟩;have Jb:=hid A0;have Gr:=hid J2;have Gs:=hid J3;have Jf:=hid D0;have Kc:=hid J0;have Kb:=hid Js;have Kf:=hid J1;have Jt:=hid b0;have Jz:=hid zW;obtain⟨X,hX⟩:=zE (chX S (dlS gn S.l P));obtain⟨Y,hY⟩:=zE (chY S (dlS gn S.l P));obtain⟨CC,hC⟩:=zE (chC S (dlS gn S.l P));have Hg:=hid (And.intro hX (And.intro hY hC));rw [hX,hY,hC];have k1:=A0.c1;have k2:=D0.c1;have Ht:Hid (∀j k,Qcy (cDR gn S.l P j k)/\ (cDR gn S.l P j k).length<=1001):=hid (fun j k=>⟨QnJ hs hP j k,by have:=Qm0 (g:=gn) (l:=S.l) (P:=P) (j:=j) (k:=k);have:=hs.2.1;have:=hP.one;omega⟩);have Gk:Hid (∀k,Qcy (cNR S P k)/\ (cNR S P k).length<=1001):=hid (fun k=>⟨QnN hs hP k,by have:=Qm6 (P:=P) (k:=k) (S:=S);have:=Km.2;have:=hP.one;omega⟩);have Hm:Hid (∀j k,(cNL gn S.l P j k).length<=1001/\∀i,i<(cNL gn S.l P j k).length ->1<=(gL (cNL gn S.l P j k) i).p.length/\ (gL (cNL gn S.l P j k) i).p.length<=8):=hid (fun j k=>⟨by have:=Qm2 (g:=gn) (l:=S.l) (P:=P) (j:=j) (k:=k);have:=hs.2.1;have:=hP.one;omega,Qm4 hs hP j k⟩);have H5:Hid (∀k,(cDL P k).length<=1/\∀i,i<(cDL P k).length ->1<=(gL (cDL P k) i).p.length/\ (gL (cDL P k) i).p.length<=8):=hid (fun k=>⟨by have:=Qmw (P:=P) (k:=k);have:=hP.one;omega,Qmy hP k⟩);clear A0 J2 J3 D0 J0 Js J1 b0 bA Kk al zA zW h1 h2 h3 hs hP hgo hgg Km hX hY hC Jy;go_enter func117,ntmps117;go_wp2_with fail;try rw [Gu]
 try rw [hW]
 clear hW Gu;refine HU.mono ?_;rintro e w1 ⟨vr,rfl,f1,b1⟩;obtain⟨ra,rc,Lt,_⟩:=f1.fs;subst Lt;obtain⟨nu,J8⟩:=zE ((cNR S P 0).length);rw [J8] at f1 ⊢;clear J8;obtain⟨w2,K8⟩:=zE (w1.alloc (Uj #[Uf (Uq (Ua (z.heap.size+1+1+1) 0)) 0 0,Uf ra nu rc] 28));have b2:Bl w1 w2:=K8▸zO _ _;have Gb:=Qaa b1 b2;have Hu:Hid (CS w w2 (z.heap.size+1+1) w1.heap.size (Uf a S.l.length c) (Uf xa S.n d) z.heap.size 0 [] (fun _=>0) (fun _=>0) (Uf (Uq (Ua (z.heap.size+1) 0)) 0 0) (cDR gn S.l P 0 0) (z.heap.size+1+1+1) 0 (cNL gn S.l P 0 0) (fun _=>0) (fun _=>0) (Uf ra nu rc) (cNR S P 0)):=hid (by
  have hz:=Jz.out;have L0:=b1.size;have Lw:=Lg.out;have e1:cDR gn S.l P 0 0=[]:=by unfold cDR goL;simp [unF]
  have e2:cNL gn S.l P 0 0=[]:=by unfold cNL stL;simp
  rw [e1,e2];refine⟨Qaa Jt Gb,Jb.bw Gb Jb.lt,Gr.bw Gb Gr.lt,Gs.bw Gb Gs.lt,Jf.bw Gb Jf.lt,?_,Kc.bw Gb,Kf.bw Gb,Kb.bw Gb,(f1.bw b2).weak oM,oM,oM,oM,⟨oM,oM,oM⟩,⟨oM,oM⟩,fun b e=> ?_,fun b e=> ?_,fun i hi=>by simp at hi,fun i hi=>by simp at hi⟩
  ·rw [<- K8];exact Bx2.made _ _ _ _
  ·have e:z.heap.size+1=b:=(by simpa [Value.ownBlock] using e);exact⟨oM,oM,oM⟩
  ·have:=World.ownsRow.lt f1 b e;exact⟨oM,oM,oM⟩)
 clear f1 b1 b2 Gb k1 k2 HU Jb Gr Gs Jf Kc Kb Kf Jt Jz;go_wp2_with fail;try rw [K8]
 clear K8;obtain⟨t2,J5⟩:=zE w1.heap.size;rw [J5] at Hu ⊢;clear J5;obtain⟨t1,J9⟩:=zE (z.heap.size+1+1);rw [J9] at Hu ⊢;clear J9;obtain⟨gD,J7⟩:=zE z.heap.size;rw [J7] at Hu;clear J7;go_loopw [11] (fun i wr=>∃(j B N:Nat) (NP NQ:Nat ->Nat) (Gj:Value),j<=S.l.length/\ i=Ud j/\ Hid (CS w wr t1 t2 (Uf a S.l.length c) (Uf xa S.n d) gD 0 [] (fun _=>0) (fun _=>0) Gj (cDR gn S.l P j 0) B N (cNL gn S.l P j 0) NP NQ (Uf ra nu rc) (cNR S P 0))) (fun i _=>S.l.length - (intOf i).toNat);case atStart=>exact⟨0,_,_,_,_,_,Ux _,rfl,Hu⟩
 case round=>
  clear Hu;obtain⟨j,B,N,NP,NQ,Gj,hj,rfl,Q⟩:=hrel;have Lx:S.l.length<=1000:=Ke.1;have a0:=Q.a.c0;by_cases Hr:j<S.l.length
  ·have i1:(0:Int)<=(j:Int):=UI _;have i2:(j:Int)<(S.l.length:Int):=oM;obtain⟨ab,ao,rfl,G2,Kl⟩:=(H1).resolve_left oM;obtain⟨Lu,pc,⟨A,d0⟩,sg,D,c2,c3,c4⟩:=Kl j Hr;have Gf:=Qgx K6 j Hr;obtain⟨pb,po,rfl,G1,Gd⟩:=sg.resolve_left oM;have Gg:Hid (Rok (dtR (gL S.l j))):=hid (QgS (QcD K6) (QeT K6 _ (Qao.2 ⟨j,Hr,rfl⟩)));have K1:=hid (fun wr b=>Le.out wr b j Hr);obtain⟨y,hy⟩:=zE (gL S.l j);rw [hy] at A D c2 c3 c4 d0 Gd Gf Gg K1;have HY:=hid hy;obtain⟨u,G,O,E,H⟩:=y;dsimp only at A D c2 c3 c4 d0 Gd Gf Gg K1;have H4:Hid (∀w',Bl w w' ->(w'.cell? (Ua ab (ao+j*5))=Uq (Uf (Uq (Ua pb po)) u.length pc)/\ w'.cell? (Ua ab (ao+j*5+1))=Uq (Un G)/\ w'.cell? (Ua ab (ao+j*5+2))=Uq (Ud O)/\ w'.cell? (Ua ab (ao+j*5+3))=Uq (Ud E)/\ w'.cell? (Ua ab (ao+j*5+4))=Uq (Um H))):=hid (fun w' b=>⟨(b.cell (p:=(Ua ab _)) G2).trans A,(b.cell (p:=(Ua ab _)) G2).trans D,(b.cell (p:=(Ua ab _)) G2).trans c2,(b.cell (p:=(Ua ab _)) G2).trans c3,(b.cell (p:=(Ua ab _)) G2).trans c4⟩);have Ki:Hid (∀w',Bl w w' ->pb<w'.heap.size/\∀t,t<u.length ->w'.cell? (Ua pb (po+t))=Uq (Um (gS u t))):=hid (fun w' b=>⟨Ut G1 b.size,fun t ht=>(b.cell (p:=(Ua pb (po+t))) G1).trans (Gd t ht)⟩);have Gt:=hid Gf;obtain⟨w5,Ge⟩:=zE (wr.alloc (Uj #[Ud O,Ud E] 83));have b5:Bl wr w5:=Ge▸zO _ _;have X5:Bx2 w5 wr.heap.size (Ud O) (Ud E):=Ge▸Bx2.made _ _ _ _;have U:=hid (Q.bw b5);have m2:=(H4 wr Q.low).2.2.1;have m3:=(H4 wr Q.low).2.2.2.1;have m5:=K1 w5 U.low;obtain⟨x0,x1⟩:=X5.q2;clear hy Kl sg Gd G1 G2 b5 X5 d0 Gf Q K1 A D c2 c3 c4;cases hgj:yes (gn ⟨u,G,O,E,H⟩) with
   | true=>
    rw [hgj] at m5;have Gw:gn (gL S.l j):=(by rw [HY.out];exact QcJ.1 hgj);have H6:Hid (ins (cDR gn S.l P j 0) (O,E,E)=cDR gn S.l P (j+1) 0):=hid (by rw [QnI Hr Gw,HY.out];rfl);have H7:Hid (cNL gn S.l P j 0=cNL gn S.l P (j+1) 0):=hid (QnL Hr Gw).symm;obtain⟨fx,fc,Kt,J6,_,_⟩:=U.fd.fs;subst Kt;have Jh:=hid (QfL fx fc (cDR gn S.l P j 0) O E E w5 (oH ((Ht j 0).2)) J6 (Ht j 0).1 Gg);have d1:=U.d.c1;obtain⟨ln,Hx⟩:=zE ((cDR gn S.l P j 0).length);rw [Hx] at Jh d1;clear J6 Gw hgj;go_wp2_with fail;refine Jh.mono ?_;rintro e w6 ⟨v6,rfl,Gv,b6⟩;obtain⟨vy,vm,vc,rfl⟩:=Qbs Gv;have D6:=U.d.bw b6 U.d.lt;have o1:=D6.c1;have of:=D6.f;rw [Hx] at o1;have Hw:=hid (U.setD1 b6 Gv);rw [H6.out,H7.out] at Hw;clear Gv b6 D6 Jh x0 x1 m2 m3 m5 d1 a0 Ge Hx U;go_wp2_with fail;go_roundw;case rel=>exact⟨j+1,B,N,NP,NQ,_,Hr,oN,Hw⟩
    case measure=>exact oE
   | false=>
    rw [hgj] at m5;have Gw:¬gn (gL S.l j):=(by rw [HY.out];intro h;rw [Qaj h] at hgj;cases hgj);have H6:Hid (cDR gn S.l P j 0=cDR gn S.l P (j+1) 0):=hid (QnK Hr Gw).symm;have H7:Hid (cNL gn S.l P j 0++[⟨u,G,O,E,H⟩]=cNL gn S.l P (j+1) 0):=hid (by rw [QnM Hr Gw,HY.out]);have Hi:Hid (∀w',Bl w w' ->w'.cell? (Ub w.heap.size)=Uq (Uf (Uq (Ua ab ao)) S.l.length c) ->(Bl w w'/\ w'.cell? (Ub w.heap.size)=Uq (Uf (Uq (Ua ab ao)) S.l.length c)/\ w'.cell? (Ua ab (ao+j*5))=Uq (Uf (Uq (Ua pb po)) u.length pc)/\ w'.cell? (Ua ab (ao+j*5+1))=Uq (Un G)/\ w'.cell? (Ua ab (ao+j*5+2))=Uq (Ud O)/\ w'.cell? (Ua ab (ao+j*5+3))=Uq (Ud E)/\ w'.cell? (Ua ab (ao+j*5+4))=Uq (Um H))):=hid (fun w' hB h0=>⟨hB,h0,H4 w' hB⟩);have Kd:Hid (∀w',Bl w5 w' ->Cl 41 #[Uo #[Uf (Uq (Ua pb po)) u.length pc,Un G,Ud O,Ud E,Um H]] w' fun e w''=>∃q cap,e=Ui (Uo #[Uf (Uc q) u.length cap,Un G,Ud O,Ud E,Um H])/\ Bl w' w''/\ w'.heap.size<=q/\ q<w''.heap.size/\ Wr w'' q 9 u.length (fun t=> Um (gS u t))/\ u.length<=cap/\ cap<=9223372036854775807):=hid (fun w' b=>by
     have hq:=Ki w' (Qaa U.low b);exact Qej pb po u.length pc ⟨u,G,O,E,H⟩ w' rfl (oH Gt.2) hq.1 hq.2)
    have Kj:Hid (∀s p pc',Bl w5 s ->w5.heap.size<=p ->p<s.heap.size ->Wr s p 9 u.length (fun t=> Um (gS u t)) ->u.length<=pc'/\ pc'<=9223372036854775807 ->_):=hid (fun s p pc' b7 p1 p2 hw hcap=>U.appN (y:=⟨u,G,O,E,H⟩) (p:=p) (pc:=pc') b7 (oH ((Hm j 0).1)) Gt.1 (fun i hi=>((Hm j 0).2 i hi).1) p1 p2 hw hcap);obtain⟨ln,Hx⟩:=zE ((cNL gn S.l P j 0).length);have H9:=hid Hx;clear Gw hgj H4 Ki;go_wp2_with fail;try rw [Ge]
    clear Ge x0 x1 m2 m3 m5 a0;refine zB Hi U.low.drew (U.a.bw zI.drew U.a.lt).c0 (fun qh=> ?_);refine tZ 0 56 ?_;refine tZ 2 58 ?_;refine tZ 3 59 ?_;refine tZ 4 60 ?_;refine tZ 5 61 ?_;refine tZ 6 62 ?_;refine QaK (i:=1) (j:=7) (d:=Uq 57) (d':=Uq 63) oK oK oK ?_ ?_
    ·
     have V:=(U.n.bw zI.drew U.n.lt).c0;rw [Hx] at V;intro o J G0 K r;simp only [gZa,gZb,gZc,gZd] at J;subst J;go_simp;refine r.out _ _ (Hi _ U.low.drew (U.a.bw zI.drew U.a.lt).c0) (fun qh=> ?_);clear r K;try simp only [zP]
     clear V;refine cZ 7 ?_;intro K r;go_simp;refine(Kd _ zI.drew).mono ?_;rintro e s ⟨p7,Ku,rfl,b7,G7,G8,Hk,G3⟩;have M:Bl w5 s:=⟨b7.os,b7.tape,b7.output,b7.size,b7.block⟩;have L1:=U.bw M;have L2:=L1.bw (zO s (Uj #[Uf (Uc p7) u.length Ku,Un G,Ud O,Ud E,Um H] 85));obtain⟨q8,Gc,w8,Hf,l8,A8,Z,P8,Q8,h8⟩:=Kj s p7 Ku M G7 G8 Hk G3;have Gl:=hid h8;refine r.out _ _ (Hi _ L1.low L1.a.c0) (fun qh=> ?_);clear r K;try simp only [zP]
     refine cZ 8 ?_;intro K r;go_simp;refine r.out _ _ (Hi _ L2.low L2.a.c0) (fun qh=> ?_);clear r K;try simp only [zP]
     rw [H9.out] at Hf;refine cZ 9 ?_;intro K r;refine Qbg _ _ _ _ rfl Hf (by rfl) (by rfl) rfl ?_;refine r.out _ _ (Hi _ l8 A8.c0) (fun qh=> ?_);clear r K;try simp only [zP]
     refine tZ 10 66 ?_;have V:=Z.c0;have tf:=Z.f;rw [H9.out] at V;refine cZ 11 ?_;intro K r;go_simp;have h9:=Gl.out;rw [H9.out] at h9;refine r.out _ _ (Hi _ h9.low h9.a.c0) (fun qh=> ?_);clear r K;try simp only [zP]
     refine zD ?_;have Gh:=hid h9;rw [H6.out,H7.out] at Gh;clear qh b7 M L1 L2 Hf l8 A8 Z h8 h9 V tf Hk G3 G7 G8 Kj Kd Hi Gl U Hx;go_wp2_with fail;go_roundw;case rel=>exact⟨j+1,q8,Gc,P8,Q8,Gj,Hr,oN,Gh⟩
     case measure=>exact oE
    ·
     intro o J G0 K r;simp only [gZa,gZb,gZc,gZd] at J;subst J;go_simp;refine(Kd _ zI.drew).mono ?_;rintro e s ⟨p7,Ku,rfl,b7,G7,G8,Hk,G3⟩;have M:Bl w5 s:=⟨b7.os,b7.tape,b7.output,b7.size,b7.block⟩;have L1:=U.bw M;have L2:=L1.bw (zO s (Uj #[Uf (Uc p7) u.length Ku,Un G,Ud O,Ud E,Um H] 85));obtain⟨q8,Gc,w8,Hf,l8,A8,Z,P8,Q8,h8⟩:=Kj s p7 Ku M G7 G8 Hk G3;have Gl:=hid h8;refine r.out _ _ (Hi _ L1.low L1.a.c0) (fun qh=> ?_);clear r K;try simp only [zP]
     refine QaK (i:=1) (j:=8) (d:=Uq 57) (d':=Uq 64) oK oK oK ?_ ?_
     ·
      have V:=L1.n.c0;rw [Hx] at V;intro o J G0 K r;simp only [gZa,gZb,gZc,gZd] at J;subst J;go_simp;refine r.out _ _ (Hi _ L1.low L1.a.c0) (fun qh=> ?_);clear r K;try simp only [zP]
      clear V;refine cZ 8 ?_;intro K r;go_simp;refine r.out _ _ (Hi _ L2.low L2.a.c0) (fun qh=> ?_);clear r K;try simp only [zP]
      rw [H9.out] at Hf;refine cZ 9 ?_;intro K r;refine Qbg _ _ _ _ rfl Hf (by rfl) (by rfl) rfl ?_;refine r.out _ _ (Hi _ l8 A8.c0) (fun qh=> ?_);clear r K;try simp only [zP]
      refine tZ 10 66 ?_;have V:=Z.c0;have tf:=Z.f;rw [H9.out] at V;refine cZ 11 ?_;intro K r;go_simp;have h9:=Gl.out;rw [H9.out] at h9;refine r.out _ _ (Hi _ h9.low h9.a.c0) (fun qh=> ?_);clear r K;try simp only [zP]
      refine zD ?_;have Gh:=hid h9;rw [H6.out,H7.out] at Gh;clear qh b7 M L1 L2 Hf l8 A8 Z h8 h9 V tf Hk G3 G7 G8 Kj Kd Hi Gl U Hx;go_wp2_with fail;go_roundw;case rel=>exact⟨j+1,q8,Gc,P8,Q8,Gj,Hr,oN,Gh⟩
      case measure=>exact oE
     ·
      intro o J G0 K r;simp only [gZa,gZb,gZc,gZd] at J;subst J;go_simp;refine r.out _ _ (Hi _ L2.low L2.a.c0) (fun qh=> ?_);clear r K;try simp only [zP]
      have V:=L2.n.c0;rw [Hx] at V;refine cZ 1 ?_;intro K r;go_simp;refine r.out _ _ (Hi _ L2.low L2.a.c0) (fun qh=> ?_);clear r K;try simp only [zP]
      clear V;rw [H9.out] at Hf;refine cZ 9 ?_;intro K r;refine Qbg _ _ _ _ rfl Hf (by rfl) (by rfl) rfl ?_;refine r.out _ _ (Hi _ l8 A8.c0) (fun qh=> ?_);clear r K;try simp only [zP]
      refine tZ 10 66 ?_;have V:=Z.c0;have tf:=Z.f;rw [H9.out] at V;refine cZ 11 ?_;intro K r;go_simp;have h9:=Gl.out;rw [H9.out] at h9;refine r.out _ _ (Hi _ h9.low h9.a.c0) (fun qh=> ?_);clear r K;try simp only [zP]
      refine zD ?_;have Gh:=hid h9;rw [H6.out,H7.out] at Gh;clear qh b7 M L1 L2 Hf l8 A8 Z h8 h9 V tf Hk G3 G7 G8 Kj Kd Hi Gl U Hx;go_wp2_with fail;go_roundw;case rel=>exact⟨j+1,q8,Gc,P8,Q8,Gj,Hr,oN,Gh⟩
      case measure=>exact oE
  ·obtain rfl:j=S.l.length:=oM;go_wp2_with fail;go_loopw [13] (fun i wr=>∃(k gD cD B N:Nat) (DP DQ NP NQ:Nat ->Nat) (Gj Lc:Value),k<=P.length/\ i=Ud k/\ Hid (CS w wr t1 t2 (Uf a S.l.length c) (Uf xa S.n d) gD cD (cDL P k) DP DQ Gj (cDR gn S.l P S.l.length k) B N (cNL gn S.l P S.l.length k) NP NQ Lc (cNR S P k))) (fun i _=>P.length - (intOf i).toNat);case atStart=>exact⟨0,_,_,_,_,_,_,_,_,_,_,Ux _,rfl,Q⟩
   case round=>
    clear Q a0;obtain⟨k,gD,cD,B,N,DP,DQ,NP,NQ,Gj,Lc,hk,rfl,Q⟩:=hrel;have Ly:P.length<=1:=Ke.2.2;by_cases Hl:k<P.length
    ·skip;have i1:(0:Int)<=(k:Int):=UI _;have i2:(k:Int)<(P.length:Int):=oM;obtain⟨C,qo,rfl,G5,Kl⟩:=(H2).resolve_left oM;obtain⟨Lu,pc,⟨A,d0⟩,sg,D,c2,c3,c4⟩:=Kl k Hl;have Gz:gL P k∈P:=Qao.2 ⟨k,Hl,rfl⟩;have Gf:=Jk.pm _ Gz;obtain⟨pb,po,rfl,G1,Gd⟩:=sg.resolve_left oM;have Gg:Hid (Rok (dtR (gL P k))):=hid (Jk.dot _ Gz);have H6:Hid (ins (cDR gn S.l P S.l.length k) (dtR (gL P k))=cDR gn S.l P S.l.length (k+1)):=hid (Qm1 Hl).symm;have H7:Hid (ins (cNR S P k) (dtR (gL P k))=cNR S P (k+1)):=hid (Qm7 Hl).symm;have Kz:Hid (Qc1 (gL P k) (cDL P k)=cDL P (k+1)):=hid (Qmz Hl).symm;have K0:Hid (Qc1 (gL P k) (cNL gn S.l P S.l.length k)=cNL gn S.l P S.l.length (k+1)):=hid (Qm5 Hl).symm;obtain⟨y,hy⟩:=zE (gL P k);rw [hy] at A D c2 c3 c4 d0 Gd Gf Gg H6 H7 Kz K0;obtain⟨u,G,O,E,H⟩:=y;dsimp only [dtR] at A D c2 c3 c4 d0 Gd Gf Gg H6 H7 Kz K0;have H4:Hid (∀w',Bl w w' ->(w'.cell? (Ua C (qo+k*5))=Uq (Uf (Uq (Ua pb po)) u.length pc)/\ w'.cell? (Ua C (qo+k*5+1))=Uq (Un G)/\ w'.cell? (Ua C (qo+k*5+2))=Uq (Ud O)/\ w'.cell? (Ua C (qo+k*5+3))=Uq (Ud E)/\ w'.cell? (Ua C (qo+k*5+4))=Uq (Um H))):=hid (fun w' b=>⟨(b.cell (p:=(Ua C _)) G5).trans A,(b.cell (p:=(Ua C _)) G5).trans D,(b.cell (p:=(Ua C _)) G5).trans c2,(b.cell (p:=(Ua C _)) G5).trans c3,(b.cell (p:=(Ua C _)) G5).trans c4⟩);have Ki:Hid (∀w',Bl w w' ->pb<w'.heap.size/\∀t,t<u.length ->w'.cell? (Ua pb (po+t))=Uq (Um (gS u t))):=hid (fun w' b=>⟨Ut G1 b.size,fun t ht=>(b.cell (p:=(Ua pb (po+t))) G1).trans (Gd t ht)⟩);have Gt:=hid Gf;obtain⟨w5,Ge⟩:=zE (wr.alloc (Uj #[Ud O,Ud E] 83));have b5:Bl wr w5:=Ge▸zO _ _;have X5:Bx2 w5 wr.heap.size (Ud O) (Ud E):=Ge▸Bx2.made _ _ _ _;have U:=hid (Q.bw b5);have Jm:=hid X5;have Li:Hid (t1≠wr.heap.size/\ t2≠wr.heap.size):=hid ⟨oH Q.d.lt,by have:=Q.n.lt;omega⟩;have m2:=(H4 wr Q.low).2.2.1;have m3:=(H4 wr Q.low).2.2.2.1;obtain⟨x0,x1⟩:=X5.q2;clear hy Kl sg Gd G1 G5 b5 X5 d0 Gf Q A D c2 c3 c4 Gz;obtain⟨Lp,Ln,Kt,Kp,_,_⟩:=U.fd.fs;subst Kt;have Gm:=hid (QfL Lp Ln (cDR gn S.l P S.l.length k) O E E w5 (oH ((Ht S.l.length k).2)) Kp (Ht S.l.length k).1 Gg);have d1:=U.d.c1;obtain⟨L3,Gx⟩:=zE (((cDR gn S.l P S.l.length k)).length);rw [Gx] at Gm d1;clear Kp;go_wp2_with fail;refine Gm.mono ?_;rintro e w6 ⟨v6,rfl,Gv,b6⟩;obtain⟨vy,vm,vc,rfl⟩:=Qbs Gv;have D6:=U.d.bw b6 U.d.lt;have o1:=D6.c1;have of:=D6.f;rw [Gx] at o1;have Hw:=hid (U.setD1 b6 Gv);rw [H6.out] at Hw;have X6:=(Jm.bw b6 Jm.lt).setAt (Ua t1 1) (Uf vy vm vc) Li.1;obtain⟨wb,La⟩:=zE (w6.setCell (Ua t1 1) (Uf vy vm vc));rw [La] at Hw X6;have Ll:=hid X6;clear x0 x1 m2 m3 d1 Ge Gv b6 D6 Gm Gx U Jm;obtain⟨x0,x1⟩:=X6.q2;clear X6;obtain⟨Lq,Lo,Jq,Kq,_,_⟩:=Hw.fn.fs;subst Jq;have Gn:=hid (QfL Lq Lo (cNR S P k) O E E wb (oH ((Gk k).2)) Kq (Gk k).1 Gg);have d2:=Hw.n.c1;obtain⟨L4,Gy⟩:=zE (((cNR S P k)).length);rw [Gy] at Gn d2;clear Kq;go_wp2_with fail;clear o1 of;refine Gn.mono ?_;rintro e Lv ⟨v7,rfl,Jo,b7⟩;obtain⟨uy,um,uc,rfl⟩:=Qbs Jo;have D7:=Hw.n.bw b7 Hw.n.lt;have o1:=D7.c1;have of:=D7.f;rw [Gy] at o1;have I:=hid (Hw.setN1 b7 Jo);rw [H7.out] at I;obtain⟨wc,Jr⟩:=zE (Lv.setCell (Ua t2 1) (Uf uy um uc));rw [Jr] at I;clear La x0 x1 d2 Jo b7 D7 Gn Gy Hw Ll;have He:Hid (∀w',Bl w w' ->(Bl w w'/\ w'.cell? (Ua C (qo+k*5))=Uq (Uf (Uq (Ua pb po)) u.length pc)/\ w'.cell? (Ua C (qo+k*5+1))=Uq (Un G)/\ w'.cell? (Ua C (qo+k*5+2))=Uq (Ud O)/\ w'.cell? (Ua C (qo+k*5+3))=Uq (Ud E)/\ w'.cell? (Ua C (qo+k*5+4))=Uq (Um H))):=hid (fun w' b=>⟨b,H4 w' b⟩);have Go:Hid (∀w',Bl wc w' ->Cl 41 #[Uo #[Uf (Uq (Ua pb po)) u.length pc,Un G,Ud O,Ud E,Um H]] w' fun e w''=>∃q cap,e=Ui (Uo #[Uf (Uc q) u.length cap,Un G,Ud O,Ud E,Um H])/\ Bl w' w''/\ w'.heap.size<=q/\ q<w''.heap.size/\ Wr w'' q 9 u.length (fun t=> Um (gS u t))/\ u.length<=cap/\ cap<=9223372036854775807):=hid (fun w' b=>by
      have hq:=Ki w' (Qaa I.low b);exact Qej pb po u.length pc ⟨u,G,O,E,H⟩ w' rfl (oH Gt.2) hq.1 hq.2)
     obtain⟨G6,Ho⟩:=zE ((cDL P k).length);have Gq:Hid (∀s q cap,Bl wc s ->wc.heap.size<=q ->q<s.heap.size ->Wr s q 9 u.length (fun t=> Um (gS u t)) ->(u.length<=cap/\ cap<=9223372036854775807) ->Cl 54 #[Uf (Uc gD) G6 cD,Uo #[Uf (Uc q) u.length cap,Un G,Ud O,Ud E,Um H]] s fun e w'=>(∃g' cap' P' Q',e=Ui (Uf (Uc g') (G6+1) cap')/\ s.heap.size<=g'/\ LC w' (w.heap.size+3) (Uf (Uc g') (G6+1) cap') (cDL P (k+1)) P' Q')/\ Bl s w'):=hid (fun s q cap b7 hq1 hq2 hw hcap=>by
      have hJ:=I.bw b7;have Lr:=I.r2.lt;have Ls:=b7.size;rw [<- Kz.out,<- Ho];exact QhQ gD cD (cDL P k) DP DQ s (w.heap.size+3) q cap u G O E H hJ.ld oM (oH ((H5 k).1)) (fun i hi=>oH (((H5 k).2 i hi).2)) (oH Gt.2) ⟨oM,hq2⟩ hw hcap)
     have Gp:Hid (G6+1=(cDL P (k+1)).length):=hid (by rw [<- Kz.out,QbL,Ho]);go_wp2_with fail;try rw [Jr]
     clear Jr o1 of;apply QqA
     ·intro Lb;refine zA He I.low.drew (fun qh=> ?_);refine tZ 0 104 ?_;refine tZ 2 106 ?_;refine tZ 3 107 ?_;refine tZ 4 108 ?_;refine tZ 5 109 ?_;refine QaK (i:=1) (j:=6) (d:=Uq 105) (d':=Uq 110) oK oK oK ?_ ?_
      ·
       have V:=(I.d.bw zI.drew I.d.lt).c0;rw [Ho] at V;intro o J G0 K r;simp only [gZa,gZb,gZc,gZd] at J;subst J;go_simp;refine r.out _ _ (He _ I.low.drew) (fun qh=> ?_);clear r K;try simp only [zP]
       clear V;refine cZ 6 ?_;intro K r;go_simp;refine(Go _ zI.drew).mono ?_;rintro e s ⟨q7,Hh,rfl,b7,Hc,Hd,Hk,Ha⟩;have M:Bl wc s:=⟨b7.os,b7.tape,b7.output,b7.size,b7.block⟩;refine r.out _ _ (He _ (Qaa I.low M)) (fun qh=> ?_);clear r K;try simp only [zP]
       have H0:=hid (Gq s q7 Hh M Hc Hd Hk Ha);clear Hk Ha Hc Hd;refine cZ 7 ?_;intro K r;go_simp;refine H0.mono ?_;rintro e w8 ⟨⟨g8,c8,P8,Q8,rfl,G4,l8⟩,b8⟩;have Hj:=Qaa M b8;have Hp:=hid (I.setD0 Hj l8 Gp (oH M.size) (fun i hi=>((H5 (k+1)).2 i hi).1));have Z:=I.d.bw Hj I.d.lt;refine r.out _ _ (He _ (Qaa I.low Hj)) (fun qh=> ?_);clear r K;try simp only [zP]
       refine tZ 8 112 ?_;have o0:=Z.c0;have of:=Z.f 0;rw [Ho] at o0;clear Z;refine cZ 9 ?_;intro K r;go_simp;clear qh;refine r.out _ _ (He _ Hp.low) (fun qh=> ?_);clear r K;try simp only [zP]
       refine zD ?_;obtain⟨wz,K9⟩:=zE (w8.setCell (Ub t1) (Uf (Uc g8) (G6+1) c8));rw [K9] at Hp ⊢;clear qh K9 b7 M b8 Hj l8 G4 o0 of H0;revert Hp;revert wz;revert Q8;revert P8;revert c8;revert g8;revert Hh;revert q7;exact Lb
      ·
       intro o J G0 K r;simp only [gZa,gZb,gZc,gZd] at J;subst J;go_simp;refine(Go _ zI.drew).mono ?_;rintro e s ⟨q7,Hh,rfl,b7,Hc,Hd,Hk,Ha⟩;have M:Bl wc s:=⟨b7.os,b7.tape,b7.output,b7.size,b7.block⟩;refine r.out _ _ (He _ (Qaa I.low M)) (fun qh=> ?_);clear r K;try simp only [zP]
       have V:=(I.d.bw M I.d.lt).c0;rw [Ho] at V;refine cZ 1 ?_;intro K r;go_simp;refine r.out _ _ (He _ (Qaa I.low M)) (fun qh=> ?_);clear r K;try simp only [zP]
       clear V;have H0:=hid (Gq s q7 Hh M Hc Hd Hk Ha);clear Hk Ha Hc Hd;refine cZ 7 ?_;intro K r;go_simp;refine H0.mono ?_;rintro e w8 ⟨⟨g8,c8,P8,Q8,rfl,G4,l8⟩,b8⟩;have Hj:=Qaa M b8;have Hp:=hid (I.setD0 Hj l8 Gp (oH M.size) (fun i hi=>((H5 (k+1)).2 i hi).1));have Z:=I.d.bw Hj I.d.lt;refine r.out _ _ (He _ (Qaa I.low Hj)) (fun qh=> ?_);clear r K;try simp only [zP]
       refine tZ 8 112 ?_;have o0:=Z.c0;have of:=Z.f 0;rw [Ho] at o0;clear Z;refine cZ 9 ?_;intro K r;go_simp;clear qh;refine r.out _ _ (He _ Hp.low) (fun qh=> ?_);clear r K;try simp only [zP]
       refine zD ?_;obtain⟨wz,K9⟩:=zE (w8.setCell (Ub t1) (Uf (Uc g8) (G6+1) c8));rw [K9] at Hp ⊢;exact Lb q7 Hh g8 c8 P8 Q8 wz Hp
     intro q3 Lm g3 c3 P3 Q3 wd L;clear I He Go Gq Ho Gp;have Hb:Hid (∀w',Bl w w' ->(Bl w w'/\ w'.cell? (Ua C (qo+k*5))=Uq (Uf (Uq (Ua pb po)) u.length pc)/\ w'.cell? (Ua C (qo+k*5+1))=Uq (Un G)/\ w'.cell? (Ua C (qo+k*5+2))=Uq (Ud O)/\ w'.cell? (Ua C (qo+k*5+3))=Uq (Ud E)/\ w'.cell? (Ua C (qo+k*5+4))=Uq (Um H))):=hid (fun w' b=>⟨b,H4 w' b⟩);have H8:Hid (∀w',Bl wd w' ->Cl 41 #[Uo #[Uf (Uq (Ua pb po)) u.length pc,Un G,Ud O,Ud E,Um H]] w' fun e w''=>∃q cap,e=Ui (Uo #[Uf (Uc q) u.length cap,Un G,Ud O,Ud E,Um H])/\ Bl w' w''/\ w'.heap.size<=q/\ q<w''.heap.size/\ Wr w'' q 9 u.length (fun t=> Um (gS u t))/\ u.length<=cap/\ cap<=9223372036854775807):=hid (fun w' b=>by
      have hq:=Ki w' (Qaa L.low b);exact Qej pb po u.length pc ⟨u,G,O,E,H⟩ w' rfl (oH Gt.2) hq.1 hq.2)
     obtain⟨Ja,Hq⟩:=zE ((cNL gn S.l P S.l.length k).length);have Ga:Hid (∀s q cap,Bl wd s ->wd.heap.size<=q ->q<s.heap.size ->Wr s q 9 u.length (fun t=> Um (gS u t)) ->(u.length<=cap/\ cap<=9223372036854775807) ->Cl 54 #[Uf (Uc B) Ja N,Uo #[Uf (Uc q) u.length cap,Un G,Ud O,Ud E,Um H]] s fun e w'=>(∃g' cap' P' Q',e=Ui (Uf (Uc g') (Ja+1) cap')/\ s.heap.size<=g'/\ LC w' (w.heap.size+3) (Uf (Uc g') (Ja+1) cap') (cNL gn S.l P S.l.length (k+1)) P' Q')/\ Bl s w'):=hid (fun s q cap b7 hq1 hq2 hw hcap=>by
      have hJ:=L.bw b7;have Lr:=L.r2.lt;have Ls:=b7.size;rw [<- K0.out,<- Hq];exact QhQ B N (cNL gn S.l P S.l.length k) NP NQ s (w.heap.size+3) q cap u G O E H hJ.ln oM (oH ((Hm S.l.length k).1)) (fun i hi=>oH (((Hm S.l.length k).2 i hi).2)) (oH Gt.2) ⟨oM,hq2⟩ hw hcap)
     have Kh:Hid (Ja+1=(cNL gn S.l P S.l.length (k+1)).length):=hid (by rw [<- K0.out,QbL,Hq]);go_wp2_with fail;refine zA Hb L.low.drew (fun qh=> ?_);refine tZ 0 113 ?_;refine tZ 2 115 ?_;refine tZ 3 116 ?_;refine tZ 4 117 ?_;refine tZ 5 118 ?_;refine QaK (i:=1) (j:=6) (d:=Uq 114) (d':=Uq 119) oK oK oK ?_ ?_
     ·
      have V:=(L.n.bw zI.drew L.n.lt).c0;rw [Hq] at V;intro o J G0 K r;simp only [gZa,gZb,gZc,gZd] at J;subst J;go_simp;refine r.out _ _ (Hb _ L.low.drew) (fun qh=> ?_);clear r K;try simp only [zP]
      clear V;refine cZ 6 ?_;intro K r;go_simp;refine(H8 _ zI.drew).mono ?_;rintro e s ⟨q7,Hh,rfl,b7,Hc,Hd,Hk,Ha⟩;have M:Bl wd s:=⟨b7.os,b7.tape,b7.output,b7.size,b7.block⟩;refine r.out _ _ (Hb _ (Qaa L.low M)) (fun qh=> ?_);clear r K;try simp only [zP]
      have H0:=hid (Ga s q7 Hh M Hc Hd Hk Ha);clear Hk Ha Hc Hd;refine cZ 7 ?_;intro K r;go_simp;refine H0.mono ?_;rintro e w8 ⟨⟨g8,c8,P8,Q8,rfl,G4,l8⟩,b8⟩;have Hj:=Qaa M b8;have Hp:=hid (L.setN0 Hj l8 Kh (oH M.size) (fun i hi=>((Hm S.l.length (k+1)).2 i hi).1));have Z:=L.n.bw Hj L.n.lt;refine r.out _ _ (Hb _ (Qaa L.low Hj)) (fun qh=> ?_);clear r K;try simp only [zP]
      refine tZ 8 121 ?_;have o0:=Z.c0;have of:=Z.f 0;rw [Hq] at o0;clear Z;refine cZ 9 ?_;intro K r;go_simp;clear qh;refine r.out _ _ (Hb _ Hp.low) (fun qh=> ?_);clear r K;try simp only [zP]
      refine zD ?_;clear qh b7 M b8 Hj l8 G4 o0 of H0 Ga H8 Hb;go_wp2_with fail;go_roundw;case rel=>exact⟨k+1,g3,c3,g8,c8,P3,Q3,P8,Q8,_,_,Hl,oN,Hp⟩
      case measure=>exact oE
     ·
      intro o J G0 K r;simp only [gZa,gZb,gZc,gZd] at J;subst J;go_simp;refine(H8 _ zI.drew).mono ?_;rintro e s ⟨q7,Hh,rfl,b7,Hc,Hd,Hk,Ha⟩;have M:Bl wd s:=⟨b7.os,b7.tape,b7.output,b7.size,b7.block⟩;refine r.out _ _ (Hb _ (Qaa L.low M)) (fun qh=> ?_);clear r K;try simp only [zP]
      have V:=(L.n.bw M L.n.lt).c0;rw [Hq] at V;refine cZ 1 ?_;intro K r;go_simp;refine r.out _ _ (Hb _ (Qaa L.low M)) (fun qh=> ?_);clear r K;try simp only [zP]
      clear V;have H0:=hid (Ga s q7 Hh M Hc Hd Hk Ha);clear Hk Ha Hc Hd;refine cZ 7 ?_;intro K r;go_simp;refine H0.mono ?_;rintro e w8 ⟨⟨g8,c8,P8,Q8,rfl,G4,l8⟩,b8⟩;have Hj:=Qaa M b8;have Hp:=hid (L.setN0 Hj l8 Kh (oH M.size) (fun i hi=>((Hm S.l.length (k+1)).2 i hi).1));have Z:=L.n.bw Hj L.n.lt;refine r.out _ _ (Hb _ (Qaa L.low Hj)) (fun qh=> ?_);clear r K;try simp only [zP]
      refine tZ 8 121 ?_;have o0:=Z.c0;have of:=Z.f 0;rw [Hq] at o0;clear Z;refine cZ 9 ?_;intro K r;go_simp;clear qh;refine r.out _ _ (Hb _ Hp.low) (fun qh=> ?_);clear r K;try simp only [zP]
      refine zD ?_;clear qh b7 M b8 Hj l8 G4 o0 of H0 Ga H8 Hb;go_wp2_with fail;go_roundw;case rel=>exact⟨k+1,g3,c3,g8,c8,P3,Q3,P8,Q8,_,_,Hl,oN,Hp⟩
      case measure=>exact oE
    ·obtain rfl:k=P.length:=oM;have e1:=Q.ld;have e2:=Q.ln;obtain⟨Hy,H3,Kt,_⟩:=Q.fd.fs;subst Kt;obtain⟨Hs,Hz,Jq,_⟩:=Q.fn.fs;subst Jq;have Jw:Hid (SNc wr (w.heap.size+3) (Uc gD) cD Hy (mkS (cDL P P.length) (cDR gn S.l P S.l.length P.length))):=hid (QoO Q.ld Q.fd);have Jx:Hid (SNc wr (w.heap.size+3) (Uc B) N Hs (mkS (cNL gn S.l P S.l.length P.length) (cNR S P P.length))):=hid (QoO Q.ln Q.fn);rw [QiP Ke.2.2,QgI] at Jw;rw [QgJ,QgK] at Jx;have Ky:Hid (dlS gn S.l P=mkS P (dlU gn S.l P)/\ jnS S (dlS gn S.l P)=mkS (nxL gn S.l P) (nxU S P)):=hid ⟨rfl,QpE K6 Jk⟩;have D1:=Q.d;have N1:=Q.n;rw [QiP Ke.2.2,QgI] at D1;rw [QgJ,QgK] at N1;obtain⟨d1,Kn⟩:=zE P.length;obtain⟨d2,Ko⟩:=zE ((dlU gn S.l P).length);obtain⟨n1,Kr⟩:=zE ((nxL gn S.l P).length);obtain⟨n2,Ks⟩:=zE ((nxU S P).length);have Kw:Hid (d1<=1/\ d2<=1001/\ n1<=1001/\ n2<=1001):=hid (by
      refine⟨Kn▸Ke.2.2,?_,?_,?_⟩
      ·rw [<- Ko,<- QgI];exact(Ht _ _).2
      ·rw [<- Kr,<- QgJ];exact(Hm _ _).1
      ·rw [<- Ks,<- QgK];exact(Gk _).2)
     have G9:Hid (chF S (dlS gn S.l P)=((decide (n1<=1000) && decide (n2<=1000)) && (decide (d1<=1000) && decide (d2<=1000)))):=hid (by
      unfold chF jnF;rw [Ky.2,Ky.1,<- Kr,<- Ks,<- Kn,<- Ko];rfl)
     rw [Kn,Ko] at D1;rw [Kr,Ks] at N1;have Lh:=hid (And.intro Kn (And.intro Ko (And.intro Kr Ks)));have Jg:=hid (Qhc (Uc gD) Hy d1 d2 cD H3 wr (oH Kw) (oH Kw));have Jv:=hid (fun w3=>Qhc (Uc B) Hs n1 n2 N Hz w3 (oH Kw) (oH Kw));have Ju:=hid D1;have K2:=hid N1;have Kg:=hid Q.low;have K4:=hid Q.r1;have K5:=hid Q.r2;have Lk:Hid (w.heap.size+3<=t1/\ w.heap.size+3<=t2/\ t1≠t2):=hid ⟨Q.h1,Q.h2,Q.h12⟩;obtain⟨B1,J4⟩:=zE ((decide (d1<=1000) && decide (d2<=1000)));obtain⟨B2,Jn⟩:=zE ((decide (n1<=1000) && decide (n2<=1000)));rw [J4] at Jg G9;rw [Jn] at G9;have Ka:Hid (∀w3,Cl 31 #[Uo #[Uf (Uc B) n1 N,Uf Hs n2 Hz]] w3 (Rt w3 (Un B2))):=hid (fun w3=>Jn▸Jv.out w3);obtain⟨x0,x1⟩:=D1.q2;clear J4 Jn Jv D1 N1 Q e1 e2 Kn Ko Kr Ks;go_wp2_with fail;refine Jg.mono ?_;rintro e w3 ⟨rfl,b3⟩;clear x0 x1 Jg;cases B1 with
     | false=>
      have HZ:Hid (X=Sx.mt/\ Y=Sx.mt/\ CC=4):=hid (by
       have e:chF S (dlS gn S.l P)=false:=(by rw [G9.out];simp);obtain⟨z1,z2,z3⟩:=QpC e;exact⟨Hg.1.symm.trans z1,Hg.2.1.symm.trans z2,Hg.2.2.symm.trans z3⟩)
      have Kv:=hid (Qaa Kg b3);have Hn:=hid (K4.bw b3 K4.lt);have Hv:=hid (K5.bw b3 K5.lt);clear b3;obtain⟨r0,r1,rf⟩:=Hn.p2;have Jd:=hid (Hn.set Ue Ue);have Q3:=(Hv.setAt (Ua (w.heap.size+1) 0) Ue oQ).setAt (Ua (w.heap.size+1) 1) Ue oQ;obtain⟨q0,q1,qf⟩:=Q3.p2;have Jl:=hid (Q3.set Ue Ue);have Je:=hid ((Jd.setAt (Ua (w.heap.size+1+1) 0) Ue oQ).setAt (Ua (w.heap.size+1+1) 1) Ue oQ);clear Q3;go_wp2_with fail;obtain⟨s0,s1⟩:=Je.q2;obtain⟨s2,s3⟩:=Jl.q2;refine zF (v:=Ul #[Uo #[Ue,Ue],Uo #[Ue,Ue],Ud 4]) (by simp [results,results117,go_sem,s0,s1,s2,s3]) ⟨Up,0,Up,0,Up,0,Up,0,by rw [HZ.1,HZ.2.1,HZ.2.2];rfl,?_,?_,?_⟩
      ·rw [HZ.1];exact SNc.mt _ _ _ _
      ·rw [HZ.2.1];exact SNc.mt _ _ _ _
      ·exact(((Kv.setCell oP _).setCell oP _).setCell oS _).setCell oS _
     | true=>
      have N3:=K2.bw b3 K2.lt;obtain⟨x0,x1⟩:=N3.q2;have Ld:=hid b3;clear b3 N3;go_wp2_with fail;refine(Ka w3).mono ?_;rintro e w4 ⟨rfl,b4⟩;have Gi:=Qaa Ld b4;have Kv:=hid (Qaa Kg Gi);have Hn:=hid (K4.bw Gi K4.lt);have Hv:=hid (K5.bw Gi K5.lt);have Kx:=hid (Ju.bw Gi Ju.lt);have K3:=hid (K2.bw Gi K2.lt);have Ji:=hid (Jw.bw Gi);have Jj:=hid (Jx.bw Gi);clear b4 Gi x0 x1 Ka;cases B2 with
      | false=>
       have HZ:Hid (X=Sx.mt/\ Y=Sx.mt/\ CC=4):=hid (by
        have e:chF S (dlS gn S.l P)=false:=(by rw [G9.out];simp);obtain⟨z1,z2,z3⟩:=QpC e;exact⟨Hg.1.symm.trans z1,Hg.2.1.symm.trans z2,Hg.2.2.symm.trans z3⟩)
       obtain⟨r0,r1,rf⟩:=Hn.p2;have Jd:=hid (Hn.set Ue Ue);have Q3:=(Hv.setAt (Ua (w.heap.size+1) 0) Ue oQ).setAt (Ua (w.heap.size+1) 1) Ue oQ;obtain⟨q0,q1,qf⟩:=Q3.p2;have Jl:=hid (Q3.set Ue Ue);have Je:=hid ((Jd.setAt (Ua (w.heap.size+1+1) 0) Ue oQ).setAt (Ua (w.heap.size+1+1) 1) Ue oQ);clear Q3;go_wp2_with fail;obtain⟨s0,s1⟩:=Je.q2;obtain⟨s2,s3⟩:=Jl.q2;refine zF (v:=Ul #[Uo #[Ue,Ue],Uo #[Ue,Ue],Ud 4]) (by simp [results,results117,go_sem,s0,s1,s2,s3]) ⟨Up,0,Up,0,Up,0,Up,0,by rw [HZ.1,HZ.2.1,HZ.2.2];rfl,?_,?_,?_⟩
       ·rw [HZ.1];exact SNc.mt _ _ _ _
       ·rw [HZ.2.1];exact SNc.mt _ _ _ _
       ·exact(((Kv.setCell oP _).setCell oP _).setCell oS _).setCell oS _
      | true=>
       have HZ:Hid (X=mkS (nxL gn S.l P) (nxU S P)/\ Y=mkS P (dlU gn S.l P)/\ CC=0):=hid (by
        have e:chF S (dlS gn S.l P)=true:=(by rw [G9.out];rfl);obtain⟨z1,z2,z3⟩:=Qq0 e;exact⟨Hg.1.symm.trans (z1.trans Ky.2),Hg.2.1.symm.trans (z2.trans Ky.1),Hg.2.2.symm.trans z3⟩)
       have K7:Hid (∀w',Bx2 w' t1 (Uf (Uc gD) d1 cD) (Uf Hy d2 H3) ->Bx2 w' t2 (Uf (Uc B) n1 N) (Uf Hs n2 Hz) ->(w'.cell? (Ub t1)=Uq (Uf (Uc gD) d1 cD)/\ w'.cell? (Ua t1 1)=Uq (Uf Hy d2 H3)/\ w'.cell? (Ub t2)=Uq (Uf (Uc B) n1 N)/\ w'.cell? (Ua t2 1)=Uq (Uf Hs n2 Hz))):=hid (fun w' h1 h2=>⟨h1.c0,h1.c1,h2.c0,h2.c1⟩);go_wp2_with fail;refine zB K7 (Kx.bw zI.drew Kx.lt) (K3.bw zI.drew K3.lt) (fun qh=> ?_);refine tZ 0 132 ?_;refine tZ 1 133 ?_;obtain⟨u0,Jp⟩:=zE w4.drew;have bu:Bl w4 u0:=Jp▸zI.drew;rw [Jp];clear Jp;have R1:=Hn.bw bu Hn.lt;have R2:=Hv.bw bu Hv.lt;obtain⟨r0,r1,rf⟩:=R1.p2;have Lz:=Lk.out;have DA:=((Kx.bw bu Kx.lt).setAt (Ua (w.heap.size+1) 0) (Uf (Uc B) n1 N) oQ).setAt (Ua (w.heap.size+1) 1) (Uf Hs n2 Hz) oQ;have NA:=((K3.bw bu K3.lt).setAt (Ua (w.heap.size+1) 0) (Uf (Uc B) n1 N) oQ).setAt (Ua (w.heap.size+1) 1) (Uf Hs n2 Hz) oQ;have RA:=R1.set (Uf (Uc B) n1 N) (Uf Hs n2 Hz);have QA:=(R2.setAt (Ua (w.heap.size+1) 0) (Uf (Uc B) n1 N) oQ).setAt (Ua (w.heap.size+1) 1) (Uf Hs n2 Hz) oQ;have DB:=(DA.setAt (Ua (w.heap.size+1+1) 0) (Uf (Uc gD) d1 cD) oQ).setAt (Ua (w.heap.size+1+1) 1) (Uf Hy d2 H3) oQ;have NB:=(NA.setAt (Ua (w.heap.size+1+1) 0) (Uf (Uc gD) d1 cD) oQ).setAt (Ua (w.heap.size+1+1) 1) (Uf Hy d2 H3) oQ;have RB:=hid ((RA.setAt (Ua (w.heap.size+1+1) 0) (Uf (Uc gD) d1 cD) oQ).setAt (Ua (w.heap.size+1+1) 1) (Uf Hy d2 H3) oQ);have QB:=hid (QA.set (Uf (Uc gD) d1 cD) (Uf Hy d2 H3));have Lj:=hid QA;clear R1 R2 RA QA;refine cZ 2 ?_;intro K r;go_simp;refine r.out _ _ (K7 _ DA NA) (fun qh=> ?_);clear r K;try simp only [zP]
       clear r0 r1 rf;obtain⟨r0,r1,rf⟩:=Lj.p2;refine cZ 3 ?_;intro K r;go_simp;refine r.out _ _ (K7 _ DB NB) (fun qh=> ?_);clear r K;try simp only [zP]
       refine tZ 4 8 ?_;refine zD ?_;have Jc:=hid bu;clear qh r0 r1 rf DA NA DB NB bu K7;go_wp2_with fail;obtain⟨s0,s1⟩:=RB.q2;obtain⟨s2,s3⟩:=QB.q2;refine zF (v:=Ul #[Uo #[Uf (Uc B) n1 N,Uf Hs n2 Hz],Uo #[Uf (Uc gD) d1 cD,Uf Hy d2 H3],Ud 0]) (by simp [results,results117,go_sem,s0,s1,s2,s3]) ?_;first|refine⟨Uq (Ub B),N,Hs,Hz,Uq (Ub gD),cD,Hy,⟨H3,?_⟩,?_,?_,?_⟩|refine⟨Uq (Ub B),N,Hs,Hz,Uq (Ub gD),cD,Hy,H3,?_,?_,?_,?_⟩
       ·obtain⟨z1,z2,z3⟩:=HZ.out;obtain⟨l1,l2,l3,l4⟩:=Lh.out;rw [z1,z2,z3];show _=Ending.returned (Ul #[Uo #[Uf _ (nxL gn S.l P).length _,Uf _ (nxU S P).length _],Uo #[Uf _ P.length _,Uf _ (dlU gn S.l P).length _],_]);rw [l1,l2,l3,l4]
       ·rw [HZ.1];refine(Jj.bw Jc).move oM (by simp [UL]) (fun q h1 h2=> ?_);rw [zH _ _ _ _ oS,zH _ _ _ _ oS,zH _ _ _ _ oS,zH _ _ _ _ oS]
       ·rw [HZ.2.1];refine(Ji.bw Jc).move oM (by simp [UL]) (fun q h1 h2=> ?_);rw [zH _ _ _ _ oS,zH _ _ _ _ oS,zH _ _ _ _ oS,zH _ _ _ _ oS]
       ·exact((((Qaa Kv Jc).setCell oP _).setCell oP _).setCell oS _).setCell oS _
theorem Qkj (p q:List ByteArray)(a b:Option Us)(c d:Nat)(w:Ur)(y:p.length<=c)(hd:q.length<=d)(hc':c<=9223372036854775807)(hd':d<=9223372036854775807)(h:QaP w a p)(v:QaP w b q):
  Cl 116 #[Uf a p.length c,Uf b q.length d] w fun e w'=>e=Ui (Un (yes (p <+:q)))/\∃k,w'=w.drewN k:=by
 by_cases O:p.length<=q.length
 ·have s:decide ((p.length:Int)<=(q.length:Int))=true:=oS;have A:decide (p.length<=q.length)=true:=oS;have o:(q.take p.length).length=p.length:=oS;have t:QaP w b (q.take p.length):=by
   rcases v with v|⟨b,off,rfl,M,y⟩
   ·exact .inl oM
   ·refine .inr ⟨b,off,rfl,M,fun i hi=> ?_⟩;have e:gS (q.take p.length) i=gS q i:=(by simp [gS,UA,Vu (show i<p.length by omega)]);rw [e];exact y i oM
  have u:=hid (Qdj p (q.take p.length) a b c d w y oM hc' hd' h t);rw [o] at u;have m:Hid (QaC p (q.take p.length)=0↔p <+:q):=hid (by rw [QdN];exact⟨fun e=>by rw [e];exact List.take_prefix _ _,fun e=>List.prefix_iff_eq_take.1 e⟩);obtain⟨C,g⟩:=zE (QaC p (q.take p.length));rw [g] at u m;have Q:(0:Int)<=(p.length:Int):=UI _;have U:(p.length:Int)<=(d:Int):=oM;clear h v t g o;go_enter func116,ntmps116;go_wp2_with fail;refine u.mono ?_;rintro e w1 ⟨rfl,z,rfl⟩;clear u;by_cases j:C=0
  ·have E:(C==0)=true:=oU j;have r:=hid (Qaj (m.1 j));clear j m;go_wp2_with fail;go_ret;exact⟨Qaz r.symm,z,rfl⟩
  ·have E:(C==0)=false:=oU j;have r:=hid (Qag (fun h=>j (m.2 h)));clear j m;go_wp2_with fail;go_ret;exact⟨Qaz r.symm,z,rfl⟩
 ·have s:decide ((p.length:Int)<=(q.length:Int))=false:=oS;have A:decide (p.length<=q.length)=false:=oS;have r:Hid (yes (p <+:q)=false):=hid (Qag (fun e=>O e.length_le));go_enter func116,ntmps116;go_wp2_with fail;go_ret;exact⟨Qaz r.symm,0,rfl⟩
theorem QqM(h1:Bx2 w r1 u0 u1)(h2:Bx2 w r2 u2 u3)(hne:r1≠r2)(v0 v1 v2 v3:Value):Bx2 ((w.setCell (Ub r1) v0).setCell (Ua r1 1) v1) r2 u2 u3/\ Bx2 ((((w.setCell (Ub r1) v0).setCell (Ua r1 1) v1).setCell (Ub r2) v2).setCell (Ua r2 1) v3) r1 v0 v1/\ Bx2 ((((w.setCell (Ub r1) v0).setCell (Ua r1 1) v1).setCell (Ub r2) v2).setCell (Ua r2 1) v3) r2 v2 v3:=
 ⟨(h2.setAt _ _ hne).setAt _ _ hne,((h1.set v0 v1).setAt _ _ (Ne.symm hne)).setAt _ _ (Ne.symm hne),((h2.setAt _ _ hne).setAt _ _ hne).set v2 v3⟩
theorem Qh7(h:Below B w w1)(h1:B<=r1)(h2:B<=r2)(v0 v1 v2 v3:Value):Below B w ((((w1.setCell (Ub r1) v0).setCell (Ua r1 1) v1).setCell (Ub r2) v2).setCell (Ua r2 1) v3):=
 (((h.setCell (p:=(Ub r1)) h1 _).setCell (p:=(Ua r1 1)) h1 _).setCell (p:=(Ub r2)) h2 _).setCell (p:=(Ua r2 1)) h2 _
theorem QgD{r:Nat}(h1:Bx2 w r u0 u1)(h2:Bx2 w (r+1) u2 u3)(v0 v1 v2 v3:Value):w.cell? (Ub r)=Uq u0/\ w.cell? (Ua r 1)=Uq u1/\ (∀i,w.frozen? (Ua r i)=false)/\ ((w.setCell (Ub r) v0).setCell (Ua r 1) v1).cell? (Ua (r+1) 0)=Uq u2/\ ((w.setCell (Ub r) v0).setCell (Ua r 1) v1).cell? (Ua (r+1) 1)=Uq u3/\ (∀i,((w.setCell (Ub r) v0).setCell (Ua r 1) v1).frozen? (Ua (r+1) i)=false)/\ Hid (Bx2 ((((w.setCell (Ub r) v0).setCell (Ua r 1) v1).setCell (Ua (r+1) 0) v2).setCell (Ua (r+1) 1) v3) r v0 v1/\ Bx2 ((((w.setCell (Ub r) v0).setCell (Ua r 1) v1).setCell (Ua (r+1) 0) v2).setCell (Ua (r+1) 1) v3) (r+1) v2 v3):=
 have j:=QqM h1 h2 (show r≠r+1 by omega) v0 v1 v2 v3
 ⟨h1.c0,h1.c1,h1.f,j.1.c0,j.1.c1,j.1.f,hid j.2⟩
theorem Qa5(h:Bl w w1)(v0 v1 v2 v3:Value):Bl w ((((w1.setCell (Ua (w.heap.size+1) 0) v0).setCell (Ua (w.heap.size+1) 1) v1).setCell (Ua (w.heap.size+1+1) 0) v2).setCell (Ua (w.heap.size+1+1) 1) v3):=Qh7 h oM oM _ _ _ _
theorem Qn1{lo':Nat}{x:Option Us}(h:SNc w lo a c x Z)(hl:lo'<=lo)(h1:r1<lo)(h2:r2<lo)(v0 v1 v2 v3:Value):SNc ((((w.setCell (Ub r1) v0).setCell (Ua r1 1) v1).setCell (Ub r2) v2).setCell (Ua r2 1) v3) lo' a c x Z:=
 h.move hl (by simp [UL]) (fun q k1 k2=>by
  rw [zH _ _ _ _ oS,zH _ _ _ _ oS,zH _ _ _ _ oS,zH _ _ _ _ oS])
theorem QeX {u:Ur}{x:Option Us}(h:SNc u lo a c x Z)(hl:w.heap.size+1+1<lo)(v0 v1 v2 v3:Value):SNc ((((u.setCell (Ua (w.heap.size+1) 0) v0).setCell (Ua (w.heap.size+1) 1) v1).setCell (Ua (w.heap.size+1+1) 0) v2).setCell (Ua (w.heap.size+1+1) 1) v3) w.heap.size a c x Z:=Qn1 h oM oM hl _ _ _ _
theorem QkD:(prog.info? 4).map (fun i=>(i.zero,i.size,i.bytes))=Uq (Uq (Un false),1,1):=oK
def Ql4 (bs:List Bool):List Value:=bs.map fun b=> Un b
def BR (w:Ur)(B:Nat)(v:Value)(bs:List Bool):Prop:=w.ownsRow B 4 1 v bs.length (Ql4 bs)/\ v≠Ue
theorem BR.lt{bs:List Bool}(h:BR w B v bs):∀g,v.ownBlock=Uq g ->B<=g/\ g<w.heap.size:=fun g e=>World.ownsRow.lt h.1 g e
theorem BR.bw{bs:List Bool}(h:BR w B v bs)(hb:Bl w w1):BR w1 B v bs:=⟨Qap h.1 (fun g hg=>hb.block g (h.lt g hg).2),h.2⟩
theorem BR.new (w:Ur):BR (w.alloc (Uj #[] 4)) w.heap.size (Uf (Uc w.heap.size) 0 0) []:=by
 refine⟨?_,fun e=>by cases e⟩;exact VF (base:=w.heap.size) (e:=4) (size:=1) w #[] 0 zL oL rfl
theorem QgH (B:Nat)(w:Ur)(v:Value)(bs:List Bool)(b:Bool)(h:BR w B v bs)(hB:B<=w.heap.size)(hl:bs.length<=1048576):
  ∃v' w',(Builtin.append_ #[204,204] 204 #[v,Uf (Uc w.heap.size) 1 1]).run prog (w.alloc (Uj #[Un b] 4))=.ok v' w'/\ BR w' B v' (bs++[b])/\ Below B w w':=by
 obtain⟨g,hi,r,y,z⟩:=info_parts QkD;have m:Bl w (w.alloc (Uj #[Un b] 4)):=zO _ _;have q:=h.bw m;obtain⟨v',w',t,o,i,p⟩:=run_append_own (P:=prog) (w.alloc (Uj #[Un b] 4)) B 204 204 4 g (Un false) 1 1 underlying204 hi r y z rfl oD v bs.length (Ql4 bs) q.1 (Ub w.heap.size) 1 1 (Ql4 [b]) rfl (fun j u hu=>by
  match j,hu with
  | 0,hu=>simp [Ql4] at hu;subst hu;simp [Addr.add]
  | j+1,hu=>simp [Ql4] at hu) (fun u hu=>by
   obtain⟨s,_,rfl⟩:=List.mem_map.1 hu;rfl) oL oM oS
 refine⟨v',w',t,⟨?_,fun e=>h.2 (p.1 e).1⟩,?_⟩
 ·rw [UB];simpa [Ql4] using o
 ·exact(m.mono hB).grown i oS (fun k hk=>(q.lt k hk).1)
theorem BR.cells{bs:List Bool}(h:BR w B v bs):∃g c,v=Uf (Uc g) bs.length c/\ g<w.heap.size/\∀i,i<bs.length ->w.cell? (Ua g i)=Uq (Un (bs.getD i false)):=by
 rcases h.1.2 with ⟨e,r⟩|⟨g,cap,m,rfl,t,j,u,y,z,k⟩
 ·exact absurd e h.2
 ·refine⟨g,cap,rfl,(Array.getElem?_eq_some_iff.1 j).1,fun i hi=> ?_⟩;have q:w.cell? (Ua g i)=(Ql4 bs)[i]? :=by
   rw [<- k,Nat.mul_one,Vu hi];simp [YO,j]
  rw [q];simp [Ql4,UA,hi]
noncomputable def gnB (gn:Lf ->Prop)(l:List Lf)(k:Nat):List Bool:=(l.take k).map fun x=>yes (gn x)
theorem Qfx {gn:Lf ->Prop}{k:Nat}(h:k<l.length):gnB gn l (k+1)=gnB gn l k++[yes (gn (gL l k))]:=by
 unfold gnB;rw [QbQ h,UC];rfl
theorem Qdl (gn:Lf ->Prop)(l:List Lf):(gnB gn l l.length).length=l.length:=by simp [gnB]
theorem Qjj {gn:Lf ->Prop}{i:Nat}(h:i<l.length):(gnB gn l l.length).getD i false=yes (gn (gL l i)):=by
 simp [gnB,UA,h,gL]
theorem Qjk (gn:Lf ->Prop)(l:List Lf)(k:Nat):(gnB gn l k).length<=l.length:=by simp [gnB,Vo];omega
theorem Qi9 (a:Option Us)(c:Nat)(xa:Option Us)(d:Nat)(pa:Option Us)(pc:Nat)(S:Sx)(p:List ByteArray)(w:Ur)(hm:S.Sm)(N:QbY w a S.l)(h3:QaT w xa S.n S.R S.F S.T)(hp:p.length<=1048576)(hpc:p.length<=pc/\ pc<=9223372036854775807)(hseg:QaP w pa p):
  Cl 92 #[Uo #[Uf a S.l.length c,Uf xa S.n d],Uf pa p.length pc] w fun e w'=>∃a m x t a' m' x' t',e=Ui (Ul #[Uo #[Uf a (rmX S p).l.length m,Uf x (rmX S p).n t],Uo #[Uf a' (rmY S p).l.length m',Uf x' (rmY S p).n t'],Ud (rmC S p)])/\ SNc w' w.heap.size a m x (rmX S p)/\ SNc w' w.heap.size a' m' x' (rmY S p)/\ Bl w w':=by
 obtain⟨W,E⟩:=zE (((w.alloc (Uj #[Uf a S.l.length c,Uf xa S.n d] 28)).alloc (Uj #[Ue,Ue] 28)).alloc (Uj #[Ue,Ue] 28));have K:Bl w W:=E▸(Qad _ _ _).alloc oS _;have zW:W.heap.size=w.heap.size+3:=E▸oP;have A0:Bx2 W w.heap.size (Uf a S.l.length c) (Uf xa S.n d):=E▸((Bx2.made w _ _ _).allocs _).allocs _;have R0:Bx2 W (w.heap.size+1) Ue Ue:=by
  rw [<- E];have:=Bx2.made (w.alloc (Uj #[Uf a S.l.length c,Uf xa S.n d] 28)) Ue Ue 28;exact(by simpa using this:Bx2 _ (w.heap.size+1) _ _).allocs _
 have Q0:Bx2 W (w.heap.size+1+1) Ue Ue:=by
  rw [<- E];simpa using Bx2.made ((w.alloc (Uj #[Uf a S.l.length c,Uf xa S.n d] 28)).alloc (Uj #[Ue,Ue] 28)) Ue Ue 28
 have Hw:=hid A0;have H8:=hid R0;have H7:=hid Q0;have Gg:=hid K;have Gm:=hid zW;obtain⟨D,P⟩:=A0.q2;have H:=hid (Qb3 a c S.l xa S.n d S.R S.F S.T W hm.l1 hm.p1 hm.n1 (N.bw K) (h3.bw K));change Hid (Calls _ _ _ _ fun e w'=>e=Ui (Un (stB S))/\ _) at H;have H1:=hid N;have H3:=hid h3;have H9:=hid hseg;have H6:=hid hpc;obtain⟨B,hB⟩:=zE (stB S);have I:=hid hB;rw [hB] at H;clear K zW A0 R0 Q0 N h3 hseg hB hpc;go_enter func92,ntmps92;go_wp2_with fail;try rw [E]
 clear E;refine H.mono ?_;rintro e w1 ⟨rfl,M⟩;have j:=hid (Qaa Gg M);have g:=hid (H8.bw M H8.lt);have b:=hid (H7.bw M H7.lt);have Hx:=hid (Hw.bw M Hw.lt);have Gk:Hid (w.heap.size+3<=w1.heap.size):=hid (oJ Gm M.size);clear M D P H;cases B with
 | false=>
  have s:Hid (rmX S p=Sx.mt/\ rmY S p=Sx.mt/\ rmC S p=1):=hid (by
   have e:=Qnt (p:=p) (v:=⟨#[]⟩) I;have:=Qqo (S:=S) (p:=p) (by rw [e];decide);rw [e] at this;exact this)
  obtain⟨r0,r1,rf,q0,q1,qf,Q⟩:=QgD g b Ue Ue Ue Ue;go_wp2_with fail;obtain⟨r,u⟩:=Q.out;refine zF (v:=Ul #[Uo #[Ue,Ue],Uo #[Ue,Ue],Ud 1]) (by simp [results,results92,go_sem,r.c0,r.c1,u.c0,u.c1]) ?_;rw [s.1,s.2.1,s.2.2];first
   | exact⟨Up,0,Up,0,Up,0,Up,0,rfl,SNc.mt _ _ _ _,SNc.mt _ _ _ _,Qa5 j _ _ _ _⟩
   | exact⟨Up,0,Up,0,Up,0,Up,⟨0,rfl⟩,SNc.mt _ _ _ _,SNc.mt _ _ _ _,Qa5 j _ _ _ _⟩
 | true=>
  have Hm:=hid (QfC p pa pc w1 hp (H9.bw j));obtain⟨Z,hZ⟩:=zE (yes (Qbb p));rw [hZ] at Hm;have Ga:=hid hZ;clear hZ;go_wp2_with fail;refine Hm.mono ?_;rintro e q ⟨rfl,rfl⟩;clear Hm;cases Z with
  | false=>
   have s:Hid (rmX S p=Sx.mt/\ rmY S p=Sx.mt/\ rmC S p=2):=hid (by
    have e:=QkX (p:=p) (v:=⟨#[]⟩) I (fun h=>by have:=Ga.out;rw [Qaj h.1] at this;cases this);have:=Qqo (S:=S) (p:=p) (by rw [e];decide);rw [e] at this;exact this)
   obtain⟨r0,r1,rf,q0,q1,qf,Q⟩:=QgD g b Ue Ue Ue Ue;go_wp2_with fail;obtain⟨r,u⟩:=Q.out;refine zF (v:=Ul #[Uo #[Ue,Ue],Uo #[Ue,Ue],Ud 2]) (by simp [results,results92,go_sem,r.c0,r.c1,u.c0,u.c1]) ?_;rw [s.1,s.2.1,s.2.2];first
    | exact⟨Up,0,Up,0,Up,0,Up,0,rfl,SNc.mt _ _ _ _,SNc.mt _ _ _ _,Qa5 j _ _ _ _⟩
    | exact⟨Up,0,Up,0,Up,0,Up,⟨0,rfl⟩,SNc.mt _ _ _ _,SNc.mt _ _ _ _,Qa5 j _ _ _ _⟩
  | true=>
   have Gf:=QcJ.1 Ga;have hs:=Qd9 I;have Gj:=hid hs;have Hn:=hid (Qq3 (S:=S) (p:=p) (QoV I ⟨Gf,oD⟩));obtain⟨w3,C⟩:=zE (q.alloc (Uj #[] 4));have b3:Bl q w3:=C▸zO _ _;have H2:Hid (BR w3 q.heap.size (Uf (Uc q.heap.size) 0 0) (gnB (gnR p) S.l 0)):=hid (C▸BR.new _);have Hy:=hid b3;have Go:S.l.length<=1000:=hs.2.1;have Gn:=hid (And.intro (Uv q.heap.size) b3.size);clear Gf hs b3;go_wp2_with fail;try rw [C]
   clear C;go_loopw [7,8] (fun o i wr=>∃k:Nat,k<=S.l.length/\ i=Ud k/\ Hid (Bl q wr)/\ Hid (BR wr q.heap.size o (gnB (gnR p) S.l k))) (fun _ i _=>S.l.length - (intOf i).toNat);case atStart=>exact⟨0,Ux _,rfl,Hy,H2⟩
   case round=>
    clear Hy H2;obtain⟨k,hk,rfl,O,G⟩:=hrel;have V:=hid (Qaa j O);have A1:=Hx.bw O Hx.lt;obtain⟨D,P⟩:=A1.q2;by_cases Ht:k<S.l.length
    ·have i1:(0:Int)<=(k:Int):=UI _;have i2:(k:Int)<(S.l.length:Int):=oM;obtain⟨ab,ao,rfl,Gb,Gd⟩:=(H1).resolve_left oM;obtain⟨qa,qc,⟨z,Hc⟩,sg,A,c2,c3,c4⟩:=Gd k Ht;have x0:=(V.cell (p:=(Ua ab (ao+k*5))) Gb).trans z;have J:=hid (Qkj p (gL S.l k).p pa qa pc qc wr H6.1 Hc.1 H6.2 Hc.2 (H9.bw V) (sg.bw V));have Ha:Hid (gnB (gnR p) S.l (k+1)=gnB (gnR p) S.l k++[yes (p <+:(gL S.l k).p)]):=hid (Qfx Ht);obtain⟨bb,Gc⟩:=zE (yes (p <+:(gL S.l k).p));obtain⟨lp,Ge⟩:=zE ((gL S.l k).p.length);rw [Gc] at J Ha;rw [Ge] at J x0;clear Gc Ge Gd sg z A c2 c3 c4 Hc Gb A1;go_wp2_with fail;refine J.mono ?_;rintro e w4 ⟨rfl,dn,Hu⟩;have Hz:Hid (Bl q w4):=hid (by rw [Hu];exact Qay O dn);have o4:BR w4 q.heap.size u7 (gnB (gnR p) S.l k):=(by rw [Hu];exact G.bw (Qay zI dn));obtain⟨v5,U,Hf,o5,y⟩:=QgH q.heap.size w4 u7 (gnB (gnR p) S.l k) bb o4 Hz.size (oH (Qjk (gnR p) S.l k));have Gh:=hid (Hz.trans y);have Gi:Hid (BR U q.heap.size v5 (gnB (gnR p) S.l (k+1))):=hid (by rw [Ha.out];exact o5);clear J Hu o4 o5 y Ha x0 D P G;go_wp2_with (at_builtin;refine Qab rfl _ _ _ _ rfl Hf (by rfl) (by rfl) rfl ?_;clear Hf);go_roundw;case rel=>exact⟨k+1,Ht,oN,Gh,Gi⟩
     case measure=>exact oE
    ·obtain rfl:k=S.l.length:=oM;obtain⟨gg,gc,hv,Hs,Hr⟩:=G.cells;subst hv;rw [Qdl];rw [Qdl] at Hr;obtain⟨U,Hv⟩:=zE (wr.alloc (Uj #[] 85));have y:Bl wr U:=Hv▸zO _ _;have Ho:=Qaa O y;have Hp:=Qaa V y;have Hl:=hid (Qei (gnR p) [] a c xa d gg gc (Uc wr.heap.size) 0 S U Gj (PtO.nil S) (H1.bw Hp) (H3.bw Hp) (Ut Hs y.size) (fun i hi=>by
      rw [<- Qjj hi];exact(y.cell (p:=(Ua gg i)) Hs).trans (Hr i hi)) (.inl rfl))
     obtain⟨X,hX⟩:=zE (chX S (dlS (gnR p) S.l []));obtain⟨Y,hY⟩:=zE (chY S (dlS (gnR p) S.l []));obtain⟨Cc,Hq⟩:=zE (chC S (dlS (gnR p) S.l []));rw [hX,hY,Hq] at Hl;have Hb:Hid (rmX S p=X/\ rmY S p=Y/\ rmC S p=Cc):=hid ⟨Hn.1.trans hX,Hn.2.1.trans hY,Hn.2.2.trans Hq⟩;have Hk:=hid Ho;have Gl:Hid (w.heap.size+3<=U.heap.size):=hid (by have N:=Gk.out;have h2:=Ho.size;omega);clear hX hY Hq Hs Hr y Ho Hp G O A1;go_wp2_with fail;try rw [Hv]
     clear Hv;refine Hl.mono ?_;rintro e w4 ⟨ra,rc,rx,rd,Hg,Hh,Hj,Hi,rfl,ox,oy,b4⟩;have L:=Qaa Hk b4;have Hd:=hid (g.bw L g.lt);have He:=hid (b.bw L b.lt);have H0:=hid (Qaa j L);have H4:=hid ox;have H5:=hid oy;clear b4 L ox oy Hl D P g b j;have g:=Hd;have b:=He;have j:=H0;clear Hd He H0;obtain⟨r0,r1,rf,q0,q1,qf,Q⟩:=QgD g b (Uf ra X.l.length rc) (Uf rx X.n rd) (Uf Hg Y.l.length Hh) (Uf Hj Y.n Hi);go_wp2_with fail;obtain⟨r,u⟩:=Q.out;refine zF (v:=Ul #[Uo #[Uf ra X.l.length rc,Uf rx X.n rd],Uo #[Uf Hg Y.l.length Hh,Uf Hj Y.n Hi],Ud Cc]) (by simp [results,results92,go_sem,r.c0,r.c1,u.c0,u.c1]) ?_;have hz:=Gl.out;rw [Hb.1,Hb.2.1,Hb.2.2];first
      | exact⟨ra,rc,rx,rd,Hg,Hh,Hj,Hi,rfl,QeX H4 oM _ _ _ _,QeX H5 oM _ _ _ _,Qa5 j _ _ _ _⟩
      | exact⟨ra,rc,rx,rd,Hg,Hh,Hj,⟨Hi,rfl⟩,QeX H4 oM _ _ _ _,QeX H5 oM _ _ _ _,Qa5 j _ _ _ _⟩
def seP (S:Sx)(rep:Int)(p:List ByteArray)(fl on:Bool)(v:ByteArray):List Lf:=if on then [nxY S rep p fl v] else []
def QlZ (S:Sx)(rep:Int)(on:Bool):Prop:=(0<=rep/\ rep<8)/\ (on=true ->Qbn S.R S.T rep S.n+1<=1000000000)
noncomputable def seD (S:Sx)(rep:Int)(p:List ByteArray)(fl on:Bool)(v:ByteArray):Sx:=dlS (gnS p fl) S.l (seP S rep p fl on v)
noncomputable def seC (S:Sx)(rep:Int)(p:List ByteArray)(fl on:Bool)(v:ByteArray):Int:=if ocC S p v=0 then(if yes (QlZ S rep on)=true then chC S (seD S rep p fl on v) else 3) else ocC S p v
noncomputable def seX (S:Sx)(rep:Int)(p:List ByteArray)(fl on:Bool)(v:ByteArray):Sx:=if ocC S p v=0 then(if yes (QlZ S rep on)=true then chX S (seD S rep p fl on v) else Sx.mt) else Sx.mt
noncomputable def seY (S:Sx)(rep:Int)(p:List ByteArray)(fl on:Bool)(v:ByteArray):Sx:=if ocC S p v=0 then(if yes (QlZ S rep on)=true then chY S (seD S rep p fl on v) else Sx.mt) else Sx.mt
section
variable {S : Sx} {rep : Int} {p : List ByteArray} {fl on : Bool} {v : ByteArray}
theorem Qp5 (h:ocC S p v≠0):seX S rep p fl on v=Sx.mt/\ seY S rep p fl on v=Sx.mt/\ seC S rep p fl on v=ocC S p v:=by unfold seX seY seC;rw [if_neg h,if_neg h,if_neg h];exact⟨rfl,rfl,rfl⟩
theorem Qq4 (h:ocC S p v=0)(hn:¬QlZ S rep on):seX S rep p fl on v=Sx.mt/\ seY S rep p fl on v=Sx.mt/\ seC S rep p fl on v=3:=by unfold seX seY seC;rw [if_pos h,if_pos h,if_pos h,Qag hn];exact⟨rfl,rfl,rfl⟩
theorem Qq5 (h:ocC S p v=0)(hn:QlZ S rep on):seX S rep p fl on v=chX S (seD S rep p fl on v)/\ seY S rep p fl on v=chY S (seD S rep p fl on v)/\ seC S rep p fl on v=chC S (seD S rep p fl on v):=by unfold seX seY seC;rw [if_pos h,if_pos h,if_pos h,Qaj hn];exact⟨rfl,rfl,rfl⟩
theorem Qpi (hs:Qba S.R S.F S.T S.n S.l)(hp:Qbb p)(hv:v.size<=200)(hf:fl=true ->emB v=true)(h:QlZ S rep on):PtO S (seP S rep p fl on v):=by
 unfold seP;cases on with
 | true=>exact QlT hs hp hv hf ⟨h.1,h.2 rfl⟩
 | false=>exact PtO.nil S
theorem QkW (hs:Qba S.R S.F S.T S.n S.l):Qcj S.R S.F S.T rep S.n=yes (QoT S rep):=by
 have j:=Qhy hs.1 rep;have e:Qcj S.R S.F S.T rep S.n=QaF rep (Qbn S.R S.T rep S.n+1) (Qbn S.R S.T rep S.n+1):=by unfold Qcj;rw [hs.1];rfl
 rw [e];by_cases h:QoT S rep
 ·rw [Qaj h];exact Qcw ⟨h.1.1,h.1.2,oM,oM,h.2⟩
 ·rw [Qag h];exact Qa4 (fun hh=>h ⟨⟨hh.1,hh.2.1⟩,oM⟩)
end
theorem QkQ (B:Nat)(w:Ur)(g0:Nat)(pa:Option Us)(m pc:Nat)(fl:Bool)(r q:Int)(v:ByteArray)(h:w.ownsRow B 85 5 (Uf (Uc g0) 0 0) 0 [])(hB:B<=w.heap.size):
  ∃g c w',(Builtin.append_ #[23,23] 23 #[Uf (Uc g0) 0 0,Uf (Uc w.heap.size) 1 1]).run prog (w.alloc (Uj #[Uf pa m pc,Un fl,Ud r,Ud q,Um v] 85))=.ok (Uf (Uc g) 1 c) w'/\ Below B w w'/\ g<w'.heap.size/\ w'.cell? (Ub g)=Uq (Uf pa m pc)/\ w'.cell? (Ua g 1)=Uq (Un fl)/\ w'.cell? (Ua g 2)=Uq (Ud r)/\ w'.cell? (Ua g 3)=Uq (Ud q)/\ w'.cell? (Ua g 4)=Uq (Um v):=by
 obtain⟨Y,hi,Q,U,V⟩:=info_parts QcX;have o:Bl w (w.alloc (Uj #[Uf pa m pc,Un fl,Ud r,Ud q,Um v] 85)):=zO _ _;have z:=World.ownsRow.alloc h (Uj #[Uf pa m pc,Un fl,Ud r,Ud q,Um v] 85);have p:=QcQ w (Uf pa m pc) (Un fl) (Ud r) (Ud q) (Um v) 85;obtain⟨t,b⟩:=zE (w.alloc (Uj #[Uf pa m pc,Un fl,Ud r,Ud q,Um v] 85));rw [b] at z p o ⊢;have K:t.heap.size=w.heap.size+1:=b▸oP;obtain⟨v',A,O,i,E,G,H⟩:=run_append_own_at (P:=prog) t B 23 23 85 Y _ 5 64 underlying23 hi Q U V rfl oD (Uf (Uc g0) 0 0) 0 [] z (Ub w.heap.size) 1 1 [Uf pa m pc,Un fl,Ud r,Ud q,Um v] rfl p (fun u hu=>by
  simp only [VZ,List.not_mem_nil,or_false] at hu;rcases hu with e|e|e|e|e<;>rw [e]<;>rfl) oL oM oM
 rcases i.2 with ⟨s,I⟩|⟨g,cap,Z,s,J,M,L,N,X,C⟩
 ·omega
 subst s;have y:∀j,j<5 ->A.cell? (Ua g j)=([Uf pa m pc,Un fl,Ud r,Ud q,Um v]:List Value)[j]? :=fun j hj=>World.ownsRow.cellAt i j oM;refine⟨g,cap,A,O,?_,(Array.getElem?_eq_some_iff.1 M).1,y 0 oM,y 1 oM,y 2 oM,y 3 oM,y 4 oM⟩;exact(o.mono hB).grown E oM (fun k hk=>(World.ownsRow.lt z k hk).1)
theorem QlK (a:Option Us)(c:Nat)(xa:Option Us)(d:Nat)(pa:Option Us)(pc:Nat)(S:Sx)(rep:Int)(p:List ByteArray)(fl on:Bool)(v:ByteArray)(w:Ur)(hm:S.Sm)(hT:I64 S.T)(h1:QbY w a S.l)(h3:QaT w xa S.n S.R S.F S.T)(hp:p.length<=1048576)(hpc:p.length<=pc/\ pc<=9223372036854775807)(hseg:QaP w pa p)(hv:v.size<=1048576)(hfv:fl=true ->emB v=true):
  Cl 115 #[Uo #[Uf a S.l.length c,Uf xa S.n d],Ud rep,Uf pa p.length pc,Un fl,Un on,Um v] w fun e w'=>∃a m x t a' m' x' t',e=Ui (Ul #[Uo #[Uf a (seX S rep p fl on v).l.length m,Uf x (seX S rep p fl on v).n t],Uo #[Uf a' (seY S rep p fl on v).l.length m',Uf x' (seY S rep p fl on v).n t'],Ud (seC S rep p fl on v)])/\ SNc w' w.heap.size a m x (seX S rep p fl on v)/\ SNc w' w.heap.size a' m' x' (seY S rep p fl on v)/\ Bl w w':=by
 obtain⟨W,hW⟩:=zE (((w.alloc (Uj #[Uf a S.l.length c,Uf xa S.n d] 28)).alloc (Uj #[Ue,Ue] 28)).alloc (Uj #[Ue,Ue] 28));have b0:Bl w W:=hW▸(Qad _ _ _).alloc oS _;have zW:W.heap.size=w.heap.size+3:=hW▸oP;have A0:Bx2 W w.heap.size (Uf a S.l.length c) (Uf xa S.n d):=hW▸((Bx2.made w _ _ _).allocs _).allocs _;have R0:Bx2 W (w.heap.size+1) Ue Ue:=by
  rw [<- hW];have:=Bx2.made (w.alloc (Uj #[Uf a S.l.length c,Uf xa S.n d] 28)) Ue Ue 28;exact(by simpa using this:Bx2 _ (w.heap.size+1) _ _).allocs _
 have Q0:Bx2 W (w.heap.size+1+1) Ue Ue:=by
  rw [<- hW];simpa using Bx2.made ((w.alloc (Uj #[Uf a S.l.length c,Uf xa S.n d] 28)).alloc (Uj #[Ue,Ue] 28)) Ue Ue 28
 have Gp:=hid A0;have Gs:=hid R0;have Gr:=hid Q0;have G5:=hid b0;have Kc:=hid zW;obtain⟨k0,k1⟩:=A0.q2;have Gf:=hid (Qb3 a c S.l xa S.n d S.R S.F S.T W hm.l1 hm.p1 hm.n1 (h1.bw b0) (h3.bw b0));change Hid (Calls _ _ _ _ fun e w'=>e=Ui (Un (stB S))/\ _) at Gf;have H1:=hid h1;have H3:=hid h3;have Gg:=hid hseg;have Ga:=hid hpc;have G7:=hid hfv;have G8:=hid hm.n1;obtain⟨B,hB⟩:=zE (stB S);have Gb:=hid hB;rw [hB] at Gf;clear b0 zW A0 R0 Q0 h1 h3 hseg hB hpc hfv;go_enter func115,ntmps115;go_wp2_with fail;try rw [hW]
 clear hW;refine Gf.mono ?_;rintro e w1 ⟨rfl,b1⟩;have j:=hid (Qaa G5 b1);have u:=hid (Gs.bw b1 Gs.lt);have z:=hid (Gr.bw b1 Gr.lt);have H2:=hid (Gp.bw b1 Gp.lt);have Gu:Hid (w.heap.size+3<=w1.heap.size):=hid (oJ Kc b1.size);clear b1 k0 k1 Gf;cases B with
 | false=>
  have Q:Hid (seX S rep p fl on v=Sx.mt/\ seY S rep p fl on v=Sx.mt/\ seC S rep p fl on v=1):=hid (by
   have e:=Qnt (p:=p) (v:=v) Gb;have:=Qp5 (S:=S) (rep:=rep) (p:=p) (fl:=fl) (on:=on) (v:=v) (by rw [e];decide);rw [e] at this;exact this)
  obtain⟨r0,r1,rf,q0,q1,qf,D⟩:=QgD u z Ue Ue Ue Ue;go_wp2_with fail;obtain⟨s,A⟩:=D.out;refine zF (v:=Ul #[Uo #[Ue,Ue],Uo #[Ue,Ue],Ud 1]) (by simp [results,results115,go_sem,s.c0,s.c1,A.c0,A.c1]) ?_;rw [Q.1,Q.2.1,Q.2.2];first
   | exact⟨Up,0,Up,0,Up,0,Up,0,rfl,SNc.mt _ _ _ _,SNc.mt _ _ _ _,Qa5 j _ _ _ _⟩
   | exact⟨Up,0,Up,0,Up,0,Up,⟨0,rfl⟩,SNc.mt _ _ _ _,SNc.mt _ _ _ _,Qa5 j _ _ _ _⟩
 | true=>
  have Gj:=hid (QfC p pa pc w1 hp (Gg.bw j));obtain⟨Z,hZ⟩:=zE (yes (Qbb p));rw [hZ] at Gj;have Gv:=hid hZ;clear hZ;go_wp2_with fail;refine Gj.mono ?_;rintro e w2 ⟨rfl,rfl⟩;clear Gj;cases Z with
  | false=>
   have Q:Hid (seX S rep p fl on v=Sx.mt/\ seY S rep p fl on v=Sx.mt/\ seC S rep p fl on v=2):=hid (by
    have e:=QkX (p:=p) (v:=v) Gb (fun h=>by have:=Gv.out;rw [Qaj h.1] at this;cases this);have:=Qp5 (S:=S) (rep:=rep) (p:=p) (fl:=fl) (on:=on) (v:=v) (by rw [e];decide);rw [e] at this;exact this)
   obtain⟨r0,r1,rf,q0,q1,qf,D⟩:=QgD u z Ue Ue Ue Ue;go_wp2_with fail;obtain⟨s,A⟩:=D.out;refine zF (v:=Ul #[Uo #[Ue,Ue],Uo #[Ue,Ue],Ud 2]) (by simp [results,results115,go_sem,s.c0,s.c1,A.c0,A.c1]) ?_;rw [Q.1,Q.2.1,Q.2.2];first
    | exact⟨Up,0,Up,0,Up,0,Up,0,rfl,SNc.mt _ _ _ _,SNc.mt _ _ _ _,Qa5 j _ _ _ _⟩
    | exact⟨Up,0,Up,0,Up,0,Up,⟨0,rfl⟩,SNc.mt _ _ _ _,SNc.mt _ _ _ _,Qa5 j _ _ _ _⟩
  | true=>
   by_cases Ge:v.size<=200
   ·have i0:¬(v.size:Int)>200:=oM;have Gn:=QcJ.1 Gv;have hs:=Qd9 Gb;have Gk:=hid hs;have G9:=hid Gn;have Kb:=hid Ge;have Gq:=hid (QoV (p:=p) (v:=v) Gb ⟨Gn,Ge⟩);have Gi:=hid (Qlo xa S.n d S.R S.F S.T rep w2 G8 (H3.bw j) hT);rw [QkW hs] at Gi;have l1:=H2.c1;have Ke:S.l.length<=1000:=hs.2.1;clear Gn hs Ge;go_wp2_with fail;refine Gi.mono ?_;rintro e w3 ⟨hy,Gz,b3⟩;clear Gi l1;obtain⟨I,dq,ok,he,G0,Gx⟩:∃I dq ok,e=Ui (Ul #[Uo #[Ud I,Ud dq],Un ok])/\ ok=yes (QoT S rep)/\ (ok=true ->I=rep/\ dq=Qbn S.R S.T rep S.n+1):=by
     cases hk:yes (QoT S rep) with
     | true=>exact⟨rep,Qbn S.R S.T rep S.n+1,true,hy hk,rfl,fun _=>⟨rfl,rfl⟩⟩
     | false=>exact⟨0,0,false,Gz hk,rfl,fun h=>by cases h⟩
    clear hy Gz;subst he;have H7:=hid G0;have G6:=hid Gx;clear G0 Gx;obtain⟨b,Hn⟩:=zE (w3.alloc (Uj #[Ud I,Ud dq] 83));have b4:Bl w3 b:=Hn▸zO _ _;have Hu:Hid (Bx2 b w3.heap.size (Ud I) (Ud dq)):=hid (Hn▸Bx2.made _ _ _ _);have U:=hid (Qaa b3 b4);clear b3 b4;by_cases N:QlZ S rep on
    ·have Kd:=hid N;have G1:0<=rep:=N.1.1;have G2:rep<8:=N.1.2;have G3:¬rep<0:=oM;have G4:¬8<=rep:=oM;have Gw:=hid (Qq5 (S:=S) (rep:=rep) (p:=p) (fl:=fl) (on:=on) (v:=v) Gq N);cases on with
     | true=>
      obtain rfl:ok=true:=(by rw [H7.out];exact Qaj ⟨N.1,N.2 rfl⟩);obtain⟨e1,e2⟩:=G6 rfl;subst e1;have Gt:Hid (nxY S I p fl v=⟨p,fl,I,dq,v⟩):=hid (by unfold nxY;rw [<- e2]);have Gl:Hid (seD S I p fl true v=dlS (gnS p fl) S.l [⟨p,fl,I,dq,v⟩]):=hid (by unfold seD seP;rw [if_pos rfl,Gt.out]);have Ka:Hid (PtO S [⟨p,fl,I,dq,v⟩]):=hid (by rw [<- Gt.out];exact QlT Gk G9 Kb G7 ⟨N.1,N.2 rfl⟩);clear N e2;have K:=hid (H2.bw U H2.lt);have Gh:=hid (Qaa j U);obtain⟨w5,L⟩:=zE (b.alloc (Uj #[] 4));have b5:Bl b w5:=L▸zO _ _;have H6:Hid (BR w5 b.heap.size (Uf (Uc b.heap.size) 0 0) (gnB (gnS p fl) S.l 0)):=hid (L▸BR.new _);have H4:=hid b5;clear b5;go_wp2_with fail;try rw [Hn]
      try rw [L]
      clear L Hn;go_loopw [17,18] (fun o i wr=>∃k:Nat,k<=S.l.length/\ i=Ud k/\ Hid (Bl b wr)/\ Hid (BR wr b.heap.size o (gnB (gnS p fl) S.l k))) (fun _ i _=>S.l.length - (intOf i).toNat);case atStart=>exact⟨0,Ux _,rfl,H4,H6⟩
      case round=>
       clear H4 H6;obtain⟨k,hk,rfl,V,HO⟩:=hrel;have Hh:=hid (Qaa Gh V);have A1:=K.bw V K.lt;obtain⟨k0,k1⟩:=A1.q2;by_cases P:k<S.l.length
       ·have i1:(0:Int)<=(k:Int):=UI _;have i2:(k:Int)<(S.l.length:Int):=oM;obtain⟨ab,ao,rfl,Hy,Gc⟩:=(H1).resolve_left oM;obtain⟨qa,qc,⟨E,He⟩,sg,M,c2,c3,c4⟩:=Gc k P;have x0:=(Hh.cell (p:=(Ua ab (ao+k*5))) Hy).trans E;have x1:=(Hh.cell (p:=(Ua ab (ao+k*5+1))) Hy).trans M;have HC:=hid (Qdj (gL S.l k).p p qa pa qc pc wr He.1 Ga.1 He.2 Ga.2 (sg.bw Hh) (Gg.bw Hh));have Hg:Hid (QaC (gL S.l k).p p=0↔(gL S.l k).p=p):=hid QdN;have Ha:Hid (gnB (gnS p fl) S.l (k+1)=gnB (gnS p fl) S.l k++[yes ((gL S.l k).p=p/\ (gL S.l k).fl=fl)]):=hid (Qfx P);obtain⟨y,hy⟩:=zE (gL S.l k);rw [hy] at x0 x1 HC Hg Ha;obtain⟨lp,yf,yr,yq,yv⟩:=y;dsimp only at x0 x1 HC Hg Ha;obtain⟨C,hC⟩:=zE (QaC lp p);rw [hC] at Hg HC;clear hC hy Gc sg E M c2 c3 c4 He Hy A1;go_wp2_with fail;refine HC.mono ?_;rintro e w6 ⟨rfl,dn,Hk⟩;have H5:Hid (Bl b w6):=hid (by rw [Hk];exact Qay V dn);have o6:BR w6 b.heap.size u17 (gnB (gnS p fl) S.l k):=(by rw [Hk];exact HO.bw (Qay zI dn));have y1:w6.cell? (Ua ab (ao+k*5+1))=Uq (Un yf):=(by rw [Hk];simpa using x1);have m0:w6.cell? (Ub w.heap.size)=Uq (Uf (Uq (Ua ab ao)) S.l.length c):=(by rw [Hk];simpa using k0);have O:Hid (∀bb,yes (lp=p/\ yf=fl)=bb ->∃J g,(Builtin.append_ #[204,204] 204 #[u17,Uf (Uc w6.heap.size) 1 1]).run prog (w6.alloc (Uj #[Un bb] 4))=.ok J g/\ BR g b.heap.size J (gnB (gnS p fl) S.l (k+1))/\ Bl b g):=hid (fun bb hbb=>by
         obtain⟨J,g,h1,h2,h3⟩:=QgH b.heap.size w6 u17 (gnB (gnS p fl) S.l k) bb o6 H5.size (oH (Qjk (gnS p fl) S.l k));exact⟨J,g,h1,by rw [Ha.out,hbb];exact h2,H5.trans h3⟩)
        clear HC Hk o6 x0 x1 k0 k1 HO Ha;by_cases hz:C=0
        ·have d0:(C==0)=true:=oU hz;cases yf<;>cases fl
         ·obtain⟨J,g,q,r,b7⟩:=O true (Qaj ⟨Hg.1 hz,rfl⟩);have G:=hid b7;have H:=hid r;clear O r b7;go_wp2_with (at_builtin;refine Qab rfl _ _ _ _ rfl q (by rfl) (by rfl) rfl ?_;clear q);go_roundw;case rel=>exact⟨k+1,P,oN,G,H⟩
          case measure=>exact oE
         ·obtain⟨J,g,q,r,b7⟩:=O false (Qag (fun h=>by cases h.2));have G:=hid b7;have H:=hid r;clear O r b7;go_wp2_with (at_builtin;refine Qab rfl _ _ _ _ rfl q (by rfl) (by rfl) rfl ?_;clear q);go_roundw;case rel=>exact⟨k+1,P,oN,G,H⟩
          case measure=>exact oE
         ·obtain⟨J,g,q,r,b7⟩:=O false (Qag (fun h=>by cases h.2));have G:=hid b7;have H:=hid r;clear O r b7;go_wp2_with (at_builtin;refine Qab rfl _ _ _ _ rfl q (by rfl) (by rfl) rfl ?_;clear q);go_roundw;case rel=>exact⟨k+1,P,oN,G,H⟩
          case measure=>exact oE
         ·obtain⟨J,g,q,r,b7⟩:=O true (Qaj ⟨Hg.1 hz,rfl⟩);have G:=hid b7;have H:=hid r;clear O r b7;go_wp2_with (at_builtin;refine Qab rfl _ _ _ _ rfl q (by rfl) (by rfl) rfl ?_;clear q);go_roundw;case rel=>exact⟨k+1,P,oN,G,H⟩
          case measure=>exact oE
        ·have d0:(C==0)=false:=oU hz;obtain⟨J,g,q,r,b7⟩:=O false (Qag (fun h=>hz (Hg.2 h.1)));have G:=hid b7;have H:=hid r;clear O r b7;go_wp2_with (at_builtin;refine Qab rfl _ _ _ _ rfl q (by rfl) (by rfl) rfl ?_;clear q);go_roundw;case rel=>exact⟨k+1,P,oN,G,H⟩
         case measure=>exact oE
       ·obtain rfl:k=S.l.length:=oM;obtain⟨gg,gc,Go,H0,Hz⟩:=HO.cells;subst Go;rw [Qdl];rw [Qdl] at Hz;obtain⟨w5,L⟩:=zE (wr.alloc (Uj #[] 85));have b5:Bl wr w5:=L▸zO _ _;have Hm:w5.ownsRow wr.heap.size 85 5 (Uf (Uc wr.heap.size) 0 0) 0 []:=by
         rw [<- L];exact VF (base:=wr.heap.size) (e:=85) (size:=5) wr #[] 0 zL oL rfl
        obtain⟨g7,c7,g,q,b7,Gy,q0,q1,q2,q3,q4⟩:=QkQ wr.heap.size w5 wr.heap.size pa p.length pc fl I dq v Hm b5.size;have bW:Bl wr g:=b5.trans b7;have Gd:QbY g (Uc g7) [(⟨p,fl,I,dq,v⟩:Lf)]:=by
         refine .inr ⟨g7,0,rfl,Gy,fun i hi=> ?_⟩;obtain rfl:i=0:=oU hi;exact⟨pa,pc,⟨q0,Ga⟩,(Gg.bw Hh).bw bW,q1,q2,q3,q4⟩
        have D5:=(Hu.bw V Hu.lt).bw b5 (Hu.bw V Hu.lt).lt;obtain⟨t0,t1⟩:=D5.q2;have A7:=(K.bw V K.lt).bw bW (K.bw V K.lt).lt;obtain⟨t2,t3⟩:=A7.q2;have Hv:=Qaa V bW;have Hw:=Qaa Hh bW;have Ht:=hid (Qei (gnS p fl) [⟨p,fl,I,dq,v⟩] a c xa d gg gc (Uc g7) c7 S g Gk Ka (H1.bw Hw) (H3.bw Hw) (Ut H0 bW.size) (fun i hi=>by
         rw [<- Qjj hi];exact(bW.cell (p:=(Ua gg i)) H0).trans (Hz i hi)) Gd)
        obtain⟨X,hX⟩:=zE (chX S (dlS (gnS p fl) S.l [⟨p,fl,I,dq,v⟩]));obtain⟨Y,hY⟩:=zE (chY S (dlS (gnS p fl) S.l [⟨p,fl,I,dq,v⟩]));obtain⟨Cc,Hx⟩:=zE (chC S (dlS (gnS p fl) S.l [⟨p,fl,I,dq,v⟩]));rw [hX,hY,Hx] at Ht;have Hd:Hid (seX S I p fl true v=X/\ seY S I p fl true v=Y/\ seC S I p fl true v=Cc):=hid (by
         obtain⟨z1,z2,z3⟩:=Gw.out;rw [Gl.out] at z1 z2 z3;exact⟨z1.trans hX,z2.trans hY,z3.trans Hx⟩)
        have Hs:=hid Hv;have Gm:Hid (w.heap.size+3<=g.heap.size):=hid (by have h1:=Gu.out;have h2:=Hv.size;have h3:=U.size;omega);clear hX hY Hx H0 Hz Hv Hw HO A1 A7 bW Hm k0 k1;have k0:=(K.bw V K.lt).c0;clear b5 D5 Gd q0 q1 q2 q3 q4 Gy b7 V;go_wp2_with (at_builtin;refine Qab rfl _ _ _ _ rfl q (by rfl) (by rfl) rfl ?_;clear q);refine Ht.mono ?_;rintro e w4 ⟨ra,rc,rx,rd,Ho,Hp,Hr,Hq,rfl,ox,oy,b4⟩;have Hl:=Qaa U (Qaa Hs b4);have Hi:=hid (u.bw Hl u.lt);have Hj:=hid (z.bw Hl z.lt);have Hf:=hid (Qaa j Hl);have H8:=hid ox;have H9:=hid oy;clear b4 Hl ox oy Ht t2 t3 k0 u z j;try clear t0 t1
        have u:=Hi;have z:=Hj;have j:=Hf;clear Hi Hj Hf;obtain⟨r0,r1,rf,q0,q1,qf,D⟩:=QgD u z (Uf ra X.l.length rc) (Uf rx X.n rd) (Uf Ho Y.l.length Hp) (Uf Hr Y.n Hq);go_wp2_with fail;obtain⟨s,A⟩:=D.out;refine zF (v:=Ul #[Uo #[Uf ra X.l.length rc,Uf rx X.n rd],Uo #[Uf Ho Y.l.length Hp,Uf Hr Y.n Hq],Ud Cc]) (by simp [results,results115,go_sem,s.c0,s.c1,A.c0,A.c1]) ?_;have hz:=Gm.out;rw [Hd.1,Hd.2.1,Hd.2.2];first
         | exact⟨ra,rc,rx,rd,Ho,Hp,Hr,Hq,rfl,QeX H8 oM _ _ _ _,QeX H9 oM _ _ _ _,Qa5 j _ _ _ _⟩
         | exact⟨ra,rc,rx,rd,Ho,Hp,Hr,⟨Hq,rfl⟩,QeX H8 oM _ _ _ _,QeX H9 oM _ _ _ _,Qa5 j _ _ _ _⟩
     | false=>
      have Gl:Hid (seD S rep p fl false v=dlS (gnS p fl) S.l []):=hid rfl;clear N;have K:=hid (H2.bw U H2.lt);have Gh:=hid (Qaa j U);obtain⟨w5,L⟩:=zE (b.alloc (Uj #[] 4));have b5:Bl b w5:=L▸zO _ _;have H6:Hid (BR w5 b.heap.size (Uf (Uc b.heap.size) 0 0) (gnB (gnS p fl) S.l 0)):=hid (L▸BR.new _);have H4:=hid b5;clear b5;go_wp2_with fail;try rw [Hn]
      try rw [L]
      clear L Hn;go_loopw [17,18] (fun o i wr=>∃k:Nat,k<=S.l.length/\ i=Ud k/\ Hid (Bl b wr)/\ Hid (BR wr b.heap.size o (gnB (gnS p fl) S.l k))) (fun _ i _=>S.l.length - (intOf i).toNat);case atStart=>exact⟨0,Ux _,rfl,H4,H6⟩
      case round=>
       clear H4 H6;obtain⟨k,hk,rfl,V,HO⟩:=hrel;have Hh:=hid (Qaa Gh V);have A1:=K.bw V K.lt;obtain⟨k0,k1⟩:=A1.q2;by_cases P:k<S.l.length
       ·have i1:(0:Int)<=(k:Int):=UI _;have i2:(k:Int)<(S.l.length:Int):=oM;obtain⟨ab,ao,rfl,Hy,Gc⟩:=(H1).resolve_left oM;obtain⟨qa,qc,⟨E,He⟩,sg,M,c2,c3,c4⟩:=Gc k P;have x0:=(Hh.cell (p:=(Ua ab (ao+k*5))) Hy).trans E;have x1:=(Hh.cell (p:=(Ua ab (ao+k*5+1))) Hy).trans M;have HC:=hid (Qdj (gL S.l k).p p qa pa qc pc wr He.1 Ga.1 He.2 Ga.2 (sg.bw Hh) (Gg.bw Hh));have Hg:Hid (QaC (gL S.l k).p p=0↔(gL S.l k).p=p):=hid QdN;have Ha:Hid (gnB (gnS p fl) S.l (k+1)=gnB (gnS p fl) S.l k++[yes ((gL S.l k).p=p/\ (gL S.l k).fl=fl)]):=hid (Qfx P);obtain⟨y,hy⟩:=zE (gL S.l k);rw [hy] at x0 x1 HC Hg Ha;obtain⟨lp,yf,yr,yq,yv⟩:=y;dsimp only at x0 x1 HC Hg Ha;obtain⟨C,hC⟩:=zE (QaC lp p);rw [hC] at Hg HC;clear hC hy Gc sg E M c2 c3 c4 He Hy A1;go_wp2_with fail;refine HC.mono ?_;rintro e w6 ⟨rfl,dn,Hk⟩;have H5:Hid (Bl b w6):=hid (by rw [Hk];exact Qay V dn);have o6:BR w6 b.heap.size u17 (gnB (gnS p fl) S.l k):=(by rw [Hk];exact HO.bw (Qay zI dn));have y1:w6.cell? (Ua ab (ao+k*5+1))=Uq (Un yf):=(by rw [Hk];simpa using x1);have m0:w6.cell? (Ub w.heap.size)=Uq (Uf (Uq (Ua ab ao)) S.l.length c):=(by rw [Hk];simpa using k0);have O:Hid (∀bb,yes (lp=p/\ yf=fl)=bb ->∃J g,(Builtin.append_ #[204,204] 204 #[u17,Uf (Uc w6.heap.size) 1 1]).run prog (w6.alloc (Uj #[Un bb] 4))=.ok J g/\ BR g b.heap.size J (gnB (gnS p fl) S.l (k+1))/\ Bl b g):=hid (fun bb hbb=>by
         obtain⟨J,g,h1,h2,h3⟩:=QgH b.heap.size w6 u17 (gnB (gnS p fl) S.l k) bb o6 H5.size (oH (Qjk (gnS p fl) S.l k));exact⟨J,g,h1,by rw [Ha.out,hbb];exact h2,H5.trans h3⟩)
        clear HC Hk o6 x0 x1 k0 k1 HO Ha;by_cases hz:C=0
        ·have d0:(C==0)=true:=oU hz;cases yf<;>cases fl
         ·obtain⟨J,g,q,r,b7⟩:=O true (Qaj ⟨Hg.1 hz,rfl⟩);have G:=hid b7;have H:=hid r;clear O r b7;go_wp2_with (at_builtin;refine Qab rfl _ _ _ _ rfl q (by rfl) (by rfl) rfl ?_;clear q);go_roundw;case rel=>exact⟨k+1,P,oN,G,H⟩
          case measure=>exact oE
         ·obtain⟨J,g,q,r,b7⟩:=O false (Qag (fun h=>by cases h.2));have G:=hid b7;have H:=hid r;clear O r b7;go_wp2_with (at_builtin;refine Qab rfl _ _ _ _ rfl q (by rfl) (by rfl) rfl ?_;clear q);go_roundw;case rel=>exact⟨k+1,P,oN,G,H⟩
          case measure=>exact oE
         ·obtain⟨J,g,q,r,b7⟩:=O false (Qag (fun h=>by cases h.2));have G:=hid b7;have H:=hid r;clear O r b7;go_wp2_with (at_builtin;refine Qab rfl _ _ _ _ rfl q (by rfl) (by rfl) rfl ?_;clear q);go_roundw;case rel=>exact⟨k+1,P,oN,G,H⟩
          case measure=>exact oE
         ·obtain⟨J,g,q,r,b7⟩:=O true (Qaj ⟨Hg.1 hz,rfl⟩);have G:=hid b7;have H:=hid r;clear O r b7;go_wp2_with (at_builtin;refine Qab rfl _ _ _ _ rfl q (by rfl) (by rfl) rfl ?_;clear q);go_roundw;case rel=>exact⟨k+1,P,oN,G,H⟩
          case measure=>exact oE
        ·have d0:(C==0)=false:=oU hz;obtain⟨J,g,q,r,b7⟩:=O false (Qag (fun h=>hz (Hg.2 h.1)));have G:=hid b7;have H:=hid r;clear O r b7;go_wp2_with (at_builtin;refine Qab rfl _ _ _ _ rfl q (by rfl) (by rfl) rfl ?_;clear q);go_roundw;case rel=>exact⟨k+1,P,oN,G,H⟩
         case measure=>exact oE
       ·obtain rfl:k=S.l.length:=oM;obtain⟨gg,gc,Go,H0,Hz⟩:=HO.cells;subst Go;rw [Qdl];rw [Qdl] at Hz;obtain⟨w5,L⟩:=zE (wr.alloc (Uj #[] 85));have b5:Bl wr w5:=L▸zO _ _;have Hm:w5.ownsRow wr.heap.size 85 5 (Uf (Uc wr.heap.size) 0 0) 0 []:=by
         rw [<- L];exact VF (base:=wr.heap.size) (e:=85) (size:=5) wr #[] 0 zL oL rfl
        have bW:=b5;have A7:=(K.bw V K.lt).bw bW (K.bw V K.lt).lt;obtain⟨t2,t3⟩:=A7.q2;have Hv:=Qaa V bW;have Hw:=Qaa Hh bW;have Ht:=hid (Qei (gnS p fl) [] a c xa d gg gc (Uc wr.heap.size) 0 S w5 Gk (PtO.nil S) (H1.bw Hw) (H3.bw Hw) (Ut H0 bW.size) (fun i hi=>by
         rw [<- Qjj hi];exact(bW.cell (p:=(Ua gg i)) H0).trans (Hz i hi)) (.inl rfl))
        obtain⟨X,hX⟩:=zE (chX S (dlS (gnS p fl) S.l []));obtain⟨Y,hY⟩:=zE (chY S (dlS (gnS p fl) S.l []));obtain⟨Cc,Hx⟩:=zE (chC S (dlS (gnS p fl) S.l []));rw [hX,hY,Hx] at Ht;have Hd:Hid (seX S rep p fl false v=X/\ seY S rep p fl false v=Y/\ seC S rep p fl false v=Cc):=hid (by
         obtain⟨z1,z2,z3⟩:=Gw.out;rw [Gl.out] at z1 z2 z3;exact⟨z1.trans hX,z2.trans hY,z3.trans Hx⟩)
        have Hs:=hid Hv;have Gm:Hid (w.heap.size+3<=w5.heap.size):=hid (by have h1:=Gu.out;have h2:=Hv.size;have h3:=U.size;omega);clear hX hY Hx H0 Hz Hv Hw HO A1 A7 bW Hm k0 k1;have k0:=(K.bw V K.lt).c0;clear b5 V;go_wp2_with fail;try rw [L]
        clear L;refine Ht.mono ?_;rintro e w4 ⟨ra,rc,rx,rd,Ho,Hp,Hr,Hq,rfl,ox,oy,b4⟩;have Hl:=Qaa U (Qaa Hs b4);have Hi:=hid (u.bw Hl u.lt);have Hj:=hid (z.bw Hl z.lt);have Hf:=hid (Qaa j Hl);have H8:=hid ox;have H9:=hid oy;clear b4 Hl ox oy Ht t2 t3 k0 u z j;try clear t0 t1
        have u:=Hi;have z:=Hj;have j:=Hf;clear Hi Hj Hf;obtain⟨r0,r1,rf,q0,q1,qf,D⟩:=QgD u z (Uf ra X.l.length rc) (Uf rx X.n rd) (Uf Ho Y.l.length Hp) (Uf Hr Y.n Hq);go_wp2_with fail;obtain⟨s,A⟩:=D.out;refine zF (v:=Ul #[Uo #[Uf ra X.l.length rc,Uf rx X.n rd],Uo #[Uf Ho Y.l.length Hp,Uf Hr Y.n Hq],Ud Cc]) (by simp [results,results115,go_sem,s.c0,s.c1,A.c0,A.c1]) ?_;have hz:=Gm.out;rw [Hd.1,Hd.2.1,Hd.2.2];first
         | exact⟨ra,rc,rx,rd,Ho,Hp,Hr,Hq,rfl,QeX H8 oM _ _ _ _,QeX H9 oM _ _ _ _,Qa5 j _ _ _ _⟩
         | exact⟨ra,rc,rx,rd,Ho,Hp,Hr,⟨Hq,rfl⟩,QeX H8 oM _ _ _ _,QeX H9 oM _ _ _ _,Qa5 j _ _ _ _⟩
    ·have Q:=hid (Qq4 (S:=S) (rep:=rep) (p:=p) (fl:=fl) (on:=on) (v:=v) Gq N);by_cases hr:0<=rep/\ rep<8
     ·have G1:0<=rep:=hr.1;have G2:rep<8:=hr.2;have G3:¬rep<0:=oM;have G4:¬8<=rep:=oM;cases on with
      | true=>
       obtain rfl:ok=false:=(by rw [H7.out];exact Qag (fun h=>N ⟨hr,fun _=>h.2⟩));clear N hr;have Hb:=hid (u.bw U u.lt);have Hc:=hid (z.bw U z.lt);have Hf:=hid (Qaa j U);clear u z j U Hu;have u:=Hb;have z:=Hc;have j:=Hf;clear Hb Hc Hf;obtain⟨r0,r1,rf,q0,q1,qf,D⟩:=QgD u z Ue Ue Ue Ue;go_wp2_with fail;try rw [Hn]
       obtain⟨s,A⟩:=D.out;refine zF (v:=Ul #[Uo #[Ue,Ue],Uo #[Ue,Ue],Ud 3]) (by simp [results,results115,go_sem,s.c0,s.c1,A.c0,A.c1]) ?_;rw [Q.1,Q.2.1,Q.2.2];first
        | exact⟨Up,0,Up,0,Up,0,Up,0,rfl,SNc.mt _ _ _ _,SNc.mt _ _ _ _,Qa5 j _ _ _ _⟩
        | exact⟨Up,0,Up,0,Up,0,Up,⟨0,rfl⟩,SNc.mt _ _ _ _,SNc.mt _ _ _ _,Qa5 j _ _ _ _⟩
      | false=>exact absurd ⟨hr,fun h=>by cases h⟩ N
     ·by_cases G3:rep<0
      ·clear N hr;have Hb:=hid (u.bw U u.lt);have Hc:=hid (z.bw U z.lt);have Hf:=hid (Qaa j U);clear u z j U Hu;have u:=Hb;have z:=Hc;have j:=Hf;clear Hb Hc Hf;obtain⟨r0,r1,rf,q0,q1,qf,D⟩:=QgD u z Ue Ue Ue Ue;go_wp2_with fail;try rw [Hn]
       obtain⟨s,A⟩:=D.out;refine zF (v:=Ul #[Uo #[Ue,Ue],Uo #[Ue,Ue],Ud 3]) (by simp [results,results115,go_sem,s.c0,s.c1,A.c0,A.c1]) ?_;rw [Q.1,Q.2.1,Q.2.2];first
        | exact⟨Up,0,Up,0,Up,0,Up,0,rfl,SNc.mt _ _ _ _,SNc.mt _ _ _ _,Qa5 j _ _ _ _⟩
        | exact⟨Up,0,Up,0,Up,0,Up,⟨0,rfl⟩,SNc.mt _ _ _ _,SNc.mt _ _ _ _,Qa5 j _ _ _ _⟩
      ·have G1:0<=rep:=oM;have G4:8<=rep:=oM;have G2:¬rep<8:=oM;clear N hr;have Hb:=hid (u.bw U u.lt);have Hc:=hid (z.bw U z.lt);have Hf:=hid (Qaa j U);clear u z j U Hu;have u:=Hb;have z:=Hc;have j:=Hf;clear Hb Hc Hf;obtain⟨r0,r1,rf,q0,q1,qf,D⟩:=QgD u z Ue Ue Ue Ue;go_wp2_with fail;try rw [Hn]
       obtain⟨s,A⟩:=D.out;refine zF (v:=Ul #[Uo #[Ue,Ue],Uo #[Ue,Ue],Ud 3]) (by simp [results,results115,go_sem,s.c0,s.c1,A.c0,A.c1]) ?_;rw [Q.1,Q.2.1,Q.2.2];first
        | exact⟨Up,0,Up,0,Up,0,Up,0,rfl,SNc.mt _ _ _ _,SNc.mt _ _ _ _,Qa5 j _ _ _ _⟩
        | exact⟨Up,0,Up,0,Up,0,Up,⟨0,rfl⟩,SNc.mt _ _ _ _,SNc.mt _ _ _ _,Qa5 j _ _ _ _⟩
   ·have i0:(v.size:Int)>200:=oM;have Q:Hid (seX S rep p fl on v=Sx.mt/\ seY S rep p fl on v=Sx.mt/\ seC S rep p fl on v=2):=hid (by
     have e:=QkX (p:=p) (v:=v) Gb (fun h=>Ge h.2);have:=Qp5 (S:=S) (rep:=rep) (p:=p) (fl:=fl) (on:=on) (v:=v) (by rw [e];decide);rw [e] at this;exact this)
    clear Ge;obtain⟨r0,r1,rf,q0,q1,qf,D⟩:=QgD u z Ue Ue Ue Ue;go_wp2_with fail;obtain⟨s,A⟩:=D.out;refine zF (v:=Ul #[Uo #[Ue,Ue],Uo #[Ue,Ue],Ud 2]) (by simp [results,results115,go_sem,s.c0,s.c1,A.c0,A.c1]) ?_;rw [Q.1,Q.2.1,Q.2.2];first
     | exact⟨Up,0,Up,0,Up,0,Up,0,rfl,SNc.mt _ _ _ _,SNc.mt _ _ _ _,Qa5 j _ _ _ _⟩
     | exact⟨Up,0,Up,0,Up,0,Up,⟨0,rfl⟩,SNc.mt _ _ _ _,SNc.mt _ _ _ _,Qa5 j _ _ _ _⟩
end Go.Proofs.YtmlmkaiibamabaaGreatDoor
