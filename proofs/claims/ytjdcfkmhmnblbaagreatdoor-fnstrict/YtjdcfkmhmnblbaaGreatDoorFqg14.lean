import Derived.Test.YtjdcfkmhmnblbaaGreatDoorFqg13
import Derived.Test.YtjdcfkmhmnblbaaGreatDoorFqg10
import Derived.Test.YtjdcfkmhmnblbaaGreatDoorFqg12
import Derived.Deep.CutRange
set_option linter.unusedVariables false
set_option linter.unusedSimpArgs false
set_option maxRecDepth 100000
set_option maxHeartbeats 40000000
namespace Go.Proofs.YtjdcfkmhmnblbaaGreatDoor
open Go.ChangeShapes Go.WideShapes Go.ChangeAt Go.RowKit
def By (zs:List Int):Prop:=∀z∈zs,0<=z/\ z<256
theorem By.nil:By []:=fun z h=>by cases h
theorem By.app {a b:List Int}(h:By a)(k:By b):By (a++b):=fun z hz=>by
 rcases List.mem_append.1 hz with j|j
 ·exact h z j
 ·exact k z j
theorem By.flat {α:Type}{f:α ->List Int}:∀{ys:List α},(∀y∈ys,By (f y)) ->By (ys.flatMap f):=fun{ys} h z j=>by
 obtain⟨y,k,j⟩:=List.mem_flatMap.1 j;exact h y k z j
theorem By.uv {v:Nat}(h:v<=10000000000):By (uvF 9 v):=QkS 9 v (by omega)
theorem By.text {s:ByteArray}(h:s.size<=10000000000):By (Qae s):=By.app (By.uv h) (Qdr s)
theorem QlF {l:List (Int×Int)}(h:∀p∈l,1<=p.1/\ p.1<=p.2/\ p.2<=1000000000)(i:Nat):(0<=sF l i/\ sF l i<=1000000000)/\ 0<=sT l i/\ sT l i<=1000000000:=by
 unfold sF sT;by_cases j:i<l.length
 ·have e:l.getD i (0,0)=l[i]:=by simp [List.getD,j]
  have:=h _ (List.getElem_mem j);rw [e];omega
 ·have e:l.getD i (0,0)=(0,0):=by simp [List.getD,List.getElem?_eq_none (Nat.le_of_not_lt j)]
  rw [e];simp
theorem QhO {l:List (Int×Int)}(h:∀p∈l,1<=p.1/\ p.1<=p.2/\ p.2<=1000000000):∀k,By (spK l k)
 | 0=>By.nil
 | k+1=>by
  have j:=QlF h k;have m:0<=loK l k:=by
   cases k with
   | zero=>simp [loK]
   | succ k=>have:=QlF h k;simp only [loK];omega
  exact By.app (QhO h k) (By.app (By.uv (by omega)) (By.uv (by omega)))
theorem Qef {R F T:Nat ->Int}{n:Nat}(h:QcR R F T n=true):By (Qee (Lk R F T n)):=by
 have j:=Qao.1 h;rw [Qfq];have m:=QfC (Lk R F T n) 8;refine By.app (By.uv (by omega)) (By.flat fun r hr=> ?_);have q:=(Qdk (Lk R F T n) 8 r).1 hr;have u:=Qdl R F T n r;have k:=(Qdm n j.1 r).1.2;have v:=j.2;exact By.app (By.uv (by omega)) (By.app (By.uv (by omega)) (QhO k _))
theorem Qf0 {R F T:Nat ->Int}{n:Nat}{l:List Lf}(h:QbS R F T n l l.length)(hb:LvB l):∀f p,By (tB l f p)
 | 0,p=>by intro z k;simp [tB] at k
 | f+1,p=>by
  obtain⟨s,v⟩:=QdT p h l.length zL;have g:=Qe8 l p l.length;have t:=hb.len;rw [Qf1];refine By.app (By.uv (by omega)) (By.flat fun y hy=> ?_);obtain⟨j,u,e⟩:=(v y).1 hy;have E:=Qeb (h j u).1 e;have r:=(Qbi.1 e).2;have b:y.2=1 \/y.2=2 \/y.2=3:=by
   rw [<- r];unfold Qau;dsimp only;split
   ·exact .inr (.inr rfl)
   ·rcases QgB (gL l j).fl with h|h
    ·exact .inl h
    ·exact .inr (.inl h)
  unfold kB;refine By.app (By.text (by omega)) (By.app (fun z k=>by rw [List.mem_singleton] at k;subst k;omega) ?_);by_cases q:y.2=3
  ·rw [if_pos q];exact Qf0 h hb f _
  ·rw [if_neg q];unfold mB;have o:=Qgw l p y l.length;refine By.app (By.uv (by omega)) (By.flat fun x hx=> ?_);obtain⟨i,m,_,rfl⟩:=Qbc.1 hx;have r1:=hb.rep i m;have r2:=hb.seq i m;have A:=hb.val i m;unfold lfB;refine By.app (By.uv (by omega)) (By.app (By.uv (by omega)) ?_);split
   ·exact By.text (by omega)
   ·exact By.nil
theorem By.byt {zs:List Int}(h:By zs):Byt (fun i=>zs.getD i 0):=fun i=>by
 by_cases j:i<zs.length
 ·have e:zs.getD i 0=zs[i]:=by simp [List.getD,j]
  have:=h _ (List.getElem_mem j);dsimp only;rw [e];omega
 ·have e:zs.getD i 0=0:=by simp [List.getD,List.getElem?_eq_none (Nat.le_of_not_lt j)]
  dsimp only;rw [e];omega
open Go.Deep
theorem Qox {w w1 w2:World}{rb:Nat}(h:Below w.heap.size w w1)(g:w1.grownBy w2 (some rb))(hr:w.heap.size<=rb):Below w.heap.size w w2:=h.grown g h.size (fun k e=>by injection e with e;omega)
structure GsA (w wx:World)(b:Nat)(a x:Option Addr)(c d:Nat)(S:Sx):Prop where
 bx:Bx2 wx b (.slice a S.l.length c) (.slice x S.n d)
 lf:Qew wx a S.l
 rn:Qb5 wx x S.n S.R S.F S.T
 cp:S.l.length<=c/\ c<=9223372036854775807
 ok:QaQ S.R S.F S.T S.n S.l
 rd:RdA wx (w.heap.size+1) w.heap.size
 low:Below w.heap.size w wx
structure GsB (w wx:World)(v:Value)(m:Nat)(zs:List Int):Prop where
 by':Qgn wx (w.heap.size+1) v zs
 len:zs.length<=m
 low:Below w.heap.size w wx
theorem QmK {S:Sx}(h:QaQ S.R S.F S.T S.n S.l):(∀z∈psB S.R S.F S.T S.n S.l,0<=z/\ z<256)/\ (psB S.R S.F S.T S.n S.l).length<=3000000:=by
 refine⟨By.app (Qef h.1) (Qf0 h.2.2.1 h.lvB _ _),?_⟩;have j:=h.put_len;have k:=h.tree_len;unfold psB;rw [List.length_append];omega
theorem QlR (u:World)(B:Nat)(zs:List Int)(hB:B<=u.heap.size)(hl:zs.length<=1000)(hz:∀z∈zs,0<=z/\ z<256):Qgn (u.alloc (.cells (zs.map (Value.int .u8)).toArray 5)) B (.slice (some ⟨u.heap.size,0,none⟩) zs.length zs.length) zs:=by
 have:=World.ownsRow_lit (base:=B) (e:=5) (size:=1) u (zs.map (Value.int .u8)).toArray zs.length hB (by unfold maxLen;omega) (by simp);exact⟨by simpa [Own] using this,hz⟩
theorem Qgn.allocs {u:World}{B:Nat}{v:Value}{zs:List Int}(h:Qgn u B v zs)(o:Obj):Qgn (u.alloc o) B v zs:=⟨World.ownsRow.alloc (w:=u) h.1 o,h.2⟩
def QmR (u:World):List (List Int) ->World
 | []=>u
 | r::R=>QmR (u.alloc (.cells (r.map (Value.int .u8)).toArray 5)) R
theorem QgS (B:Nat):∀(R:List (List Int)) (u:World),B<=u.heap.size ->(∀r∈R,r.length<=1000/\∀z∈r,0<=z/\ z<256) ->Below u.heap.size u (QmR u R)/\ (QmR u R).heap.size=u.heap.size+R.length/\∀i (h:i<R.length),Qgn (QmR u R) B (.slice (some ⟨u.heap.size+i,0,none⟩) R[i].length R[i].length) R[i]
 | [],u,_,_=>⟨zI,rfl,fun i h=>absurd h (Nat.not_lt_zero _)⟩
 | r::R,u,hB,hr=>by
  obtain⟨j,q,v⟩:=QgS B R (u.alloc (.cells (r.map (Value.int .u8)).toArray 5)) (by simp;omega) (fun x hx=>hr x (List.mem_cons_of_mem _ hx));have m:Below u.heap.size u (u.alloc (.cells (r.map (Value.int .u8)).toArray 5)):=zO _ _;obtain⟨r1,r2⟩:=hr r List.mem_cons_self;refine⟨Qac m j,by show (QmR _ R).heap.size=_;rw [q];simp;omega,fun i h=> ?_⟩;match i,h with
  | 0,_=>
   have k:=QlR u B r hB r1 r2;exact⟨Own.kept k.1 j (fun g hg=>(World.ownsRow.lt k.1 g hg).2),k.2⟩
  | i+1,h=>
   have:=v i (by simpa using h);simp only [World.size_alloc] at this;rw [show u.heap.size+(i+1)=u.heap.size+1+i by omega];exact this
def tbR:List (List Int):=[[0,0],[0],[],[0,1,1,97,1,0],[1,0,1,0,0,1,1,97,3,0],[1,0,1,0,0,1,1,97,2,1,0,1],[0,1,1,97,2,1,0,1],[1,0,1,0,1,2,1,98,2,1,0,1,1,97,2,1,0,2]]
def TW (u:World):World:=(QmR u tbR).alloc (.cells #[.slice (some ⟨u.heap.size,0,none⟩) 2 2,.slice (some ⟨u.heap.size+1,0,none⟩) 1 1,.slice (some ⟨u.heap.size+1+1,0,none⟩) 0 0,.slice (some ⟨u.heap.size+1+1+1,0,none⟩) 6 6,.slice (some ⟨u.heap.size+1+1+1+1,0,none⟩) 10 10,.slice (some ⟨u.heap.size+1+1+1+1+1,0,none⟩) 12 12,.slice (some ⟨u.heap.size+1+1+1+1+1+1,0,none⟩) 8 8,.slice (some ⟨u.heap.size+1+1+1+1+1+1+1,0,none⟩) 18 18] 22)
theorem Qp1 (u:World)(B q:Nat)(hB:B<=u.heap.size)(hq:q<8):∃y m zs,(TW u).cell? ⟨u.heap.size+1+1+1+1+1+1+1+1,q,none⟩=some (.slice y m m)/\ Qgn (TW u) B (.slice y m m) zs/\ zs.length<=1000:=by
 have j:∀r∈tbR,r.length<=1000/\∀z∈r,0<=z/\ z<256:=by decide
 obtain⟨h,k,v⟩:=QgS B tbR u hB j;refine⟨_,_,_,?_,(v q hq).allocs _,(j _ (List.getElem_mem hq)).1⟩;unfold TW;rw [World.cell?_alloc_at _ _ _ _ (by rw [k];rfl)];match q,hq with
 | 0,_|1,_|2,_|3,_|4,_|5,_|6,_|7,_=>rfl
theorem QjY (u:World):Below u.heap.size u (TW u):=by
 obtain⟨j,k,_⟩:=QgS u.heap.size tbR u zL (by decide);exact j.alloc j.size _
theorem Qkf (a:Option Addr)(n c:Nat)(f:Nat ->Int)(w:World)(hnc:n<=c)(hn:n<=9223372036854775807)(U:Seg w a n f)(hf:Byt f):
  Calls Tryz.prog 4 #[.slice a n c] w fun e w'=>(∃v t,e=.returned v/\ Qgn w' w.heap.size v t/\ t.length<=4000000)/\ Below w.heap.size w w':=by
 have M:=hid (QmO a n c f w hnc hn U hf);obtain⟨N,hN⟩:∃N,min n 1000=N:=⟨_,rfl⟩;rw [hN] at M;obtain⟨k,D⟩:∃k,rk f N 0=k:=⟨_,rfl⟩;obtain⟨S,b,x2,hd⟩:=Qo6 f N (rx N 0);have HK:=hid D;have HP:=hid hd.2;have HV:=hid hd.1.1.vd;clear U hf hN D hd;go_enter Tryz.func4,Tryz.ntmps4;go_wp2_with fail;refine M.mono ?_;rintro e w1 ⟨rfl,r1,b1⟩;have H0:k<256:=by have:=QkH r1;rw [HK.out] at this;exact this
 have Hj:=hid b1;have Hm:Hid (w.heap.size+1<=w1.heap.size):=hid r1.lt.1;have HN:=hid (QaW (w.heap.size+1) w.heap.size f N 0 w1 r1);rw [HK.out] at HN;clear r1 b1 M;go_wp2_with fail;refine HN.mono ?_;rintro e w2 ⟨rfl,r2,g2⟩;have Hk:=hid (Qox Hj.out g2 zL);have Hf:Hid (w.heap.size+1<=w2.heap.size):=hid (Nat.le_trans Hm.out g2.size);have E:=hid (HP (w.heap.size+1) w.heap.size w2 Hf.out r2);clear r2 g2 HN Hj Hm HP;go_wp2_with fail;refine E.mono ?_;rintro e j ⟨H,A,x1,B,a2,c2,y2,d2,rfl,P,_,r3,g3⟩;have Hl:=hid (Qox Hk.out g3 zL);have Hg:Hid (w.heap.size+1<=j.heap.size):=hid (Nat.le_trans Hf.out g3.size);have s:Below j.heap.size j ((j.alloc (.cells #[.slice H S.l.length A,.slice x1 S.n B] 29)).alloc (.cells #[.slice a2 b.l.length c2,.slice y2 b.n d2] 29)):=Qak _ _ _;have i:Hid (GsA w ((j.alloc (.cells #[.slice H S.l.length A,.slice x1 S.n B] 29)).alloc (.cells #[.slice a2 b.l.length c2,.slice y2 b.n d2] 29)) j.heap.size H x1 A B S):=hid ⟨(Bx2.made j _ _ _).allocs _,(P.below s).at.1.seg,(P.below s).at.2,P.cp,HV.out,⟨f,N,x2,r3.below (s.mono Hg.out)⟩,Qac Hl.out s⟩;obtain⟨G,Hh⟩:∃G,(j.alloc (.cells #[.slice H S.l.length A,.slice x1 S.n B] 29)).alloc (.cells #[.slice a2 b.l.length c2,.slice y2 b.n d2] 29)=G:=⟨_,rfl⟩;rw [Hh] at i s;have Y:Hid (j.heap.size<G.heap.size):=hid i.bx.lt;have Hw:Hid (w.heap.size<j.heap.size):=hid Hg.out;clear P r3 g3 E Hk Hf Hl HV s;go_upto_if 20 with fail;try rw [Hh]
 clear Hh;go_cut [] from 18 to 23 (fun wx=>∃aa xx cc dd g,Hid (GsA w wx j.heap.size aa xx cc dd g));case first=>
  by_cases Hz:k%16=15
  ·have e1:((k:Int)%16==15)=true:=by simp;omega
   obtain⟨q,hq⟩:∃q:Nat,k/16=q:=⟨_,rfl⟩;have Hy:(k:Int)/16=(q:Int):=by omega
   have Hi:q<16:=by omega
   clear hq;go_wp2_with fail;refine(QoH q Hi G).mono ?_;rintro e w5 ⟨I,X,x5,C,rfl,W,J⟩;obtain⟨L,hL⟩:∃L,loS (30+q%10)=L:=⟨_,rfl⟩;have Hp:QaQ L.R L.F L.T L.n L.l:=by rw [<- hL];exact QnL (by omega)
   rw [hL] at W ⊢;have O:=i.bx.below J Y.out;have k0:=O.c0;have k1:=O.c1;have kf:=O.f;have Hs:Hid (GsA w ((w5.setCell ⟨j.heap.size,0,none⟩ (.slice I L.l.length X)).setCell ⟨j.heap.size,1,none⟩ (.slice x5 L.n C)) j.heap.size I x5 X C L):=hid (by
    have U:=W.move (w1:=(w5.setCell ⟨j.heap.size,0,none⟩ (.slice I L.l.length X)).setCell ⟨j.heap.size,1,none⟩ (.slice x5 L.n C)) zL (by simp [World.setCell]) (fun q q1 q2=>by have:=Y.out;rw [zH _ _ _ _ (by simp;omega),zH _ _ _ _ (by simp;omega)]);have Q:Below j.heap.size w5 ((w5.setCell ⟨j.heap.size,0,none⟩ (.slice I L.l.length X)).setCell ⟨j.heap.size,1,none⟩ (.slice x5 L.n C)):=(zI.setCell (p:=⟨j.heap.size,0,none⟩) zL _).setCell (p:=⟨j.heap.size,1,none⟩) zL _;have hz:=Hw.out;have H3:=Y.out;exact⟨O.set _ _,U.at.1.seg,U.at.2,W.cp,Hp,(i.rd.below (J.mono (by omega))).below (Q.mono hz),(Qac i.low J).trans (Q.mono (by omega))⟩)
   clear O W J Hp hL i;go_wp2_with fail;go_meet;exact⟨_,_,_,_,_,Hs⟩
  ·have e1:((k:Int)%16==15)=false:=by simp;omega
   go_wp2_with fail;go_meet;exact⟨_,_,_,_,_,i⟩
 case rest=>
 obtain⟨aa,xx,cc,dd,g,u⟩:=hcut;clear i Y Hg;have k0:=u.bx.c0;have k1:=u.bx.c1;have HY:=hid (Qhw aa cc g.l xx g.n dd g.R g.F g.T wc u.cp.1 u.cp.2 (by have:=(Qao.1 u.ok.1).2;omega) u.lf u.rn u.ok);have V:=hid (QmK u.ok);obtain⟨Z,hZ⟩:∃Z,psB g.R g.F g.T g.n g.l=Z:=⟨_,rfl⟩;rw [hZ] at HY V;have He:Hid (w.heap.size+1<=wc.heap.size):=hid (u.rd.lt.1);clear hZ;go_wp2_with fail;refine HY.mono ?_;rintro e w6 ⟨v6,rfl,o6,K⟩;have o:Hid (GsB w w6 v6 3000000 Z):=hid ⟨⟨Own.weak o6 He.out,V.1⟩,V.2,Qac u.low K⟩;have Hd:=hid (u.rd.below (K.mono He.out));have Hn:Hid (w.heap.size+1<=w6.heap.size):=hid (Nat.le_trans He.out K.size);clear o6 K k0 k1 u HY V;go_upto_if 28 with fail;go_cut [7] from 26 to 31 (fun v wx=>∃t,Hid (GsB w wx v 3000001 t));case first=>
  by_cases h3:k%3=2
  ·have e1:((k:Int)%3==2)=true:=by simp;omega
   have E:=hid (Qjv (w.heap.size+1) w.heap.size v6 Z (w.heap.size+1) w6 Hd.out o.by' zL Hn.out (by have:=o.len;omega));have Hc:=hid (And.intro o.len o.low);obtain⟨y6,m6,p6,rfl,rfl⟩:=Qen o.by'.1;clear Hd o;go_wp2_with fail;refine E.mono ?_;rintro e w7 ⟨v7,t,rfl,Hx,Ho,_,g7⟩;have Hq:Hid (GsB w w7 v7 3000001 t):=hid ⟨Ho,by have:=Hc.1;omega,Qox Hc.2 g7 zL⟩;clear Hx Ho g7 E Hc;go_wp2_with fail;go_meet;exact⟨t,Hq⟩
  ·have e1:((k:Int)%3==2)=false:=by simp;omega
   go_wp2_with fail;go_meet;exact⟨Z,hid ⟨o.by',by have:=o.len;omega,o.low⟩⟩
 case rest=>
 obtain⟨t,r⟩:=hcut;clear o Hd Hn;have Ha:Hid (w.heap.size<=wc.heap.size):=hid r.low.size;by_cases h6:k%16=6
 ·have e4:((k:Int)%16==4)=false:=by simp;omega
  have e6:((k:Int)%16==6)=true:=by simp;omega
  obtain⟨q,hq⟩:∃q:Nat,k/16%8=q:=⟨_,rfl⟩;have Hy:(k:Int)/16%8=(q:Int):=by omega
  have H1:(0:Int)<=(q:Int):=by omega
  have H2:(q:Int)<8:=by omega
  obtain⟨y,m,zt,hc,Q,hl⟩:=Qp1 wc w.heap.size q r.low.size (by omega);have Ht:=hid Q;have Hu:=hid hl;have Hv:=hid (Qac r.low (QjY wc));unfold TW at hc;simp only [tbR,QmR,List.map_cons,List.map_nil] at hc;clear hq Q hl;go_wp2_with fail;go_ret;have t2:=Hu.out;exact⟨⟨_,zt,rfl,Ht.out,by omega⟩,Hv.out⟩
 ·have e6:((k:Int)%16==6)=false:=by simp;omega
  by_cases h4:k%16=4
  ·have e4:((k:Int)%16==4)=true:=by simp;omega
   obtain⟨y,m,p,rfl,rfl⟩:=Qen r.by'.1;obtain⟨v8,w8,Hb,o8,g8⟩:=Qcl (w.heap.size+1) (.slice y t.length p) t [0] ⟨wc.heap.size,0,none⟩ 1 1 (wc.alloc (.cells #[.int .u8 0] 5)) (World.ownsRow.alloc (w:=wc) r.by'.1 _) rfl (cell_one_new _ _ _) (by simp;have:=Ha.out;omega) (by have:=r.len;omega);have M:=hid o8;have Hr:Hid (Below w.heap.size w w8):=hid ((r.low.alloc r.low.size _).trans (g8.below (by simp;have:=Ha.out;omega) (fun k D=>Nat.le_of_succ_le (World.ownsRow.lt r.by'.1 k D).1)));clear o8 g8;go_wp2_with (at_builtin;refine Qaa rfl _ _ _ _ rfl Hb (by rfl) (by rfl) rfl ?_;clear Hb);go_ret;exact⟨⟨_,t++[0],rfl,⟨Own.weak M.out (Nat.le_succ _),fun z hz=>by
    rcases List.mem_append.1 hz with h|h
    ·exact r.by'.2 z h
    ·simp at h;subst h;omega⟩,by have:=r.len;simp;omega⟩,Hr.out⟩
  ·have e4:((k:Int)%16==4)=false:=by simp;omega
   go_wp2_with fail;go_ret;exact⟨⟨_,t,rfl,⟨Own.weak r.by'.1 (Nat.le_succ _),r.by'.2⟩,by have:=r.len;omega⟩,r.low⟩
end Go.Proofs.YtjdcfkmhmnblbaaGreatDoor
