import Derived.Test.YtmlmkaiibamabaaGreatDoorSyg04
import Derived.RegionTactic
import Derived.ChangeAlike
import Derived.WalkSmall
import Derived.Shelf.SlIter.Collect
import Derived.Laws.BytesArg
import Derived.Laws.Concat
import Derived.Deep.Slices
import Derived.Deep.Strs
set_option linter.unusedVariables false
set_option linter.unusedSimpArgs false
set_option maxRecDepth 100000
set_option maxHeartbeats 40000000
namespace Go.Proofs.YtmlmkaiibamabaaGreatDoor
open Go.ChangeShapes Go.WideShapes Go.ChangeAt Go.RowKit Go.Maps Go.Proofs.Tryz
open Go.Value renaming slice → Uf, int → Ug, pointer → Uk, tuple → Ul, string → Um, bool → Un, agg → Uo
open Go.IntKind renaming i64 → Uh
open Go.Ending renaming returned → Ui
open Go.Obj renaming cells → Uj
open Option renaming none → Up, some → Uq
open Go renaming World → Ur, Addr → Us
open Go.IntKind renaming wrap_u64 → UU
open Go.World renaming cell?_of_block → US, frozen?_of_block → UT, setCell → UL, cell?_setCell_far → UJ, cell?_setCell_other → UN, cell?_setCell_same → UM, cell?_alloc_past → VI, cell?_alloc_at → VH, frozen?_alloc_at → VJ, grownBy_alloc → VG, frozen? → VQ, ownsRow_lit → VF
open Int renaming natCast_nonneg → UI, lt_or_eq_of_le → VR
open Nat renaming lt_of_lt_of_le → Ut, le_trans → Uw, le_refl → Uv, le_succ → Uz, zero_le → Ux, zero_add → VS, mul_one → VT
open List renaming append_assoc → Vg, flatMap_cons → Vs, mem_cons_self → Vc, mem_cons_of_mem → Ve, flatMap_append → VU, flatMap_nil → VV, append_nil → VW, nil_append → VX, length_append → UB, nil_prefix → VY, take_add_one → Vl, getD → UA, take_length → Vn, mem_cons → VZ, cons_append → Ya, prefix_append → Yb, prefix_refl → Yc, map_cons → UD, sum_cons → Vz, map_congr_left → Vy, length → Yd, nodup_nil → Ye, foldl_append → Yf, foldl_cons → Vf, length_singleton → Vx, range_succ → Vj, map_append → UC, getElem?_append_left → Yg, getLast_mem → Yh, map_nil → Vr, range → UW, getElem?_range → Yi, getElem?_map → Yj, getElem?_eq_none → UX, not_mem_nil → Yk
open Option renaming some → Yl, map_eq_some_iff → Ym
variable {B D M V b bm c cb g i k lo n tb ub x x':Nat}{F R T f:Nat ->Int}{J J' acc l la lb ls m:List Lf}{L:Int ->List (Int×Int)}{P:Program}{a:Option Us}{d:Dt}{e:Ending}{kind qf qr qt r:Int}{p:List ByteArray}{q z:List Ky}{row:Option Nat}{s:ByteArray}{sa sb:List Rn}{t':TypeId}{u5 u6 v v' v0 v1 v2 vw:Value}{w' w1 wr:Ur}{x0:Nat×Nat}{xs:List Value}{y:Lf}
variable {EX : Nat -> Option Value}
theorem Qlt {w:Ur}{q:Nat}(h:Cu EX w cb a n c f x)(hV:V<=M)(hm1:M<=1000000)(hq:q+V<=n)(hR:Rb f n x (uvF 9 V) q):
  Cl 234 #[Uk (Uc cb),Ud (M:Int)] w fun e w'=>CuP EX w cb a n c f q (Ul #[Ud (V:Int),.nilIface]) e w':=by
 have m:=hid (uvC h oM hR);have y:=h.hn;have b:IntKind.u64.wrap (M:Int)=(M:Int):=by rw [UU];omega
 have g:decide ((M:Int)<0)=false:=oP;obtain⟨r,t⟩:∃r:Nat,(r:Int)=(n:Int) - (q:Int):=⟨n - q,oM⟩;have p:IntKind.u64.wrap (IntKind.i64.wrap ((n:Int) - (q:Int)))=(r:Int):=by rw [Qat _ oM oM,UU];omega
 have s:IntKind.u64.wrap ((n:Int) - (q:Int))=(r:Int):=by rw [UU];omega
 have o:V<=r:=oM;have i:IntKind.i64.wrap (V:Int)=(V:Int):=Qat _ oM oM;clear h hR;go_enter func234,ntmps234;go_wp2_with fail;refine m.mono ?_;rintro e w1 ⟨rfl,v,k⟩;have u:=hid (And.intro v k);obtain⟨A,E,O,z⟩:=k.cur;clear z v k m;go_wp2_with fail;go_quiet (fail);go_wp2_with fail;go_ret2;exact⟨rfl,u.1.andThen (Qb1 _ _ _) (fun j hj=> .inr hj),u.2.bw (QdL zI _)⟩
theorem Qpv {w:Ur}(h:Cu EX w cb a n c f x)(hV:s.size<=M)(hm1:M<=1000000)(hR:Rb f n x (Qae s) x'):
  Cl 214 #[Uk (Uc cb),Ud (M:Int)] w fun e w'=>CuP EX w cb a n c f x' (Ul #[Um s,.nilIface]) e w':=by
 obtain⟨q,r,S⟩:=hR.app;obtain⟨A,v,F⟩:=S;rw [Qas] at v;have z:=QjY h.byt A;obtain⟨V,Y⟩:=zE s.size;rw [Y] at v z r hV;have p:=hid (Qlt h hV hm1 oM r);have u:=hid h;have He:0<n:=by have:=r.2.1;have:=(Qah 9 V).2;have:=r.2.2;omega
 have D:=h.hn;have Hf:=h.nc;have Hc:=h.cc;have t:=hid z;have N:=hid v;have L:Hid (((q+V:Nat):Int)=(q:Int)+(V:Int)):=hid (by push_cast;rfl);have Hl:q+V<=n:=oM;obtain⟨Z,G,H,_⟩:=h.cur;clear h hR r A v F z Y;go_enter func214,ntmps214;go_wp2_with fail;refine p.mono ?_;rintro e w1 ⟨rfl,O,y⟩;have K:=hid O;have I:=hid y;clear O p Z G H;obtain⟨Z,G,H,R⟩:=y.cur;have Hj:IntKind.i64.wrap (V:Int)=(V:Int):=Qat _ oM oM;have Hk:IntKind.i64.wrap ((q:Int)+(V:Int))=(q:Int)+(V:Int):=Qat _ oM oM;obtain⟨W,m⟩:=zE (w1.setCell (Ua cb 1) (Ud ((q:Int)+(V:Int))));rcases u.seg with h|⟨b,off,rfl,X,Q⟩
 ·omega
 have B:=u.ab _ rfl;have E:Cur EX W cb (Uq (Ua b off)) n c ((q:Int)+(V:Int)):=m▸I.cur.set _;have J:=hid E;obtain⟨j0,j1,j2,P⟩:=E;have g:=hid (show w.grownBy W (Uq cb) from by rw [<- m];exact Qan K (QdZ (Qbe _ _) _));have U:∀i,i<V ->W.cell? (Ua b (off+q+i))=Uq (Ug .u8 (f (q+i))):=fun i hi=>by
  rw [US (g.block b X (by simp;exact B)),Nat.add_assoc];exact Q (q+i) oM
 have C:∀k cap,(convert 22 9 (Uf (Uq (Ua b (off+q))) V cap)).run prog (W.drewN k)=.ok (Um s) (W.drewN k):=fun k cap=>by rw [<- t.out];exact Qe0 u.byt (fun i hi=>U i hi)
 clear Q U;have Hg:(0:Int)<=(q:Int):=UI _;have Hh:(q:Int)<=(q:Int)+(V:Int):=oM;have Hi:(q:Int)+(V:Int)<=(c:Int):=oM;have o:Hid (∀k,CuP EX w cb (Uq (Ua b off)) n c f x' (Ul #[Um s,.nilIface]) (Ui (Ul #[Um s,.nilIface])) (W.drewN k)):=hid (fun k=>⟨rfl,g.andThen (Qb1 _ _ _) (fun j hj=> .inr hj),u.mv (g.andThen (Qb1 _ _ _) (fun j hj=> .inr hj)) (by rw [N.out,L.out];exact J)⟩);clear R P y;by_cases Hd:q<c
 ·go_wp2_with fail;try rw [m]
  clear m;go_quiet (fail);go_wp2_with fail;go_ret2;exact o _
 ·have T:V<=0:=oM;have Ha:c<=q:=oM;have Hb:∀k ad cap,(convert 22 9 (Uf (Uq ad) V cap)).run prog (W.drewN k)=.ok (Um s) (W.drewN k):=fun k ad cap=>by
   obtain rfl:V=0:=oM;rw [<- t.out];exact Qe1 (w:=W.drewN k) ad q cap f
  clear C;go_wp2_with fail;try rw [m]
  clear m;go_quiet (fail);go_wp2_with fail;go_ret2;exact o _
theorem QqF {w:Ur}{D:DataW Value}{G:Int ->Value}(h:QcK w bm n D G L)(r q:Int)(hr:(Lit.int Uh r).wf=true)(hs:Srt (L r))(hl:(L r).length<=1000000):
  Cl 140 #[.map (Uq bm),Uo #[Ud r,Ud q]] w (Rt w (Un (inB (L r) q q))):=Qo6 (fun w' hb=>⟨(h.bw hb).look r hr,_,(h.bw hb).rows r⟩:LkR w bm r (G r) (L r)) q hs hl
theorem QqB {w:Ur}(h:Cu EX w cb a n c f x)(hV:V<=7)(hM:M<=1000000000)(hR:Rb f n x (uvF 9 V++uvF 9 M) x'):
  Cl 235 #[Uk (Uc cb)] w fun e w'=>CuP EX w cb a n c f x' (Ul #[Uo #[Ud (V:Int),Ud (M:Int)],.nilIface]) e w':=by
 obtain⟨y,O,Q⟩:=hR.app;have K:=h.lt;obtain⟨W,j⟩:=zE (w.alloc (Uj #[Ud 0,Ud 0] 83));have k:Bl w W:=j▸zO _ _;have C:W.heap.size=w.heap.size+1:=j▸oP;have A:w.grownBy W (Uq cb):=Qa7 (Qbe w (Uq cb)) k;have o:Bx2 W w.heap.size (Ud 0) (Ud 0):=j▸Bx2.made _ _ _ _;have U:Hid (∀w1,W.grownBy w1 (Uq cb) ->Bx2 w1 w.heap.size (Ud 0) (Ud 0)):=hid (fun w1 g=>o.sm (g.block w.heap.size oM oS) g.size);have u:=hid (QbN (most:=7) (h.bw k) oM oM O);have z:=hid (fun w1(h1:Cu EX w1 cb a n c f y)=>QbN (most:=1000000000) h1 oM oM Q);have J:=hid A;have Y:=hid h;clear h hR O Q A k o C;go_enter func235,ntmps235;go_wp2_with fail;try rw [j]
 clear j;refine u.mono ?_;rintro e w1 ⟨rfl,s,b⟩;have q:=hid (z w1 b);have r:=hid s;clear s b u z;go_wp2_with fail;refine q.mono ?_;rintro e F ⟨rfl,m,p⟩;have i:=U _ (Qan r m);obtain⟨L,N,D⟩:=i.p2;have I:=hid (Qan J (Qan r m));have G:=hid p;clear m p q i;go_wp2_with fail;obtain⟨Z,E,X,B,t,H⟩:=QpA (Ud (V:Int)) (Ud (M:Int)) I G.cur K L N;rw [<- E];clear E;exact bodyPost_ret (v:=Ul #[Uo #[Ud (V:Int),Ud (M:Int)],.nilIface]) (by simp [results,results235,go_sem,X,B]) rfl ⟨rfl,t,Y.mv t H⟩
structure UsD (w:Ur)(ub:Nat)(acc:List Lf)(D:DataW Value):Prop where
 own:w.ownsMap prog 83 QgE ub acc.length D
 tidy:Tidy D
 has':∀r q kl,keyOf prog 83 (QfT r q)=Uq kl ->(has D kl=true↔∃y∈acc,y.r=r/\ y.q=q)
 sz:size D=acc.length
 val:∀r q kl,keyOf prog 83 (QfT r q)=Uq kl ->D.atKey kl (.held (Uo #[]))=.held (Uo #[])
def UsM (w:Ur)(ub:Nat)(acc:List Lf):Prop:=∃D,UsD w ub acc D
theorem UsM.same {w:Ur}(h:UsM w ub acc)(e:w'.heap[ub]? =w.heap[ub]?):UsM w' ub acc:=by
 obtain⟨D,h⟩:=h;exact⟨D,QbO h.own e,h.tidy,h.has',h.sz,h.val⟩
theorem UsM.lt {w:Ur}(h:UsM w ub acc):ub<w.heap.size:=by
 obtain⟨D,h⟩:=h;exact h.own.lt
theorem UsM.made (w:Ur):UsM (w.alloc (.map #[] 0)) w.heap.size []:=
 ⟨.map [],World.ownsMap_made w _ _ _,tidy_empty,fun r q kl hk=>⟨fun h=>by simp [has] at h,fun⟨y,hy,_⟩=>by simp at hy⟩,by simp [size],fun r q kl hk=>rfl⟩
theorem UsD.step {w:Ur}{D:DataW Value}{z:Lf}{kl:Lit}(h:UsD w ub acc D)(hk:keyOf prog 83 (QfT z.r z.q)=Uq kl)(hf:∀y∈acc,¬(y.r=z.r/\ y.q=z.q))
  (ho:w'.ownsMap prog 83 QgE ub (acc.length+1) (D.put kl (.held (Uo #[])))):UsD w' ub (acc++[z]) (D.put kl (.held (Uo #[]))):=by
 have u:=Qau.key hk;have i:=size_put (k:=kl) h.tidy (.held (Uo #[]));have o:¬has D kl=true:=fun hh=>by
  obtain⟨y,j,e⟩:=(h.has' _ _ _ hk).1 hh;exact hf y j e
 refine⟨oU ho,h.tidy.put u _,fun r q kl' hk'=> ?_,?_,fun r q kl' hk'=> ?_⟩
 ·by_cases e:kl'=kl
  ·subst e;obtain⟨g,t⟩:=QeE hk hk';rw [has_put_same h.tidy.isMap u];exact⟨fun _=>⟨z,oP,g,t⟩,fun _=>rfl⟩
  ·rw [has_put_other e,h.has' r q kl' hk'];constructor
   ·rintro⟨y,j,m⟩;exact⟨y,by simp [j],m⟩
   ·rintro⟨y,j,m,v⟩;rcases List.mem_append.1 j with j|j
    ·exact⟨y,j,m,v⟩
    ·simp at j;subst j;rw [m,v,hk'] at hk;injection hk with hk;exact absurd hk e
 ·rw [i,if_neg o,h.sz];simp
 ·by_cases e:kl'=kl
  ·subst e;rw [atKey_put_same h.tidy.isMap u]
  ·rw [atKey_put_other e];exact h.val r q kl' hk'
def exT (kb ub:Nat)(i:Nat):Option Value:=if i=2 then Uq (.map (Uq kb)) else if i=3 then Uq (.map (Uq ub)) else Up
theorem Qlz (w:Ur):(zeroValue 350).run prog w=.ok (Uo #[]) w:=oK
theorem QqO {w:Ur}{kb nn:Nat}{D:DataW Value}{G:Int ->Value}{z:Lf}
  (hcur:Cur (exT kb ub) w tb a n c (x:Int)) (hU:UsM w ub acc) (hG:QcK w kb nn D G L) (hS:∀r,Srt (L r)/\ (L r).length<=1000000) (hr:(Lit.int Uh z.r).wf=true) (hq:(Lit.int Uh z.q).wf=true) (b:inB (L z.r) z.q z.q=true) (hf:∀y∈acc,¬(y.r=z.r/\ y.q=z.q)) (hl:acc.length<1000):
  Cl 236 #[Uk (Uc tb),Uo #[Ud z.r,Ud z.q]] w fun e w'=>e=Ui .nilIface/\ UsM w' ub (acc++[z])/\ w.grownBy w' (Uq ub):=by
 obtain⟨P,B⟩:∃P:Ending ->Ur ->Prop,(fun e w'=>e=Ui .nilIface/\ UsM w' ub (acc++[z])/\ w.grownBy w' (Uq ub))=P:=⟨_,rfl⟩;rw [B];have HP:=hid B;clear B;obtain⟨W,g⟩:=zE (w.alloc (Uj #[Ud z.r,Ud z.q] 83));have Q:Bl w W:=g▸zO _ _;have x0:W.cell? (Ub w.heap.size)=Uq (Ud z.r):=g▸oP;have R:W.cell? (Ua w.heap.size 1)=Uq (Ud z.q):=g▸oP;have S:w.heap.size<W.heap.size:=g▸oP;have V:=hcur.bw Q hcur.lt;have T:=V.lt;have kc:W.cell? (Ua tb 2)=Uq (.map (Uq kb)):=(V.2.2.2 2 oM).1.trans rfl;have uc:W.cell? (Ua tb 3)=Uq (.map (Uq ub)):=(V.2.2.2 3 oM).1.trans rfl;have E:Hid (∀w1,Bl W w1 ->Cl 140 #[.map (Uq kb),Uo #[Ud z.r,Ud z.q]] w1 (Rt w1 (Un true))):=hid (fun w1 U=>b▸QqF (hG.bw (Qaa Q U)) z.r z.q hr (hS z.r).1 (hS z.r).2);have Hg:=hid Q;have X:=hid hU;have Hc:=hid hf;obtain⟨I,He⟩:=QdP hr hq;have t:=hid He;clear hU hG hS hcur V Q He b hf;obtain⟨N,Z⟩:=zE z.r;obtain⟨J,Y⟩:=zE z.q;rw [Z] at x0 E;rw [Y] at R E;rw [Z,Y] at g t ⊢;have O:=hid (And.intro Z Y);clear Z Y hr hq;go_enter func236,ntmps236;go_wp2_with fail;try rw [g]
 clear g;have A:Hid (∀w',Bl W w' ->(Bl W w'/\ w'.cell? (Ua tb 2)=Uq (.map (Uq kb))/\ w'.cell? (Ub w.heap.size)=Uq (Ud N)/\ w'.cell? (Ua w.heap.size 1)=Uq (Ud J))):=hid (fun w' j=>⟨j,(j.cell (p:=(Ua tb _)) T).trans kc,(j.cell (p:=(Ua w.heap.size _)) S).trans x0,(j.cell (p:=(Ua w.heap.size _)) S).trans R⟩);refine zS A (fun qh=> ?_);refine tZ 0 7 ?_;refine tZ 1 8 ?_;refine tZ 2 9 ?_;refine tZ 3 10 ?_;refine tZ 4 11 ?_;refine cZ 5 ?_;intro K b;go_simp;refine(E _ qh.1).mono ?_;rintro e w1 ⟨rfl,U⟩;have j:=Qaa qh.1 U;refine b.out _ _ (A _ j) (fun qh=> ?_);clear b K;try simp only [zP]
 refine tZ 6 13 ?_;refine zD ?_;obtain⟨_,_,y0,y1⟩:=A _ j;have Hj:=(j.cell (p:=(Ua tb 3)) T).trans uc;have Hb:=hid (Qaa Hg j);have M:=hid (X.same (Hb.block ub X.lt));have Hd:=hid j.size;clear qh j U A E kc uc x0 R X;obtain⟨s,h⟩:=M.out;have hT:has s I=false:=by
  cases e:has s I with
  | false=>rfl
  | true=>
   obtain⟨y,hy,e1,e2⟩:=(h.has' N J I t).1 e;exact absurd ⟨e1.trans O.1.symm,e2.trans O.2.symm⟩ (Hc y hy)
 have C:∀v:Ur,v.heap[ub]? =w1.heap[ub]? ->(Instr.lookup 229 (.map (Uq ub)) (Uo #[Ud N,Ud J]) true).run prog v=.ok (Ul #[Uo #[],Un false]) v:=fun v hv=>by
  have F:v.ownsMap prog 83 QgE ub acc.length s:=QbO h.own hv;obtain⟨u,ps,Ha,hu⟩:=F.look_ok Qau underlying229 (Qlz v) (zd:=.held (Uo #[])) (zp:=[]) rfl t;have H:=QdA hu;have Hi:=h.val N J I t;rw [Hi] at H;injection H with H;rw [<- H,hT] at Ha;exact Ha
 have Hl:=C w1.drew rfl;have m:Bl w1 (w1.alloc (Uj #[] 350)):=zO _ _;have Hf:w.heap.size<w1.heap.size:=Ut S Hd;have Hk:tb<w1.heap.size:=Ut T Hd;have Hn:=(m.cell (p:=(Ub w.heap.size)) Hf).trans y0;have Ho:=(m.cell (p:=(Ua w.heap.size 1)) Hf).trans y1;have Hp:=(m.cell (p:=(Ua tb 3)) Hk).trans Hj;have Hh:=C (w1.alloc (Uj #[] 350)).drew (m.block ub M.lt);have Hm:(Builtin.len_ #[229] 3 #[.map (Uq ub)]).run prog (w1.alloc (Uj #[] 350)).drew=.ok (Ud (acc.length:Int)) (w1.alloc (Uj #[] 350)).drew:=by
  have F:(w1.alloc (Uj #[] 350)).drew.ownsMap prog 83 QgE ub acc.length s:=QbO h.own (m.block ub M.lt);have:=F.len underlying229 3;rw [h.sz] at this;exact this
 obtain⟨w9,r9,o9,i⟩:=(QbO (w':=(w1.alloc (Uj #[] 350)).drew.drew) h.own (m.block ub M.lt)).update Qau underlying229 oL t (val:=Uo #[]) (d:=.held (Uo #[])) (ps:=[]) rfl;have H9:Hid (UsM w9 ub (acc++[z])/\ w.grownBy w9 (Uq ub)):=hid ⟨⟨_,h.step (by have:=t.out;rw [<- O.1,<- O.2] at this;exact this) Hc o9⟩,by
  have o:=(Qaa Hb m);exact⟨i.os.trans o.os,i.tape.trans o.tape,i.output.trans o.output,Uw o.size i.size,fun k hk hne=>(i.block k (Ut hk o.size) hne).trans (o.block k hk)⟩⟩
 have dl:((acc.length:Int)==1000)=false:=oS;unfold QfT at r9;clear o9 i h C m hT;go_wp2_with fail;go_region;all_goals go_wp2_with fail
 all_goals go_region
 all_goals go_wp2_with fail
 all_goals (rw [<- HP.out];exact⟨rfl,H9.1,H9.2⟩)
structure G2 (tb ub:Nat)(w w':Ur):Prop where
 os:w'.os=w.os
 tape:w'.tape=w.tape
 output:w'.output=w.output
 size:w.heap.size<=w'.heap.size
 block:∀k,k<w.heap.size ->k≠tb ->k≠ub ->w'.heap[k]? =w.heap[k]?
theorem G2.trans{a b c:Ur}(h:G2 tb ub a b)(k:G2 tb ub b c):G2 tb ub a c:=
 ⟨k.os.trans h.os,k.tape.trans h.tape,k.output.trans h.output,Uw h.size k.size,fun g hg h1 h2=>(k.block g (Ut hg h.size) h1 h2).trans (h.block g hg h1 h2)⟩
theorem G2.bw{w:Ur}(h:Bl w w'):G2 tb ub w w':=⟨h.os,h.tape,h.output,h.size,fun k hk _ _=>h.block k hk⟩
theorem G2.t{w:Ur}(h:w.grownBy w' (Uq tb)):G2 tb ub w w':=⟨h.os,h.tape,h.output,h.size,fun k hk h1 _=>h.block k hk (fun e=>h1 (by injection e))⟩
theorem G2.u{w:Ur}(h:w.grownBy w' (Uq ub)):G2 tb ub w w':=⟨h.os,h.tape,h.output,h.size,fun k hk _ h2=>h.block k hk (fun e=>h2 (by injection e))⟩
theorem G2.cell{w:Ur}(h:G2 tb ub w w')(hk:k<w.heap.size)(h1:k≠tb)(h2:k≠ub):w'.cell? (Ua k i)=w.cell? (Ua k i):=US (a:=(Ua k i)) (h.block k hk h1 h2)
theorem G2.frozen{w:Ur}(h:G2 tb ub w w')(hk:k<w.heap.size)(h1:k≠tb)(h2:k≠ub):w'.frozen? (Ua k i)=w.frozen? (Ua k i):=UT (a:=(Ua k i)) (h.block k hk h1 h2)
theorem G2.set{w:Ur}(h:G2 tb ub w w')(q:Us)(v:Value)(hq:w.heap.size<=q.block):G2 tb ub w (w'.setCell q v):=
 ⟨h.os,h.tape,h.output,by simpa [UL] using h.size,fun k hk h1 h2=>(zH _ _ _ _ oM).trans (h.block k hk h1 h2)⟩
structure Ev where
 tb:Nat
 kb:Nat
 ub:Nat
 bs:Nat
 hi:Nat
 n:Nat
 c:Nat
 a:Option Us
 f:Nat ->Int
 L:Int ->List (Int×Int)
abbrev Gv (E:Ev):=G2 E.tb E.ub
abbrev Rv (E:Ev):=Rb E.f E.n
structure TS (E:Ev)(w:Ur)(x:Nat)(acc:List Lf):Prop where
 cu:Cu (exT E.kb E.ub) w E.tb E.a E.n E.c E.f x
 us:UsM w E.ub acc
 grp:∃nn D G,QcK w E.kb nn D G E.L/\∀r g,(G r).ownBlock=Uq g ->E.bs<=g/\ g<E.hi
 ab:∀y,E.a=Uq y ->y.block≠E.ub/\ y.block<E.hi
 ne:E.tb≠E.ub
 tl:E.tb<E.bs
 ul:E.ub<E.bs
 kl:E.bs<=E.kb
 kh:E.kb<E.hi
 srt:∀r,Srt (E.L r)/\ (E.L r).length<=1000000
 kok:∀r q,inB (E.L r) q q=true ->0<=r/\ r<=7/\ 1<=q/\ q<=1000000000
section
variable {w w' v v' : Ur} {E : Ev} {x x' : Nat} {acc acc' : List Lf}
theorem TS.t (h:TS E w x acc)(g:w.grownBy w' (Uq E.tb))(cu:Cu (exT E.kb E.ub) w' E.tb E.a E.n E.c E.f x'):TS E w' x' acc:=by
 obtain⟨q,D,G,m,j⟩:=h.grp;refine⟨cu,h.us.same (g.block E.ub h.us.lt (fun e=>h.ne (by injection e with e;exact e.symm))),⟨q,D,G,m.gr g (fun e=> ?_) (fun r k hk e=> ?_),j⟩,h.ab,h.ne,h.tl,h.ul,h.kl,h.kh,h.srt,h.kok⟩
 ·injection e with e;have:=h.tl;have:=h.kl;omega
 ·injection e with e;have:=h.tl;have:=(j r k hk).1;omega
theorem Cu.far {EX:Nat ->Option Value}{cb n c b:Nat}{a:Option Us}{f:Nat ->Int}(h:Cu EX w cb a n c f x)(g:w.grownBy w' (Uq b))(h1:cb≠b)(h2:∀y,a=Uq y ->y.block≠b):Cu EX w' cb a n c f x:=
 ⟨h.cur.at' (g.block cb h.lt (fun e=>h1 (by injection e))),h.seg.grown g h2,h.ab,h.hn,h.nc,h.cc,h.byt⟩
theorem TS.u (h:TS E w x acc)(g:w.grownBy w' (Uq E.ub))(us:UsM w' E.ub acc'):TS E w' x acc':=by
 obtain⟨q,D,G,m,j⟩:=h.grp;refine⟨h.cu.far g h.ne (fun y hy=>(h.ab y hy).1),us,⟨q,D,G,m.gr g (fun e=> ?_) (fun r k hk e=> ?_),j⟩,h.ab,h.ne,h.tl,h.ul,h.kl,h.kh,h.srt,h.kok⟩
 ·injection e with e;have:=h.ul;have:=h.kl;omega
 ·injection e with e;have:=h.ul;have:=(j r k hk).1;omega
theorem TS.bw (h:TS E w x acc)(hb:Bl w w'):TS E w' x acc:=by
 obtain⟨m,D,G,j,k⟩:=h.grp;exact⟨h.cu.bw hb,h.us.same (hb.block E.ub h.us.lt),⟨m,D,G,j.bw hb,k⟩,h.ab,h.ne,h.tl,h.ul,h.kl,h.kh,h.srt,h.kok⟩
theorem TS.gr (h:TS E w x acc){b:Nat}(g:w.grownBy w' (Uq b))(hb:E.hi<=b):TS E w' x acc:=by
 obtain⟨q,D,G,m,j⟩:=h.grp;have u:=h.tl;have v:=h.ul;have z:=h.kl;have t:=h.kh;exact⟨h.cu.far g oM (fun y hy=>oH ((h.ab y hy).2)),h.us.same (g.block E.ub h.us.lt (fun e=>oI e)),⟨q,D,G,m.gr g (fun e=>oI e) (fun r k hk e=>by injection e with e;have:=(j r k hk).2;omega),j⟩,h.ab,h.ne,h.tl,h.ul,h.kl,h.kh,h.srt,h.kok⟩
theorem TS.setF (h:TS E w x acc)(q:Us)(v:Value)(hq:E.hi<=q.block):TS E (w.setCell q v) x acc:=h.gr (Qa6 w q v) hq
theorem TS.low (h:TS E w x acc):E.tb<w.heap.size/\ E.ub<w.heap.size:=⟨h.cu.lt,h.us.lt⟩
structure RB (v:Ur)(b:Nat):Prop where
 c0:∃u,v.cell? (Ub b)=Uq (Ud u)
 c1:∃u,v.cell? (Ua b 1)=Uq (Ud u)
 c2:∃u,v.cell? (Ua (b+1) 0)=Uq (Um u)
 f0:∀i,v.frozen? (Ua b i)=false
 f1:∀i,v.frozen? (Ua (b+1) i)=false
 lt:b+1<v.heap.size
theorem RB.q2 {v:Ur}{b:Nat}(h:RB v b):(∃u,v.cell? (Ub b)=Uq (Ud u))/\ (∃u,v.cell? (Ua b 1)=Uq (Ud u)):=⟨h.c0,h.c1⟩
theorem RB.q3 {v:Ur}{b:Nat}(h:RB v b):(∃u,v.cell? (Ub b)=Uq (Ud u))/\ (∃u,v.cell? (Ua b 1)=Uq (Ud u))/\ (∃u,v.cell? (Ua (b+1) 0)=Uq (Um u)):=⟨h.c0,h.c1,h.c2⟩
theorem RB.g2 {b tb ub:Nat}(h:RB v b)(g:G2 tb ub v v')(h1:tb<b)(h2:ub<b):RB v' b:=by
 have l:=h.lt;obtain⟨q,j⟩:=h.c0;obtain⟨r,k⟩:=h.c1;obtain⟨u,m⟩:=h.c2;exact⟨⟨q,(g.cell oM oM oM).trans j⟩,⟨r,(g.cell oM oM oM).trans k⟩,⟨u,(g.cell oM oM oM).trans m⟩,fun i=>(g.frozen oM oM oM).trans (h.f0 i),fun i=>(g.frozen oM oM oM).trans (h.f1 i),Ut l g.size⟩
theorem RB.fill {b tb ub:Nat}(h:RB v b)(g:G2 tb ub w v)(hb:w.heap.size<=b)(r q:Int)(s:ByteArray):
  ∃Z,Z=((v.setCell (Ub b) (Ud r)).setCell (Ua b 1) (Ud q)).setCell (Ua (b+1) 0) (Um s)/\ Z.cell? (Ub b)=Uq (Ud r)/\ Z.cell? (Ua b 1)=Uq (Ud q)/\ Z.cell? (Ua (b+1) 0)=Uq (Um s)/\ G2 tb ub w Z:=by
 obtain⟨u,j⟩:=h.c0;obtain⟨y,k⟩:=h.c1;obtain⟨z,m⟩:=h.c2;refine⟨_,rfl,?_,?_,?_,((g.set _ _ hb).set _ _ hb).set _ _ oS⟩
 ·rw [UJ _ _ _ _ oP,UN _ _ _ _ oP];exact UM _ _ _ j
 ·rw [UJ _ _ _ _ oP];exact UM _ _ _ (by rw [UN _ _ _ _ oP];exact k)
 ·exact UM _ _ _ (by rw [UJ _ _ _ _ oP,UJ _ _ _ _ oP];exact m)
theorem TS.fill {b:Nat}(t:TS E v x acc)(ht:E.hi<=b)(r q:Int)(s:ByteArray):TS E (((v.setCell (Ub b) (Ud r)).setCell (Ua b 1) (Ud q)).setCell (Ua (b+1) 0) (Um s)) x acc:=
 ((t.setF _ _ ht).setF _ _ ht).setF _ _ oS
end
theorem QiC (w:Ur)(c0 c1 c2:Array Value)(t0 t1 t2:TypeId):(∀i,(((w.alloc (.cells c0 t0)).alloc (.cells c1 t1)).alloc (.cells c2 t2)).cell? (Ua w.heap.size i)=c0[i]?)/\ (∀i,(((w.alloc (.cells c0 t0)).alloc (.cells c1 t1)).alloc (.cells c2 t2)).cell? (Ua (w.heap.size+1) i)=c1[i]?)/\ (∀i,(((w.alloc (.cells c0 t0)).alloc (.cells c1 t1)).alloc (.cells c2 t2)).cell? (Ua (w.heap.size+1+1) i)=c2[i]?)/\ (∀i,(((w.alloc (.cells c0 t0)).alloc (.cells c1 t1)).alloc (.cells c2 t2)).frozen? (Ua (w.heap.size+1) i)=false)/\ (∀i,(((w.alloc (.cells c0 t0)).alloc (.cells c1 t1)).alloc (.cells c2 t2)).frozen? (Ua (w.heap.size+1+1) i)=false):=by
 refine⟨fun i=> ?_,fun i=> ?_,fun i=> ?_,fun i=> ?_,fun i=> ?_⟩
 ·rw [VI _ _ _ oS,VI _ _ _ oP,VH _ _ _ _ rfl]
 ·rw [VI _ _ _ oP,VH _ _ _ _ oP]
 ·rw [VH _ _ _ _ oP]
 ·rw [World.frozen?_alloc_past _ _ _ oP,VJ _ _ _ _ oP]
 ·rw [VJ _ _ _ _ oP]
theorem Qqc {w:Ur}{E:Ev}{br bq:Int}{z:Lf}(hk:kind=1 \/kind=2)(hT:TS E w x acc)(hhi:E.hi<=w.heap.size)(hl:acc.length<1000)
  (hz:(0<=z.r/\ z.r<=7)/\ 0<=z.q/\ z.q<=1000000000) (hv:z.v.size<=200) (he:kind=2 ->z.v=ByteArray.empty) (hK:inB (E.L z.r) z.q z.q=true) (hc:Qkv br bq z.r z.q<0) (hf:∀y∈acc,¬(y.r=z.r/\ y.q=z.q)) (hR:Rv E x (lfB kind z) x'):
  Cl 215 #[Uk (Uc E.tb),Ud kind,Uo #[Ud br,Ud bq]] w fun e w'=>e=Ui (Ul #[Uo #[Ud z.r,Ud z.q],Uo #[Um z.v],.nilIface])/\ Gv E w w'/\ TS E w' x' (acc++[z]):=by
 obtain⟨W,I⟩:=zE (((w.alloc (Uj #[Ud br,Ud bq] 83)).alloc (Uj #[Ud 0,Ud 0] 83)).alloc (Uj #[Um ⟨#[]⟩] 169));have b0:Bl w W:=I▸((zO _ _).alloc oP _).alloc oS _;have zW:W.heap.size=w.heap.size+1+1+1:=I▸oP;obtain⟨R,S,m2,m3,m4⟩:=QiC w #[Ud br,Ud bq] #[Ud 0,Ud 0] #[Um ⟨#[]⟩] 83 83 169;rw [I] at R S m2 m3 m4;have x0:W.cell? (Ub w.heap.size)=Uq (Ud br):=R 0;have x1:W.cell? (Ua w.heap.size 1)=Uq (Ud bq):=R 1;have R0:RB W (w.heap.size+1):=⟨⟨0,S 0⟩,⟨0,S 1⟩,⟨⟨#[]⟩,m2 0⟩,m3,m4,oM⟩;clear R S m2 m3 m4;obtain⟨yq,Q,k⟩:=(show Rv E x ((uvF 9 z.r.toNat++uvF 9 z.q.toNat)++if kind=1 then Qae z.v else []) x' from by rw [Vg];exact hR).app;have Hb:=hid k;have T0:=hT.bw b0;have Hx:=hT.low;have K:=hid (QqB (V:=z.r.toNat) (M:=z.q.toNat) T0.cu oM oM Q);rw [show ((z.r.toNat:Nat):Int)=z.r by omega,show ((z.q.toNat:Nat):Int)=z.q by omega] at K;have Hd:Hid (∀u y,TS E u y acc ->Cl 236 #[Uk (Uc E.tb),Uo #[Ud z.r,Ud z.q]] u fun e w'=>e=Ui .nilIface/\ UsM w' E.ub (acc++[z])/\ u.grownBy w' (Uq E.ub)):=hid (fun u y t=>by
  obtain⟨nn,D,G,Hw,_⟩:=t.grp;exact QqO t.cu.cur t.us Hw t.srt (wfI oM oM) (wfI oM oM) hK hf hl)
 have HV:=hid (And.intro hv he);obtain⟨r,P⟩:=zE z.r;obtain⟨q,F⟩:=zE z.q;obtain⟨s,hs⟩:=zE z.v;rw [P,F] at K Hd;rw [P,F] at hc;rw [hs] at HV Hb;rw [P,F,hs];have Ht:=hid T0;have Hs:=hid R0;have Hq:=hid (G2.bw (tb:=E.tb) (ub:=E.ub) b0);have HZ:=hid zW;have HX:=hid (And.intro x0 x1);clear hT T0 R0 b0 zW x0 x1 Q k hR hz hv he hK hf P F hs;go_enter func215,ntmps215;go_wp2_with fail;try rw [I]
 clear I;have B:E.tb<w.heap.size+1:=oM;have C:E.ub<w.heap.size+1:=oM;refine K.mono ?_;rintro e w1 ⟨rfl,X,h⟩;have T1:=Ht.t X h;obtain⟨i,Hf⟩:=zE (w1.alloc (Uj #[Ud r,Ud q] 83));have bA:Bl w1 i:=Hf▸zO _ _;have j:Bx2 i w1.heap.size (Ud r) (Ud q):=Hf▸Bx2.made _ _ _ _;have Hy:w.heap.size+1+1+1<=w1.heap.size:=oJ X.size HZ;have H:Gv E W i:=(G2.t X).trans (G2.bw bA);have Hh:=hid (Hq.trans H);have Hj:=hid (Hs.g2 H B C);have Hl:=hid (T1.bw bA);have y0:i.cell? (Ub w.heap.size)=Uq (Ud br):=(H.cell (oH HZ) oM oM).trans HX.1;have y1:i.cell? (Ua w.heap.size 1)=Uq (Ud bq):=(H.cell (oH HZ) oM oM).trans HX.2;obtain⟨b,p⟩:=j.q2;have g:=hid j;have Hg:=hid (QdO br bq r q i);clear X h T1 bA K H j;go_wp2_with fail;clear Hf b p y0 y1;refine Hg.mono ?_;rintro e w2 ⟨rfl,Y⟩;obtain⟨cv,Hn⟩:=zE (Qkv br bq r q);rw [Hn] at hc ⊢;have dc:decide (0<=cv)=false:=oS;have Hi:=hid (Hh.trans (G2.bw Y));have Hk:=hid (Hj.g2 (G2.bw (tb:=E.tb) (ub:=E.ub) Y) B C);have Hc:=hid (Hl.bw Y);have j:=g.bw Y g.lt;obtain⟨b,p⟩:=j.q2;have T:=hid j;have HU:=hid (Hd w2 _ Hc);clear Hg Y Hh Hj Hl g Hn j Hd;go_wp2_with fail;clear b p;refine HU.mono ?_;clear HU;rintro e w3 ⟨rfl,us,A⟩;have N:=hid (Hc.u A us);have Ha:=hid (Hi.trans (G2.u A));have m:=hid (Hk.g2 (G2.u (tb:=E.tb) A) B C);have j:=T.sm (A.block w1.heap.size T.lt (fun e=>oI e)) A.size;have Hp:w.heap.size<=w.heap.size+1:=oM;have Ho:E.hi<=w.heap.size+1:=oM;obtain⟨b,p⟩:=j.q2;have g:=hid j;clear Hc Hi Hk us A T j;rcases hk with rfl|rfl
 ·have Hm:=hid (Qpv (M:=200) N.cu HV.1 oM (by have:=Hb.out;rw [if_pos rfl] at this;exact this));go_wp2_with fail;clear b p;refine Hm.mono ?_;clear Hm;rintro e w4 ⟨rfl,O,h⟩;have Hu:=hid (N.t O h);have Hr:=hid (Ha.trans (G2.t O));have o:=hid (m.g2 (G2.t (ub:=E.ub) O) B C);have j:=g.sm (O.block w1.heap.size g.lt (fun e=>oI e)) O.size;obtain⟨b,p⟩:=j.q2;obtain⟨u0,k0⟩:=o.c0;obtain⟨u1,k1⟩:=o.c1;obtain⟨u2,k2⟩:=o.c2;have f0:=o.f0;have f1:=o.f1;clear N Ha m h O g j;go_wp2_with fail;obtain⟨Z,J,q0,Q,k,He⟩:=o.fill Hr Hp r q s;have U:=Hu.fill Ho r q s;rw [<- J] at U ⊢;clear J;exact bodyPost_ret (v:=Ul #[Uo #[Ud r,Ud q],Uo #[Um s],.nilIface]) (by simp [results,results215,go_sem,q0,Q,k]) rfl ⟨rfl,He,U⟩
 ·obtain⟨u0,k0⟩:=m.c0;obtain⟨u1,k1⟩:=m.c1;obtain⟨u2,k2⟩:=m.c2;have f0:=m.f0;have f1:=m.f1;obtain rfl:s=⟨#[]⟩:=HV.2 rfl;have Hv:Hid (x'=yq):=hid (by have:=Hb.out;rw [if_neg oD] at this;exact this.nil);go_wp2_with fail;obtain⟨Z,J,q0,Q,k,He⟩:=m.fill Ha Hp r q ⟨#[]⟩;have U:=N.fill Ho r q ⟨#[]⟩;rw [<- J] at U ⊢;clear J;exact bodyPost_ret (v:=Ul #[Uo #[Ud r,Ud q],Uo #[Um ⟨#[]⟩],.nilIface]) (by simp [results,results215,go_sem,q0,Q,k]) rfl ⟨rfl,He,by rw [Hv.out];exact U⟩
variable {EX : Nat -> Option Value}
theorem Qgv {w:Ur}{k:Int}(h:Cu EX w tb a n c f x)(h0:s.size≠0)(h40:s.size<=40)(hR:Rb f n x (Qae s++[k]) x'):
  Cl 188 #[Uk (Uc tb)] w fun e w'=>CuP EX w tb a n c f x' (Ul #[Uo #[Um s,Ud k],.nilIface]) e w':=by
 obtain⟨y,G,H⟩:=hR.app;obtain⟨z,O,I⟩:=H.cons;have Q:=I.nil;obtain⟨W,m⟩:=zE (w.alloc (Uj #[Um ⟨#[]⟩,Ud 0] 174));have r:Bl w W:=m▸zO _ _;have q:Bx2 W w.heap.size (Um ⟨#[]⟩) (Ud 0):=m▸Bx2.made _ _ _ _;have D:=h.lt;have X:Hid (w.grownBy W (Uq tb)):=hid (Qa7 (Qbe w (Uq tb)) r);have b:=hid (Qpv (M:=40) (h.bw r) h40 oM G);have i:Hid (∀u,Cu EX u tb a n c f y ->Cl 212 #[Uk (Uc tb)] u fun e w'=>CuP EX u tb a n c f (y+1) (Ul #[Ug .u8 k,.nilIface]) e w'):=hid (fun u hu=>z▸QoR hu O);have F:s.toList.isEmpty=false:=by
  cases e:s.toList.isEmpty with
  | false=>rfl
  | true=>exact absurd (by rw [Lib.toList_data] at e;obtain⟨⟨l⟩⟩:=s;cases l with|nil=>rfl|cons a l=>cases e) h0
 have Y:=h.byt y;rw [z] at Y;obtain⟨Ha,Hb⟩:=Y;have C:=hid Q;have K:=hid h;have J:Hid (∀w1,W.grownBy w1 (Uq tb) ->Bx2 w1 w.heap.size (Um ⟨#[]⟩) (Ud 0)):=hid (fun w1 g=>q.sm (g.block w.heap.size q.lt oS) g.size);clear h hR G H I z O Q r q h0;go_enter func188,ntmps188;go_wp2_with fail;try rw [m]
 clear m;refine b.mono ?_;clear b;rintro e w1 ⟨rfl,U,j⟩;have p:=hid (i w1 j);have o:=hid U;clear U j i;go_wp2_with fail;refine p.mono ?_;clear p F;rintro e w2 ⟨rfl,t,j⟩;have E:=J _ (Qan o t);obtain⟨P,R,kf⟩:=E.p2;have B:=hid (Qan X (Qan o t));have L:=hid j;clear t j E;go_wp2_with fail;obtain⟨Z,V,S,T,A,N⟩:=QpA (Um s) (Ud k) B L.cur D P R;try rw [<- V]
 clear V;exact bodyPost_ret (v:=Ul #[Uo #[Um s,Ud k],.nilIface]) (by simp [results,results188,go_sem,S,T]) rfl ⟨rfl,A,by rw [C.out];exact K.mv A N⟩
theorem Qgf (x y:Ky)(w:Ur):Cl 126 #[Uo #[Um x.1,Ud x.2],Uo #[Um y.1,Ud y.2]] w fun e w'=>e=Ui (Ud (QcR x y))/\ Bw w w':=by
 obtain⟨s,k⟩:=x;obtain⟨q,m⟩:=y;dsimp only;obtain⟨W,u⟩:=zE ((w.alloc (Uj #[Um s,Ud k] 174)).alloc (Uj #[Um q,Ud m] 174));have b:Bw w W:=by rw [<- u];exact⟨Qad _ _ _,Uv _⟩
 have t:Bx2 W w.heap.size (Um s) (Ud k):=u▸(Bx2.made w _ _ _).allocs _;have o:Bx2 W (w.heap.size+1) (Um q) (Ud m):=by rw [<- u];simpa using Bx2.made (w.alloc (Uj #[Um s,Ud k] 174)) (Um q) (Ud m) 174
 have v:=hid b;have h:=hid t;have g:=hid o;clear b t o;go_enter func126,ntmps126;go_wp2_with fail;try rw [u]
 clear u;have z:Hid (∀w',Bw W w' ->(Bw W w'/\ w'.cell? (Ub w.heap.size)=Uq (Um s)/\ w'.cell? (Ua w.heap.size 1)=Uq (Ud k)/\ w'.cell? (Ua (w.heap.size+1) 0)=Uq (Um q)/\ w'.cell? (Ua (w.heap.size+1) 1)=Uq (Ud m))):=hid (fun w' r=>by
  have x0:=h.bw r.1 h.lt;have p:=g.bw r.1 g.lt;exact⟨r,x0.c0,x0.c1,p.c0,p.c1⟩)
 refine zA z ⟨zI.drew,Uz _⟩ (fun qh=> ?_);refine tZ 0 5 ?_;refine tZ 1 6 ?_;refine tZ 2 7 ?_;refine tZ 3 8 ?_;refine tZ 5 10 ?_;refine tZ 6 11 ?_;refine tZ 7 12 ?_;refine tZ 8 13 ?_;refine cZ 4 ?_;intro K j;go_simp;refine(QiT s q _).mono ?_;rintro e w1 ⟨rfl,rfl⟩;refine j.out _ _ qh (fun qh=> ?_);clear j K;try simp only [zP]
 refine cZ 9 ?_;intro K j;go_simp;refine(Qcd k m _).mono ?_;rintro e E ⟨rfl,rfl⟩;refine j.out _ _ qh (fun qh=> ?_);clear j K;try simp only [zP]
 refine cZ 10 ?_;intro K j;go_simp;have r:Bw W (W.drew.alloc (Uj #[Ud (QbI s q),Ud (QaZ k m)] 3)):=⟨qh.1.1.alloc qh.1.1.size _,qh.1.2⟩;refine j.out _ _ (z _ r) (fun qh=> ?_);clear j K;try simp only [zP]
 refine cZ 11 ?_;intro K j;go_simp;refine(QiR _ 2 2 (fun i=>if i=0 then QbI s q else QaZ k m) _ oM (fun i hi=> ?_)).mono ?_
 ·match i,hi with
  | 0,_=>simp
  | 1,_=>simp
 rintro e M ⟨rfl,rfl⟩;refine j.out _ _ qh (fun qh=> ?_);clear j K;try simp only [zP]
 refine tZ 12 4 ?_;refine zD ?_;have A:Hid (Bw w (W.drew.alloc (Uj #[Ud (QbI s q),Ud (QaZ k m)] 3))):=hid ⟨v.1.trans (qh.1.1.mono v.1.size),Uw v.2 qh.1.2⟩;clear qh r;go_wp2_with fail;go_ret;exact⟨QbF nz2,A⟩
theorem QqG {w:Ur}{bs:ByteArray}{k bk:Int}(h:Cu EX w tb a n c f x)(h0:s.size≠0)(h40:s.size<=40)(hc:QcR (bs,bk) (s,k)<0)(hR:Rb f n x (Qae s++[k]) x'):
  Cl 156 #[Uk (Uc tb),Uo #[Um bs,Ud bk]] w fun e w'=>CuP EX w tb a n c f x' (Ul #[Uo #[Um s,Ud k],.nilIface]) e w':=by
 obtain⟨W,j⟩:=zE ((w.alloc (Uj #[Um bs,Ud bk] 174)).alloc (Uj #[Um ⟨#[]⟩,Ud 0] 174));have m:Bl w W:=j▸Qad _ _ _;have z:Bx2 W w.heap.size (Um bs) (Ud bk):=j▸(Bx2.made w _ _ _).allocs _;have u:Bx2 W (w.heap.size+1) (Um ⟨#[]⟩) (Ud 0):=by rw [<- j];simpa using Bx2.made (w.alloc (Uj #[Um bs,Ud bk] 174)) (Um ⟨#[]⟩) (Ud 0) 174
 have S:=h.lt;have D:Hid (w.grownBy W (Uq tb)):=hid (Qa7 (Qbe w (Uq tb)) m);have Q:=hid (Qgv (h.bw m) h0 h40 hR);have Ha:=(h.bw m).cur.2.1;have X:=hid h;have A:Hid (∀w1,W.grownBy w1 (Uq tb) ->Bx2 w1 w.heap.size (Um bs) (Ud bk)/\ Bx2 w1 (w.heap.size+1) (Um ⟨#[]⟩) (Ud 0)):=hid (fun w1 g=>⟨z.sm (g.block w.heap.size z.lt oS) g.size,u.sm (g.block (w.heap.size+1) u.lt oS) g.size⟩);clear h hR h0 h40 m z u;go_enter func156,ntmps156;go_wp2_with fail;try rw [j]
 clear j Ha;refine Q.mono ?_;clear Q;rintro e w1 ⟨rfl,I,H⟩;obtain⟨y,p⟩:=zE (w1.alloc (Uj #[Um s,Ud k] 174));have o:Bl w1 y:=p▸zO _ _;have i:=Qa7 I o;have t:Bx2 y w1.heap.size (Um s) (Ud k):=p▸Bx2.made _ _ _ _;obtain⟨Y,_⟩:=A _ i;have M:=hid i;have E:=hid (H.bw o);have O:=hid (Qgf (bs,bk) (s,k) y);obtain⟨L,N⟩:=t.q2;obtain⟨z0,z1⟩:=Y.q2;have r:=hid t;clear I i H o t Y;go_wp2_with fail;clear p L N z0 z1;refine O.mono ?_;rintro e w2 ⟨rfl,q,_⟩;obtain⟨P,K⟩:=zE (QcR (bs,bk) (s,k));rw [K] at hc ⊢;have dc:decide (0<=P)=false:=oS;have b:=Qa7 M q;obtain⟨_,V⟩:=A _ b;obtain⟨T,k1,kf⟩:=V.p2;have G:=r.bw q r.lt;obtain⟨L,N⟩:=G.q2;have F:=hid (Qan D b);have B:=hid (E.bw q);have R:w.heap.size<=w.heap.size+1:=Uz _;clear O K M E r q G V b;go_wp2_with fail;obtain⟨Z,J,q0,q1,U,C⟩:=QnH (Um s) (Ud k) F B.cur S R T k1;rw [<- J];clear J;exact bodyPost_ret (v:=Ul #[Uo #[Um s,Ud k],.nilIface]) (by simp [results,results156,go_sem,q0,q1]) rfl ⟨rfl,U,X.mv U C⟩
section
variable {w w' v v' : Ur} {tb ub : Nat}
theorem G2.gr (h:G2 tb ub w v){b:Nat}(g:v.grownBy v' (Uq b))(hb:w.heap.size<=b):G2 tb ub w v':=
 ⟨g.os.trans h.os,g.tape.trans h.tape,g.output.trans h.output,Uw h.size g.size,fun k hk h1 h2=>(g.block k (Ut hk h.size) (fun e=>oI e)).trans (h.block k hk h1 h2)⟩
structure NB (v:Ur)(b:Nat):Prop where
 c0:∃u,v.cell? (Ub b)=Uq (.map u)
 c1:∃u,v.cell? (Ua b 1)=Uq (.map u)
 f0:∀i,v.frozen? (Ua b i)=false
 lt:b<v.heap.size
theorem NB.q2 {v:Ur}{b:Nat}(h:NB v b):(∃u,v.cell? (Ub b)=Uq (.map u))/\ (∃u,v.cell? (Ua b 1)=Uq (.map u)):=⟨h.c0,h.c1⟩
theorem NB.made (w:Ur)(t:TypeId):NB (w.alloc (Uj #[.map Up,.map Up] t)) w.heap.size:=
 ⟨⟨Up,oP⟩,⟨Up,oP⟩,fun i=>by rw [VJ _ _ _ _ rfl],oP⟩
theorem NB.same {b:Nat}(h:NB v b)(e:v'.heap[b]? =v.heap[b]?)(hz:v.heap.size<=v'.heap.size):NB v' b:=by
 obtain⟨m,j⟩:=h.c0;obtain⟨q,k⟩:=h.c1;exact⟨⟨m,(US (a:=(Ub b)) e).trans j⟩,⟨q,(US (a:=(Ua b 1)) e).trans k⟩,fun i=>(UT (a:=(Ua b i)) e).trans (h.f0 i),Ut h.lt hz⟩
theorem NB.g2 {b:Nat}(h:NB v b)(g:G2 tb ub v v')(h1:b≠tb)(h2:b≠ub):NB v' b:=h.same (g.block b h.lt h1 h2) g.size
theorem NB.fill {b:Nat}(h:NB v b)(g:G2 tb ub w v)(hb:w.heap.size<=b)(s s':Option Nat):
  ∃Z,Z=(v.setCell (Ub b) (.map s)).setCell (Ua b 1) (.map s')/\ Z.cell? (Ub b)=Uq (.map s)/\ Z.cell? (Ua b 1)=Uq (.map s')/\ G2 tb ub w Z/\ (∀k,k≠b ->Z.heap[k]? =v.heap[k]?)/\ v.grownBy Z (Uq b):=by
 obtain⟨r,m⟩:=h.c0;obtain⟨u,q⟩:=h.c1;have j:∀k,k≠b ->((v.setCell (Ub b) (.map s)).setCell (Ua b 1) (.map s')).heap[k]? =v.heap[k]? :=fun k hk=>(zH _ _ _ _ oS).trans (zH _ _ _ _ oS);refine⟨_,rfl,?_,?_,(g.set _ _ hb).set _ _ hb,j,⟨rfl,rfl,rfl,by simp [UL],fun k hk hne=>j k (fun e=>hne (by rw [e]))⟩⟩
 ·rw [UN _ _ _ _ oP];exact UM _ _ _ m
 ·exact UM _ _ _ (by rw [UN _ _ _ _ oP];exact q)
end
noncomputable def lsM (l:List Lf):Dt ->Option ByteArray:=l.foldl (fun g z=>QbX g (z.r,z.q) (Uq z.v)) (fun _=>Up)
theorem Qnn (l:List Lf)(z:Lf):lsM (l++[z])=QbX (lsM l) (z.r,z.q) (Uq z.v):=by simp [lsM]
structure LGd (K:Int ->Int ->Bool)(kind:Int)(p:List ByteArray)(z:Lf):Prop where
 p:z.p=p
 fl:z.fl=decide (kind=2)
 k:K z.r z.q=true
 v:z.v.size<=200
 e:kind=2 ->z.v=ByteArray.empty
def KOk (K:Int ->Int ->Bool):Prop:=∀r q,K r q=true ->0<=r/\ r<=7/\ 1<=q/\ q<=1000000000
def OkB (K:Int ->Int ->Bool)(kind:Int)(p:List ByteArray):Dt ->List Lf ->List Lf ->Prop
 | _,_,[]=>True
 | before,acc,z::B=>LGd K kind p z/\ QbC before (z.r,z.q)<0/\ (∀y∈acc,¬(y.r=z.r/\ y.q=z.q))/\ acc.length≠1000/\ OkB K kind p (z.r,z.q) (acc++[z]) B
abbrev Ev.K (E:Ev):Int ->Int ->Bool:=fun r q=>inB (E.L r) q q
def LvP (E:Ev)(w:Ur)(acc l:List Lf)(x':Nat)(e:Ending)(w':Ur):Prop:=∃s s':Nat,e=Ui (Ul #[Uo #[.map (Uq s),.map (Uq s')],.nilIface])/\ Gv E w w'/\ TS E w' x' (acc++l)/\ (acc++l).length<=1000/\
 s≠s'/\ w.heap.size<=s/\ w.heap.size<=s'/\ Qa0 w' 174 (α:=Ky) Qa9 Qbl s 0 (fun _=>Up)/\ Qa0 w' 83 (α:=Dt) dtV Qb8 s' l.length (lsM l)
theorem Qnk {w:Ur}{E:Ev}{B:List Lf}(hk:kind=1 \/kind=2)(o:TS E w x acc)(hhi:E.hi<=w.heap.size)(hl:acc.length<=1000)(hB0:B≠[])(hB1:B.length<=1000)(hO:OkB E.K kind p (0,0) acc B)(g:Rv E x (mB B kind) x'):
  Cl 189 #[Uk (Uc E.tb),Ud kind] w fun e w'=>LvP E w acc B x' e w':=by
 obtain⟨P,hP⟩:=zE (LvP E w acc B x');rw [hP];have HP:=hid hP;clear hP;obtain⟨W,hW⟩:=zE (w.alloc (Uj #[.map Up,.map Up] 124));have b0:Bl w W:=hW▸zO _ _;have H2:Hid (NB W w.heap.size):=hid (hW▸NB.made _ _);have Hm:=hid (o.bw b0);have Hw:=hid (G2.bw (tb:=E.tb) (ub:=E.ub) b0);obtain⟨G8,G9⟩:=o.low;have Ha:=o.kok;obtain⟨y0,r1,r2⟩:=g.app;have HU:=hid (QbN (most:=1000) Hm.cu oM oM r1);obtain⟨V,T⟩:=zE B.length;have G4:0<V:=T▸List.length_pos_iff.2 hB0;rw [T] at HU hB1;have HV:=hid T;have HI:=hid (And.intro hO r2);have Gh:=hid Ha;have d0:((V:Int)==0)=false:=oS;have Hs:w.heap.size≠E.tb:=oM;have Ht:w.heap.size≠E.ub:=oM;have Gx:w.heap.size<=w.heap.size:=Uv _;clear o b0 g r1 r2 hO hB0 T Ha;go_enter func189,ntmps189;go_wp2_with fail;try rw [hW]
 clear hW;refine HU.mono ?_;clear HU;rintro e w1 ⟨rfl,D,C⟩;have H3:=hid (Hm.t D C);have Hf:=hid (Hw.trans (G2.t D));have Hj:=hid (H2.g2 (G2.t (ub:=E.ub) D) Hs Ht);clear D C Hm Hw H2;go_wp2_with fail;refine(Qel w1).mono ?_;rintro e u ⟨s,m,rfl,Gd,G6,G7,m1,m2,b2⟩;obtain⟨W3,I⟩:=zE ((u.alloc (Uj #[.map (Uq s),.map (Uq m)] 124)).alloc (Uj #[Ud 0,Ud 0] 83));have b3:Bl u W3:=I▸Qad _ _ _;have Gs:Hid (Bx2 W3 u.heap.size (.map (Uq s)) (.map (Uq m))):=hid (I▸(Bx2.made u _ _ _).allocs _);have Hu:Hid (Bx2 W3 (u.heap.size+1) (Ud 0) (Ud 0)):=hid (by rw [<- I];simpa using Bx2.made (u.alloc (Uj #[.map (Uq s),.map (Uq m)] 124)) (Ud 0) (Ud 0) 83);have X:=Qaa b2 b3;have Gq:=hid (H3.bw X);have Gf:=hid (Hf.trans (G2.bw X));have Go:=hid (Hj.g2 (G2.bw (tb:=E.tb) (ub:=E.ub) X) Hs Ht);have Gl:=hid (m1.same (b3.block s m1.lt));have Gm:=hid (m2.same (b3.block m m2.lt));have Kc:=Hf.size;have Kb:=Hj.lt;have Kd:=b2.size;have Gw:=m1.lt;have Hr:=m2.lt;clear m1 m2 b2 b3 X H3 Hf Hj;go_wp2_with fail;try rw [I]
 clear I;go_loopw [31] (fun iv wr=>∃(k y:Nat) (l:List Lf) (br bq:Int),k<=V/\ iv=Ud (k:Int)/\ (acc++l).length<=1000/\ u.heap.size+1<wr.heap.size/\ Hid (l=B.take k/\ l.length=k)/\ Hid (TS E wr y (acc++l))/\ Hid (Gv E w wr)/\ Hid (NB wr w.heap.size)/\
  Hid (Bx2 wr u.heap.size (.map (Uq s)) (.map (Uq m)))/\ Hid (Bx2 wr (u.heap.size+1) (Ud br) (Ud bq))/\ Hid (Qa0 wr 174 (α:=Ky) Qa9 Qbl s 0 (fun _=>Up))/\ Hid (Qa0 wr 83 (α:=Dt) dtV Qb8 m k (lsM l))/\
  Hid (OkB E.K kind p (br,bq) (acc++l) (B.drop k)/\ Rv E y ((B.drop k).flatMap (lfB kind)) x')) (fun iv _=>V - (intOf iv).toNat)
 case atStart=>exact⟨0,y0,[],0,0,Ux _,rfl,oU hl,Hu.lt,hid ⟨oP,rfl⟩,oU Gq,Gf,Go,Gs,Hu,Gl,Gm,oU HI⟩
 case round=>
  obtain⟨k,y,l,br,bq,G5,rfl,H6,Ke,J,o,H,g,hX,F,R,S,Hd⟩:=hrel;by_cases Ga:k<V
  ·obtain⟨z,hp,Ge⟩:=Qd0 (l:=B) (k:=k) (by rw [HV.out];exact Ga);obtain⟨Gb,Hc⟩:=Hd.out;rw [hp] at Gb Hc;obtain⟨L,o2,o3,o4,o5⟩:=Gb;rw [Vs] at Hc;obtain⟨x2,q1,U⟩:=Rb.app Hc;obtain⟨G1,G3,Kf,G0⟩:=Gh _ _ L.k;obtain⟨kl,H7⟩:=QdP (wfI (r:=z.r) oM oM) (wfI (r:=z.q) oM oM);have H0:=hid (Qqc hk o (Uw hhi H.size) oM ⟨⟨G1,G3⟩,oM,G0⟩ L.v L.e L.k o2 o3 q1);have Hz:=hid H7;have HN:Hid (OkB E.K kind p (z.r,z.q) (acc++(l++[z])) (B.drop (k+1))/\ Rv E x2 ((B.drop (k+1)).flatMap (lfB kind)) x'):=hid ⟨by rw [<- Vg];exact o5,U⟩;have Gk:Hid (l++[z]=B.take (k+1)/\ (l++[z]).length=k+1):=hid ⟨by rw [Ge,J.1],by simp [J.2]⟩;have Hq:(acc++(l++[z])).length<=1000:=(by simp at H6 o4 ⊢;omega);obtain⟨d0,d1⟩:=F.q2;obtain⟨c0,c1,c2,_⟩:=o.cu.cur;clear Hd Hc q1 U hp Ge L o2 o3 o4 o5 H7 J;go_wp2_with fail;clear c0 c1 c2 d0 d1;refine H0.mono ?_;clear H0;rintro e i ⟨rfl,g4,t4⟩;obtain⟨O,Ho⟩:=zE ((i.alloc (Uj #[Ud z.r,Ud z.q] 83)).alloc (Uj #[Um z.v] 169));have b5:Bl i O:=Ho▸Qad _ _ _;have h:Gv E wr O:=g4.trans (G2.bw b5);have Y5:Bx2 O i.heap.size (Ud z.r) (Ud z.q):=Ho▸(Bx2.made i _ _ _).allocs _;have M5:O.cell? (Ua (i.heap.size+1) 0)=Uq (Um z.v):=(by rw [<- Ho];rw [VH _ _ _ _ oP];rfl);have Ka:=g4.size;have Gy:=H.size;have X5:=hX.sm (h.block _ hX.lt oM oM) h.size;have D5:=F.sm (h.block _ F.lt oM oM) h.size;have H1:=hid (S.same (h.block m S.lt oM oM));have Hg:=hid (R.same (h.block s R.lt oM oM));have H4:=hid (t4.bw b5);have Hx:=hid (H.trans h);have Hk:=hid (g.g2 h Hs Ht);obtain⟨x0,Gz⟩:=X5.q2;obtain⟨y0,y1⟩:=Y5.q2;have Hn:=hid X5;have He:=hid D5;have G:=hid Y5;clear g4 h b5 t4 hX F R S o H g X5 D5 Y5;obtain⟨Y,r9,m9,A⟩:=H1.store Qau (fun _ _=>QcA) underlying122 oL (x:=(z.r,z.q)) (y:=z.v) Hz;have Gc:m<u.heap.size:=Hr;have M:∀b,b≠m ->b<O.heap.size ->Y.heap[b]? =O.heap[b]? :=fun b h1 h2=>A.block b h2 (fun e=>h1 (by injection e));have v0:=(US (a:=(Ub i.heap.size)) (M i.heap.size oM G.lt)).trans G.c0;have v1:=(US (a:=(Ua i.heap.size 1)) (M i.heap.size oM G.lt)).trans G.c1;have D9:=He.sm (M _ oM He.lt) A.size;have X9:=Hn.sm (M _ oM Hn.lt) A.size;have H5:=hid (H4.gr A oM);have Hy:=hid (Hx.gr A oM);have Hl:=hid (Hk.same (M w.heap.size oM Hk.lt) A.size);have Hh:=hid (Hg.same (M s Gd Hg.lt));have Hi:Hid (Qa0 Y 83 (α:=Dt) dtV Qb8 m (k+1) (lsM (l++[z]))):=hid (by rw [Qnn];exact m9);obtain⟨Zw,Hp⟩:=zE ((Y.setCell (Ua (u.heap.size+1) 0) (Ud z.r)).setCell (Ua (u.heap.size+1) 1) (Ud z.q));have Q:Y.grownBy Zw (Uq (u.heap.size+1)):=by
    rw [<- Hp];exact⟨rfl,rfl,rfl,by simp [UL],fun j hj hne=>(zH _ _ _ _ (fun e=>hne (by rw [e]))).trans (zH _ _ _ _ (fun e=>hne (by rw [e])))⟩
   have Hv:Hid (Bx2 Zw (u.heap.size+1) (Ud z.r) (Ud z.q)):=hid (Hp▸D9.set _ _);have N:∀b,b≠u.heap.size+1 ->b<Y.heap.size ->Zw.heap[b]? =Y.heap[b]? :=fun b h1 h2=>Q.block b h2 (fun e=>h1 (by injection e));have Gt:=hid (X9.sm (N _ oM X9.lt) Q.size);have Gr:=hid (H5.gr Q oM);have Gg:=hid (Hy.gr Q oM);have Gp:=hid (Hl.same (N w.heap.size oM Hl.lt) Q.size);have Gi:=hid (Hh.same (N s oM Hh.lt));have Gn:=hid (Hi.same (N m oM Hi.lt));obtain⟨e0,e1,ef⟩:=D9.p2;unfold dtV QfT Qb8 at r9;dsimp only at r9;clear m9 A M D9 X9 Q N H5 Hy Hl Hh Hi Hn He G H4 Hx Hk Hg H1 Hz;go_wp2_with fail;try rw [Hp]
   go_roundw;case rel=>exact⟨k+1,x2,l++[z],z.r,z.q,Ga,oN,Hq,Hv.lt,Gk,by rw [<- Vg];exact Gr,Gg,Gp,Gt,Hv,Gi,Gn,HN⟩
   case measure=>exact oE
  ·obtain rfl:k=V:=oM;have hd:B.drop k=[]:=(by rw [<- HV.out];simp);obtain⟨H8,Hb⟩:=J.out;have H9:l=B:=(by rw [H8,<- HV.out];simp);have Gu:Hid (x'=y):=hid (by have:=Hd.2;rw [hd] at this;exact Rb.nil this);have Gj:=hid (And.intro H9 Hb);obtain⟨x0,Gz⟩:=hX.q2;obtain⟨u0,k0⟩:=g.c0;obtain⟨u1,k1⟩:=g.c1;have f0:=g.f0;clear Hd H9 H8 Hb hd J;go_wp2_with fail;obtain⟨Z,hZ,q0,q1,gZ,bZ,gg⟩:=g.fill H Gx (Uq s) (Uq m);rw [<- hZ];clear hZ;refine zF (v:=Ul #[Uo #[.map (Uq s),.map (Uq m)],.nilIface]) (by simp [results,results189,go_sem,q0,q1]) ?_;obtain⟨rfl,Hb⟩:=Gj.out;rw [<- HP.out,Gu.out];refine⟨s,m,rfl,gZ,o.gr gg hhi,H6,Gd,oM,oM,R.same (bZ s oM),?_⟩;rw [Hb];exact S.same (bZ m oM)
noncomputable def uL (l:List Lf)(p:List ByteArray):Nat ->List Lf
 | 0=>[]
 | k+1=>if yes (nx p (gL l k)≠Up)=true then uL l p k++[gL l k] else uL l p k
noncomputable def wL (l:List Lf):Nat ->List ByteArray ->List Lf
 | 0,_=>[]
 | f+1,p=>(kS l p l.length).flatMap fun y=>if y.2=3 then wL l f (p++[y.1]) else dsK l p y l.length
theorem QiX (l:List Lf)(p:List ByteArray)(s:ByteArray):∀k,dsK l p (s,3) k=uL l (p++[s]) k
 | 0=>rfl
 | k+1=>by
  have j:=QiX l p s k;by_cases h:nx p (gL l k)=Uq (s,3)
  ·rw [QbK h];simp only [uL];rw [if_pos (Qaj (Qem.1 h)),j]
  ·rw [Qcf h];simp only [uL];rw [if_neg (by rw [Qag (fun hh=>h (Qem.2 hh))];simp),j]
theorem Qcg {α β:Type}{f g:α ->List β}:∀{ys:List α},(∀y∈ys,f y=g y) ->ys.flatMap f=ys.flatMap g
 | [],_=>rfl
 | a::r,h=>by
  rw [Vs,Vs,h a (Vc),Qcg (fun y hy=>h y (Ve _ hy))]
theorem QdX {R F T:Nat ->Int}{n:Nat}{l:List Lf}(p:List ByteArray)(h:QbT R F T n l l.length):∀k,k<=l.length ->(kS l p k).flatMap (fun y=>dsK l p y k)=uL l p k
 | 0,_=>rfl
 | k+1,hk=>by
  have b:=QdX p h k oM;cases e:nx p (gL l k) with
  | none=>
   rw [Qdp e];have:(kS l p k).flatMap (fun y=>dsK l p y (k+1))=(kS l p k).flatMap (fun y=>dsK l p y k):=Qcg fun y _=>Qcf (by rw [e];simp);rw [this,b];simp only [uL];rw [if_neg (by rw [Qag (fun hh=>hh e)];simp)]
  | some y=>
   have O:uL l p (k+1)=uL l p k++[gL l k]:=(by simp only [uL];rw [if_pos (Qaj (by rw [e];simp))]);obtain⟨r,s⟩:=Qeh p h k oM;rw [O,<- b,Qdq e];by_cases m:(kS l p k).getLast? =Uq y
   ·rw [if_pos (Qaj m)];obtain⟨i,u⟩:=List.getLast?_eq_some_iff.1 m;have v:y ∉ i:=fun hm=>by
     rw [u] at r;have:=(List.pairwise_append.1 r).2.2 y hm y (List.mem_singleton.2 rfl);rw [QaR.key.irr] at this;omega
    rw [u,VU,VU];simp only [Vs,VV,VW];rw [QbK e,<- Vg];congr 2;exact Qcg fun z q=>Qcf (by rw [e];simp;exact fun hh=>v (hh▸q))
   ·rw [if_neg (by rw [Qag m];simp)];have v:y ∉ kS l p k:=fun hm=>by
     obtain⟨i,u⟩:=zE (kS l p k);rw [u] at r m hm;rcases List.eq_nil_or_concat i with A|⟨Y,z,q⟩
     ·rw [A] at hm;cases hm
     ·rw [q] at m hm r;simp only [List.concat_eq_append] at m hm r;have Q:z≠y:=fun hh=>m (by rw [hh];simp);rcases List.mem_append.1 hm with t|t
      ·have E:=(List.pairwise_append.1 r).2.2 y t z (List.mem_singleton.2 rfl);obtain⟨j,o,g⟩:=(s z).1 (by rw [u,q];simp);have U:=Qcu (h.lt k o oM) g e;have V:=(QaR.key.neg y z).1 E;omega
      ·exact Q (List.mem_singleton.1 t).symm
    have M:dsK l p y k=[]:=by
     cases hd:dsK l p y k with
     | nil=>rfl
     | cons x xs=>
      obtain⟨j,o,g,_⟩:=Qbd.1 (show x∈dsK l p y k by rw [hd];exact Vc);exact absurd ((s y).2 ⟨j,o,g⟩) v
    rw [VU];simp only [Vs,VV,VW];rw [QbK e,M,VX];congr 1;exact Qcg fun z q=>Qcf (by rw [e];simp;exact fun hh=>v (hh▸q))
theorem Qpz {R F T:Nat ->Int}{n:Nat}{l:List Lf}(h:QbT R F T n l l.length):∀f p,p.length+f=8 ->wL l f p=uL l p l.length
 | 0,p,hp=>by
  have:∀k,k<=l.length ->uL l p k=[]:=fun k=>by
   induction k with
   | zero=>intro _;rfl
   | succ k ih=>
    intro m;simp only [uL];rw [if_neg (by
     rw [Qag (fun hh=> ?_)]
     ·simp
     ·have:=(Qf9.1 hh).2;have:=(h k oM).1.1.2.1;omega),ih oM]
  exact(this _ zL).symm
 | f+1,p,hp=>by
  rw [<- QdX p h l.length zL];show (kS l p l.length).flatMap _=_;refine Qcg fun y _=> ?_;by_cases j:y.2=3
  ·rw [if_pos j,Qpz h f (p++[y.1]) (by rw [UB];simp;omega),<- QiX];rw [show (y.1,(3:Int))=y by rw [<- j]]
  ·rw [if_neg j]
theorem Qki {R F T:Nat ->Int}{n:Nat}{l:List Lf}(h:QbT R F T n l l.length):∀k,k<=l.length ->uL l [] k=l.take k
 | 0,_=>by simp [uL]
 | k+1,hk=>by
  simp only [uL];rw [if_pos (Qaj (Qf9.2 ⟨VY,by have:=(h k oM).1.1.1;simp;omega⟩)),Qki h k oM,Vl];congr 1;simp [gL,UA,show k<l.length by omega]
theorem Qmm(h:QbT R F T n l l.length):wL l 8 []=l:=by
 rw [Qpz h 8 [] rfl,Qki h _ zL,Vn]
def lfK (x:Lf):List ByteArray×Int×Dt:=(x.p,kd x.fl,x.r,x.q)
theorem Qj5:QaR (fun x y:List ByteArray×Int×Dt=>orI (QaC x.1 y.1) (orI (QaZ x.2.1 y.2.1) (QbC x.2.2 y.2.2))):=QaR.path.pair (QaR.int.pair QaR.dot)
theorem Qfj (x y:Lf):QaL x y<0↔0<QaL y x:=Qj5.neg (lfK x) (lfK y)
theorem Ql8 (x y:Lf):QaL x y=0↔lfK x=lfK y:=Qj5.z (lfK x) (lfK y)
theorem Qnl {x:Lf}(h:lfK x=lfK y):x.p=y.p/\ x.fl=y.fl/\ x.r=y.r/\ x.q=y.q:=by
 unfold lfK at h;have j:=congrArg Prod.fst h;have k:=congrArg (fun z=>z.2.1) h;have m:=congrArg (fun z=>z.2.2.1) h;have u:=congrArg (fun z=>z.2.2.2) h;exact⟨j,Qjw k,m,u⟩
noncomputable def Qc1 (x:Lf):List Lf ->List Lf
 | []=>[x]
 | y::r=>if yes (QaL y x<0)=true then y::Qc1 x r else x::y::r
theorem QdB {x z:Lf}:∀{ls:List Lf},z∈Qc1 x ls↔z=x \/z∈ls
 | []=>by simp [Qc1]
 | y::r=>by
  have j:=QdB (x:=x) (z:=z) (ls:=r);simp only [Qc1];split
  ·rw [VZ,j,VZ];constructor
   ·rintro(h|h|h)
    ·exact .inr (.inl h)
    ·exact .inl h
    ·exact .inr (.inr h)
   ·rintro(h|h|h)
    ·exact .inr (.inl h)
    ·exact .inl h
    ·exact .inr (.inr h)
  ·rw [VZ]
theorem QbL (x:Lf):∀ls:List Lf,(Qc1 x ls).length=ls.length+1
 | []=>rfl
 | y::r=>by
  simp only [Qc1];split
  ·simp [QbL x r]
  ·simp
theorem QcC {x:Lf}:∀{ls:List Lf},ls.Pairwise (fun a b=>QaL a b<0) ->(∀y∈ls,lfK y≠lfK x) ->(Qc1 x ls).Pairwise (fun a b=>QaL a b<0)
 | [],_,_=>by simp [Qc1]
 | y::r,h,hne=>by
  have k:=List.pairwise_cons.1 h;have q:=QcC k.2 (fun z hz=>hne z (Ve _ hz));simp only [Qc1];by_cases j:QaL y x<0
  ·rw [if_pos (Qaj j)];refine List.pairwise_cons.2 ⟨fun z hz=> ?_,q⟩;rcases QdB.1 hz with e|e
   ·rw [e];exact j
   ·exact k.1 z e
  ·rw [if_neg (by rw [Qag j];simp)];have u:QaL y x≠0:=fun e=>hne y (Vc) ((Ql8 y x).1 e);have m:QaL x y<0:=(Qfj x y).2 oM;refine List.pairwise_cons.2 ⟨fun z hz=> ?_,h⟩;rcases List.mem_cons.1 hz with e|e
   ·rw [e];exact m
   ·exact QgL m (k.1 z e)
noncomputable def Qe5 (P:Lf ->Prop)(ls:List Lf)(out:List Lf):Nat ->List Lf
 | 0=>out
 | k+1=>if yes (P (gL ls k))=true then Qc1 (gL ls k) (Qe5 P ls out k) else Qe5 P ls out k
theorem QfF {P:Lf ->Prop}{out:List Lf}(h:P (gL ls k)):Qe5 P ls out (k+1)=Qc1 (gL ls k) (Qe5 P ls out k):=by simp only [Qe5];rw [if_pos (Qaj h)]
theorem Qhj {P:Lf ->Prop}{out:List Lf}(h:¬P (gL ls k)):Qe5 P ls out (k+1)=Qe5 P ls out k:=by simp only [Qe5];rw [if_neg (by rw [Qag h];simp)]
theorem Qcv {P:Lf ->Prop}{ls out:List Lf}{z:Lf}:∀{k:Nat},z∈Qe5 P ls out k↔z∈out \/∃j,j<k/\ P (gL ls j)/\ gL ls j=z
 | 0=>by simp [Qe5]
 | k+1=>by
  have v:=Qcv (P:=P) (ls:=ls) (out:=out) (z:=z) (k:=k);by_cases h:P (gL ls k)
  ·rw [QfF h,QdB,v];constructor
   ·rintro(e|e|⟨j,u,m,q⟩)
    ·exact .inr ⟨k,oM,h,e.symm⟩
    ·exact .inl e
    ·exact .inr ⟨j,oM,m,q⟩
   ·rintro(e|⟨j,u,m,q⟩)
    ·exact .inr (.inl e)
    ·by_cases r:j=k
     ·subst r;exact .inl q.symm
     ·exact .inr (.inr ⟨j,oM,m,q⟩)
  ·rw [Qhj h,v];constructor
   ·rintro(e|⟨j,u,m,q⟩)
    ·exact .inl e
    ·exact .inr ⟨j,oM,m,q⟩
   ·rintro(e|⟨j,u,m,q⟩)
    ·exact .inl e
    ·by_cases r:j=k
     ·subst r;exact absurd m h
     ·exact .inr ⟨j,oM,m,q⟩
theorem QdD {P:Lf ->Prop}{ls out:List Lf}:∀k,(Qe5 P ls out k).length<=out.length+k
 | 0=>by simp [Qe5]
 | k+1=>by
  have j:=QdD (P:=P) (ls:=ls) (out:=out) k;simp only [Qe5];split
  ·rw [QbL];omega
  ·omega
theorem QcE {P:Lf ->Prop}{ls out:List Lf}(ho:out.Pairwise (fun a b=>QaL a b<0))(hl:∀i j,i<j ->j<ls.length ->QaL (gL ls i) (gL ls j)<0)(hne:∀j,j<ls.length ->P (gL ls j) ->∀y∈out,lfK y≠lfK (gL ls j)):∀k,k<=ls.length ->(Qe5 P ls out k).Pairwise (fun a b=>QaL a b<0)
 | 0,_=>ho
 | k+1,hk=>by
  have m:=QcE ho hl hne k oM;by_cases h:P (gL ls k)
  ·rw [QfF h];refine QcC m (fun y hy=> ?_);rcases Qcv.1 hy with e|⟨j,q,u,r⟩
   ·exact hne k oM h y e
   ·intro e;rw [<- r] at e;have:=(Ql8 _ _).2 e;have:=hl j k q oM;omega
  ·rw [Qhj h];exact m
noncomputable def jnL (la lb:List Lf)(hasA hasB:Lf ->Prop):List Lf:=Qe5 (fun x=>¬hasA x) lb (Qe5 (fun x=>x∈lb \/¬hasB x) la [] la.length) lb.length
theorem Qao{x:Lf}:x∈l↔∃j,j<l.length/\ gL l j=x:=by
 constructor
 ·intro h;obtain⟨j,k,e⟩:=List.getElem_of_mem h;exact⟨j,k,by simp [gL,UA,k,e]⟩
 ·rintro⟨j,k,e⟩;rw [<- e];have:gL l j=l[j]:=by simp [gL,UA,k]
  rw [this];exact List.getElem_mem k
theorem Qed{hasA hasB:Lf ->Prop}{z:Lf}:z∈jnL la lb hasA hasB↔(z∈la/\ (z∈lb \/¬hasB z)) \/(z∈lb/\¬hasA z):=by
 unfold jnL;rw [Qcv,Qcv];constructor
 ·rintro((e|⟨j,m,k,q⟩)|⟨j,m,k,q⟩)
  ·cases e
  ·rw [q] at k;exact .inl ⟨Qao.2 ⟨j,m,q⟩,k⟩
  ·rw [q] at k;exact .inr ⟨Qao.2 ⟨j,m,q⟩,k⟩
 ·rintro(⟨m,k⟩|⟨m,k⟩)
  ·obtain⟨j,r,e⟩:=Qao.1 m;exact .inl (.inr ⟨j,r,by rw [e];exact k,e⟩)
  ·obtain⟨j,r,e⟩:=Qao.1 m;exact .inr ⟨j,r,by rw [e];exact k,e⟩
theorem Qiv{hasA hasB:Lf ->Prop}(hA:∀i j,i<j ->j<la.length ->QaL (gL la i) (gL la j)<0)(hB:∀i j,i<j ->j<lb.length ->QaL (gL lb i) (gL lb j)<0)(hk:∀x∈la,hasA x)(hd:∀x y,lfK x=lfK y ->(hasA x↔hasA y)):(jnL la lb hasA hasB).Pairwise (fun a b=>QaL a b<0):=by
 unfold jnL;refine QcE (QcE List.Pairwise.nil hA (fun j _ _ y hy=>by cases hy) _ zL) hB (fun j hj hP y hy e=> ?_) _ zL;rcases Qcv.1 hy with h|⟨i,k,_,m⟩
 ·cases h
 ·exact hP ((hd _ _ e).1 (hk y (Qao.2 ⟨i,k,m⟩)))
theorem QhV:∀{a b:List Lf},a.Pairwise (fun x y=>QaL x y<0) ->b.Pairwise (fun x y=>QaL x y<0) ->(∀z,z∈a↔z∈b) ->a=b
 | [],[],_,_,_=>rfl
 | [],y::_,_,_,h=>by have:=(h y).2 (Vc);cases this
 | x::_,[],_,_,h=>by have:=(h x).1 (Vc);cases this
 | x::r,y::s,ha,hb,h=>by
  have m:=List.pairwise_cons.1 ha;have q:=List.pairwise_cons.1 hb;have u:∀z:Lf,¬QaL z z<0:=fun z j=>oH ((Qfj z z).1 j);have e:x=y:=by
   rcases List.mem_cons.1 ((h x).1 (Vc)) with e|e
   ·exact e
   ·rcases List.mem_cons.1 ((h y).2 (Vc)) with k|k
    ·exact k.symm
    ·exact absurd (QgL (m.1 y k) (q.1 x e)) (u x)
  subst e;congr 1;refine QhV m.2 q.2 fun z=> ?_;constructor
  ·intro j;rcases List.mem_cons.1 ((h z).1 (Ve _ j)) with e|e
   ·subst e;exact absurd (m.1 z j) (u z)
   ·exact e
  ·intro j;rcases List.mem_cons.1 ((h z).2 (Ve _ j)) with e|e
   ·subst e;exact absurd (q.1 z j) (u z)
   ·exact e
def StW (R F T:Nat ->Int)(n:Nat)(l:List Lf):Prop:=(Qeo R F T n/\ n<=2000)/\ l.length<=1000/\ QbT R F T n l l.length/\ Dis l l.length
theorem Qba.w(h:Qba R F T n l):StW R F T n l:=⟨by have:=Qal.1 h.1;exact⟨this.1,oM⟩,h.2⟩
def QbW (R F T:Nat ->Int)(n:Nat)(x:Lf):Prop:=Qb6 R F T x.r x.q x.q n=true
theorem QhJ{x:Lf}(h:lfK x=lfK y):QbW R F T n x↔QbW R F T n y:=by
 obtain⟨_,_,j,k⟩:=Qnl h;unfold QbW;rw [j,k]
theorem QoJ {x:Lf}(h:Way x=Way y)(h0:0<x.p.length)(hd:(x.r,x.q)=(y.r,y.q))(hv:x.v=y.v):x=y:=by
 obtain⟨j,z⟩:=QgB h h0;have k:=Qjw z;have m:x.r=y.r:=congrArg Prod.fst hd;have u:x.q=y.q:=congrArg Prod.snd hd;cases x;cases y;simp only at j k m u hv;subst j k m u hv;rfl
theorem QiG(hd:Dis l l.length){v:ByteArray}:Mk l l.length z d=Uq v↔∃x∈l,Way x=z/\ (x.r,x.q)=d/\ x.v=v:=by
 rw [QiH hd];constructor
 ·rintro⟨j,y,k,m,u⟩;exact⟨gL l j,Qao.2 ⟨j,y,rfl⟩,k,m,u⟩
 ·rintro⟨x,g,k,m,u⟩;obtain⟨j,h,e⟩:=Qao.1 g;exact⟨j,h,by rw [e];exact k,by rw [e];exact m,by rw [e];exact u⟩
theorem QgM(hd:Dis l l.length){x:Lf}(hx:x∈l)(hy:y∈l)(h:x.r=y.r/\ x.q=y.q):x=y:=by
 obtain⟨i,hi,k⟩:=Qao.1 hx;obtain⟨j,u,m⟩:=Qao.1 hy;rcases Nat.lt_trichotomy i j with e|e|e
 ·have:=hd j u i e;exact absurd (by rw [k,m];exact h) this
 ·subst e;rw [<- k,<- m]
 ·have:=hd i hi j e;exact absurd (by rw [k,m];exact⟨h.1.symm,h.2.symm⟩) this
theorem Qg3(h:l.Pairwise (fun a b=>QaL a b<0)){j:Nat}(hij:i<j)(hj:j<l.length):QaL (gL l i) (gL l j)<0:=by
 have:=List.pairwise_iff_getElem.1 h i j oM hj hij;have k:gL l i=l[i]:=by simp [gL,UA,show i<l.length by omega]
 have m:gL l j=l[j]:=by simp [gL,UA,hj]
 rw [k,m];exact this
section
variable {R F T : Nat -> Int} {n : Nat} {la : List Lf} {R' F' T' : Nat -> Int} {n' : Nat} {lb : List Lf}
noncomputable def jn (R F T:Nat ->Int)(n:Nat)(la:List Lf)(R' F' T':Nat ->Int)(n':Nat)(lb:List Lf):List Lf:=jnL la lb (QbW R F T n) (QbW R' F' T' n')
theorem Qef (h:StW R F T n la)(h':StW R' F' T' n' lb):(jn R F T n la R' F' T' n' lb).Pairwise (fun a b=>QaL a b<0):=
 Qiv (fun i j h1 h2=>h.2.2.1.lt j h1 h2) (fun i j h1 h2=>h'.2.2.1.lt j h1 h2) (fun x hx=>by
  obtain⟨j,k,e⟩:=Qao.1 hx;have:=(h.2.2.1 j k).2.1;rw [e] at this;exact this) (fun x y e=>QhJ e)
theorem Qee (z:Lf)(hz:z∈jn R F T n la R' F' T' n' lb):z∈la \/(z∈lb/\¬QbW R F T n z):=by
 rcases Qed.1 hz with h|h
 ·exact .inl h.1
 ·exact .inr h
theorem Qjr (h:StW R F T n la)(h':StW R' F' T' n' lb):Dis (jn R F T n la R' F' T' n' lb) (jn R F T n la R' F' T' n' lb).length:=fun i hi j u hh=>by
 have g:=Qg3 (Qef h h') u hi;have m:=Qee _ (Qao.2 ⟨j,oM,rfl⟩:gL (jn R F T n la R' F' T' n' lb) j∈_);have k:=Qee _ (Qao.2 ⟨i,hi,rfl⟩:gL (jn R F T n la R' F' T' n' lb) i∈_);have v:∀z∈la,QbW R F T n z:=fun z hz=>by
  obtain⟨j,u,e⟩:=Qao.1 hz;have:=(h.2.2.1 j u).2.1;rw [e] at this;exact this
 have same:∀{x y:Lf},x.r=y.r/\ x.q=y.q ->(QbW R F T n x↔QbW R F T n y):=fun{x y} e=>by unfold QbW;rw [e.1,e.2]
 have b:∀z:Lf,¬QaL z z<0:=fun z hz=>oH ((Qfj z z).1 hz);have e:gL (jn R F T n la R' F' T' n' lb) j=gL (jn R F T n la R' F' T' n' lb) i:=by
  rcases m with m|⟨m,o⟩
  ·rcases k with k|⟨k,t⟩
   ·exact QgM h.2.2.2 m k hh
   ·exact absurd ((same hh).1 (v _ m)) t
  ·rcases k with k|⟨k,t⟩
   ·exact absurd ((same hh).2 (v _ k)) o
   ·exact QgM h'.2.2.2 m k hh
 rw [e] at g;exact b _ g
theorem QpZ {U V X:Nat ->Int}{m:Nat}(h:StW R F T n la)(h':StW R' F' T' n' lb)(hu:∀z:Lf,QbW R F T n z \/QbW R' F' T' n' z ->QbW U V X m z):QbT U V X m (jn R F T n la R' F' T' n' lb) (jn R F T n la R' F' T' n' lb).length:=fun i hi=>by
 have r:=Qef h h';have k:=Qee _ (Qao.2 ⟨i,hi,rfl⟩:gL (jn R F T n la R' F' T' n' lb) i∈_);refine⟨?_,?_,fun h0=>Qg3 r oM hi⟩
 ·rcases k with k|⟨k,_⟩
  ·obtain⟨j,q,e⟩:=Qao.1 k;rw [<- e];exact(h.2.2.1 j q).1
  ·obtain⟨j,q,e⟩:=Qao.1 k;rw [<- e];exact(h'.2.2.1 j q).1
 ·refine hu _ ?_;rcases k with k|⟨k,_⟩
  ·obtain⟨j,q,e⟩:=Qao.1 k;refine .inl ?_;have:=(h.2.2.1 j q).2.1;rw [e] at this;exact this
  ·obtain⟨j,q,e⟩:=Qao.1 k;refine .inr ?_;have:=(h'.2.2.1 j q).2.1;rw [e] at this;exact this
theorem QmW (h:StW R F T n la)(h':StW R' F' T' n' lb)(z:List Ky)(d:Dt)(v:ByteArray):
  Mk (jn R F T n la R' F' T' n' lb) (jn R F T n la R' F' T' n' lb).length z d=Uq v↔(Mk la la.length z d=Uq v/\ (Mk lb lb.length z d=Uq v \/Qb6 R' F' T' d.1 d.2 d.2 n'=false)) \/(Mk lb lb.length z d=Uq v/\ Qb6 R F T d.1 d.2 d.2 n=false):=by
 have A:∀b:Bool,¬b=true↔b=false:=fun b=>by cases b<;>simp
 rw [QiG (Qjr h h'),QiG h.2.2.2,QiG h'.2.2.2];constructor
 ·rintro⟨x,i,m,k,u⟩;have t:x.r=d.1:=congrArg Prod.fst k;have o:x.q=d.2:=congrArg Prod.snd k;rcases Qed.1 i with ⟨E,s⟩|⟨E,s⟩
  ·refine .inl ⟨⟨x,E,m,k,u⟩,s.imp (fun g=>⟨x,g,m,k,u⟩) (fun g=> ?_)⟩;unfold QbW at g;rw [t,o] at g;exact(A _).1 g
  ·refine .inr ⟨⟨x,E,m,k,u⟩,?_⟩;unfold QbW at s;rw [t,o] at s;exact(A _).1 s
 ·rintro(⟨⟨x,i,m,k,u⟩,g⟩|⟨⟨x,i,m,k,u⟩,g⟩)
  ·have t:x.r=d.1:=congrArg Prod.fst k;have o:x.q=d.2:=congrArg Prod.snd k;have M:0<x.p.length:=by
    obtain⟨j,O,e⟩:=Qao.1 i;have:=(h.2.2.1 j O).1.1.1;rw [e] at this;omega
   refine⟨x,Qed.2 (.inl ⟨i,?_⟩),m,k,u⟩;rcases g with ⟨y,Q,U,V,Y⟩|g
   ·have:x=y:=QoJ (m.trans U.symm) M (k.trans V.symm) (u.trans Y.symm);rw [this];exact .inl Q
   ·refine .inr ?_;unfold QbW;rw [t,o];exact(A _).2 g
  ·have t:x.r=d.1:=congrArg Prod.fst k;have o:x.q=d.2:=congrArg Prod.snd k;refine⟨x,Qed.2 (.inr ⟨i,?_⟩),m,k,u⟩;unfold QbW;rw [t,o];exact(A _).2 g
end
def hgN (N N1:List Ky ->Option (Nat×Nat))(k:Ky):List Ky ->Option (Nat×Nat)
 | []=>N []
 | y::r=>if y=k then N1 r else N (y::r)
def hgM (M M1:List Ky ->Dt ->Option ByteArray)(k:Ky):List Ky ->Dt ->Option ByteArray
 | []=>M []
 | y::r=>if y=k then M1 r else M (y::r)
def ApN (N N1:List Ky ->Option (Nat×Nat)):Prop:=∀p q x y,N p=Uq x ->N1 q=Uq y ->x.1≠y.1/\ x.1≠y.2/\ x.2≠y.1/\ x.2≠y.2
section
variable {w w' : Ur} {B c : Nat} {N N1 : List Ky -> Option (Nat × Nat)} {M M1 : List Ky -> Dt -> Option ByteArray}
theorem Tre.hang {x0 x1:Nat×Nat}{k:Ky}(h:Tre w B N M c)(h1:Tre w B N1 M1 c)(hN:N []=Uq x0)(hN1:N1 []=Uq x1)(hap:ApN N N1)(hg:w.grownBy w' (Uq x0.1))(hm:Qa0 w' 174 Qa9 Qbl x0.1 (c+1) (fun y=>if y=k then Uq x1 else N [y])):Tre w' B (hgN N N1 k) (hgM M M1 k) (c+1):=by
 have A:∀p x,N p=Uq x ->p≠[] ->w'.heap[x.1]? =w.heap[x.1]? :=fun p x hx hp=>hg.block _ (h.lt hx).1 (fun e=>hp ((h.apart p [] x x0 hx hN).2.1 (by injection e)));have b:∀p x,N p=Uq x ->w'.heap[x.2]? =w.heap[x.2]? :=fun p x hx=>hg.block _ (h.lt hx).2 (fun e=>(h.apart [] p x0 x hN hx).1 (by injection e with e;exact e.symm));have i:∀p x,N1 p=Uq x ->w'.heap[x.1]? =w.heap[x.1]? /\ w'.heap[x.2]? =w.heap[x.2]? :=fun p x hx=>by
  have a:=hap [] p x0 x hN hx;exact⟨hg.block _ (h1.lt hx).1 (fun e=>a.1 (by injection e with e;exact e.symm)),hg.block _ (h1.lt hx).2 (fun e=>a.2.1 (by injection e with e;exact e.symm))⟩
 have g:∀p x,hgN N N1 k p=Uq x ->(p=[]/\ x=x0) \/(∃r,p=k::r/\ N1 r=Uq x) \/(∃y r,p=y::r/\ y≠k/\ N (y::r)=Uq x):=fun p x hx=>by
  cases p with
  | nil=>exact .inl ⟨rfl,by simp only [hgN] at hx;rw [hN] at hx;exact(Option.some.inj hx).symm⟩
  | cons y r=>
   simp only [hgN] at hx;by_cases e:y=k
   ·rw [if_pos e] at hx;exact .inr (.inl ⟨r,by rw [e],hx⟩)
   ·rw [if_neg e] at hx;exact .inr (.inr ⟨y,r,rfl,e,hx⟩)
 refine⟨fun p x hx=> ?_,fun p x hx=> ?_,fun p q x y hx hy=> ?_,fun p x hx=> ?_,fun p hp=> ?_,fun p y hp=> ?_⟩
 ·rcases g p x hx with ⟨rfl,rfl⟩|⟨r,rfl,j⟩|⟨y,r,rfl,t,j⟩
  ·refine hm.ext fun y=> ?_;show (if y=k then Uq x1 else N [y])=hgN N N1 k [y];simp only [hgN];by_cases e:y=k
   ·rw [if_pos e,if_pos e,hN1]
   ·rw [if_neg e,if_neg e]
  ·refine(((h1.kids r x j).same (i r x j).1).mono (Uz _)).ext fun z=> ?_;show N1 (r++[z])=hgN N N1 k (k::(r++[z]));simp [hgN]
  ·refine(((h.kids _ x j).same (A _ x j oP)).mono (Uz _)).ext fun z=> ?_;show N (y::r++[z])=hgN N N1 k (y::(r++[z]));simp [hgN,t]
 ·rcases g p x hx with ⟨rfl,rfl⟩|⟨r,rfl,j⟩|⟨y,r,rfl,t,j⟩
  ·exact((h.marks [] x hN).same (b [] x hN)).mono (Uz _)
  ·refine(((h1.marks r x j).same (i r x j).2).mono (Uz _)).ext fun d=> ?_;simp [hgM]
  ·refine(((h.marks _ x j).same (b _ x j)).mono (Uz _)).ext fun d=> ?_;simp [hgM,t]
 ·rcases g p x hx with ⟨rfl,rfl⟩|⟨r,rfl,j⟩|⟨u,r,rfl,t,j⟩
  ·rcases g q y hy with ⟨rfl,rfl⟩|⟨s,rfl,m⟩|⟨v,s,rfl,o,m⟩
   ·exact h.apart [] [] _ _ hN hN
   ·have a:=hap [] s x y hN m;exact⟨a.2.1,fun e=>absurd e a.1,fun e=>absurd e a.2.2.2⟩
   ·exact h.apart [] _ _ _ hN m
  ·rcases g q y hy with ⟨rfl,rfl⟩|⟨s,rfl,m⟩|⟨v,s,rfl,o,m⟩
   ·have a:=hap [] r y x hN j;exact⟨fun e=>a.2.2.1 e.symm,fun e=>absurd e.symm a.1,fun e=>absurd e.symm a.2.2.2⟩
   ·have a:=h1.apart r s x y j m;exact⟨a.1,fun e=>by rw [a.2.1 e],fun e=>by rw [a.2.2 e]⟩
   ·have a:=hap _ r y x m j;exact⟨fun e=>a.2.2.1 e.symm,fun e=>absurd e.symm a.1,fun e=>absurd e.symm a.2.2.2⟩
  ·rcases g q y hy with ⟨rfl,rfl⟩|⟨s,rfl,m⟩|⟨v,s,rfl,o,m⟩
   ·exact h.apart _ [] _ _ j hN
   ·have a:=hap _ s x y j m;exact⟨a.2.1,fun e=>absurd e a.1,fun e=>absurd e a.2.2.2⟩
   ·exact h.apart _ _ _ _ j m
 ·rcases g p x hx with ⟨rfl,rfl⟩|⟨r,rfl,j⟩|⟨y,r,rfl,t,j⟩
  ·exact h.lo [] _ hN
  ·exact h1.lo r x j
  ·exact h.lo _ x j
 ·cases p with
  | nil=>simp only [hgN] at hp;rw [hN] at hp;cases hp
  | cons y r=>
   simp only [hgN] at hp;by_cases e:y=k
   ·rw [if_pos e] at hp;show hgM M M1 k (y::r)=_;simp only [hgM];rw [if_pos e];exact h1.none' r hp
   ·rw [if_neg e] at hp;show hgM M M1 k (y::r)=_;simp only [hgM];rw [if_neg e];exact h.none' _ hp
 ·cases p with
  | nil=>simp only [hgN] at hp;rw [hN] at hp;cases hp
  | cons z r=>
   simp only [hgN,Ya] at hp ⊢;by_cases e:z=k
   ·rw [if_pos e] at hp ⊢;exact h1.up r y hp
   ·rw [if_neg e] at hp ⊢;exact h.up (z::r) y hp
theorem Tre.new {x0:Nat×Nat}(hk:Qa0 w 174 (α:=Ky) Qa9 Qbl x0.1 0 (fun _=>Up))(hm:Qa0 w 83 (α:=Dt) dtV Qb8 x0.2 0 (fun _=>Up))(hne:x0.1≠x0.2)(hB:B<=x0.1/\ B<=x0.2):Tre w B (fun z=>if z=[] then Uq x0 else Up) (fun _ _=>Up) 0:=by
 have nil:∀(p:List Ky) (x:Nat×Nat),(if p=[] then Uq x0 else Up)=Uq x ->p=[]/\ x=x0:=fun p x hx=>by
  by_cases e:p=[]
  ·rw [if_pos e] at hx;exact⟨e,(Option.some.inj hx).symm⟩
  ·rw [if_neg e] at hx;cases hx
 refine⟨fun p x hx=> ?_,fun p x hx=> ?_,fun p q x y hx hy=> ?_,fun p x hx=> ?_,fun p hp=>rfl,fun p y hp=>by rw [if_neg oP]⟩
 ·obtain⟨rfl,rfl⟩:=nil p x hx;exact hk.ext fun y=>oP
 ·obtain⟨rfl,rfl⟩:=nil p x hx;exact hm.ext fun d=>rfl
 ·obtain⟨rfl,rfl⟩:=nil p x hx;obtain⟨rfl,rfl⟩:=nil q y hy;exact⟨hne,fun _=>rfl,fun _=>rfl⟩
 ·obtain⟨rfl,rfl⟩:=nil p x hx;exact hB
end
noncomputable def mJ (J:List Lf)(z:List Ky)(K:Ky ->Prop):List Ky ->Dt ->Option ByteArray
 | []=>Mk J J.length z
 | y::r=>if yes (K y)=true then Mk J J.length (z++y::r) else fun _=>Up
def Ah (J:List Lf)(z:List Ky):Prop:=∃x∈J,z <+:Way x
structure JT (w:Ur)(B:Nat)(J:List Lf)(z:List Ky)(K:Ky ->Prop)(N:List Ky ->Option (Nat×Nat))(c:Nat)(x0:Nat×Nat):Prop where
 tre:Tre w B N (mJ J z K) c
 root:N []=Uq x0
 there:∀y r,(N (y::r)).isSome=true↔K y/\ Ah J (z++y::r)
structure JF (w:Ur)(B:Nat)(J:List Lf)(z:List Ky)(N:List Ky ->Option (Nat×Nat))(c:Nat)(x0:Nat×Nat):Prop where
 tre:Tre w B N (fun r=>Mk J J.length (z++r)) c
 root:N []=Uq x0
 there:∀y r,(N (y::r)).isSome=true↔Ah J (z++y::r)
theorem JT.full {w:Ur}{K:Ky ->Prop}{N:List Ky ->Option (Nat×Nat)}(h:JT w B J z K N c x0)(hK:∀y,Ah J (z++[y]) ->K y):JF w B J z N c x0:=by
 have k:∀y r,Ah J (z++y::r) ->Ah J (z++[y]):=fun y r ⟨x,hx,hp⟩=>⟨x,hx,List.IsPrefix.trans (by rw [show z++y::r=(z++[y])++r by simp];exact Yb _ _) hp⟩;have m:mJ J z K=fun r=>Mk J J.length (z++r):=by
  funext r;cases r with
  | nil=>simp [mJ]
  | cons y r=>
   simp only [mJ];by_cases e:K y
   ·rw [if_pos (Qaj e)]
   ·rw [if_neg (by rw [Qag e];simp)];funext d;cases hv:Mk J J.length (z++y::r) d with
    | none=>rfl
    | some v=>
     obtain⟨j,u,q,_⟩:=Qe6.1 (show Mk J J.length (z++y::r) d≠Up by rw [hv];simp);exact absurd (hK y (k y r ⟨gL J j,Qao.2 ⟨j,u,rfl⟩,by rw [q];exact Yc _⟩)) e
 exact⟨m▸h.tre,h.root,fun y r=>(h.there y r).trans ⟨fun g=>g.2,fun g=>⟨hK y (k y r g),g⟩⟩⟩
theorem JT.hang {w:Ur}{K:Ky ->Prop}{N N1:List Ky ->Option (Nat×Nat)}{x1:Nat×Nat}{y:Ky}(h:JT w B J z K N c x0)(h1:JF w B J (z++[y]) N1 c x1)(hy:¬K y)(ha:Ah J (z++[y]))(hap:ApN N N1)(hg:w.grownBy w' (Uq x0.1))(hm:Qa0 w' 174 Qa9 Qbl x0.1 (c+1) (fun u=>if u=y then Uq x1 else N [u])):
  JT w' B J z (fun u=>K u \/u=y) (hgN N N1 y) (c+1) x0:=by
 have k:=h.tre.hang h1.tre h.root h1.root hap hg hm;have m:hgM (mJ J z K) (fun r=>Mk J J.length ((z++[y])++r)) y=mJ J z (fun u=>K u \/u=y):=by
  funext r;cases r with
  | nil=>rfl
  | cons u r=>
   simp only [hgM,mJ];by_cases e:u=y
   ·rw [if_pos e,if_pos (Qaj (.inr e)),e];simp
   ·rw [if_neg e];by_cases j:K u
    ·rw [if_pos (Qaj j),if_pos (Qaj (.inl j))]
    ·rw [if_neg (by rw [Qag j];simp),if_neg (by rw [Qag (fun hh=>hh.elim j e)];simp)]
 rw [m] at k;refine⟨k,h.root,fun u r=> ?_⟩;simp only [hgN];by_cases e:u=y
 ·rw [if_pos e];cases r with
  | nil=>rw [h1.root,e];exact⟨fun _=>⟨.inr rfl,ha⟩,fun _=>rfl⟩
  | cons v r=>
   rw [h1.there v r,e];rw [show z++[y]++v::r=z++y::v::r by simp];exact⟨fun g=>⟨.inr rfl,g⟩,fun g=>g.2⟩
 ·rw [if_neg e,h.there u r];exact⟨fun g=>⟨.inl g.1,g.2⟩,fun g=>⟨g.1.resolve_right e,g.2⟩⟩
theorem JT.skip {w:Ur}{K:Ky ->Prop}{N:List Ky ->Option (Nat×Nat)}{y:Ky}(h:JT w B J z K N c x0)(hy:¬K y)(ha:¬Ah J (z++[y])):JT w B J z (fun u=>K u \/u=y) N c x0:=by
 have t:∀r,¬Ah J (z++y::r):=fun r ⟨x,hx,hp⟩=>ha ⟨x,hx,List.IsPrefix.trans (by rw [show z++y::r=(z++[y])++r by simp];exact Yb _ _) hp⟩;have o:mJ J z K=mJ J z (fun u=>K u \/u=y):=by
  funext r;cases r with
  | nil=>rfl
  | cons u r=>
   simp only [mJ];by_cases k:K u
   ·rw [if_pos (Qaj k),if_pos (Qaj (.inl k))]
   ·rw [if_neg (by rw [Qag k];simp)];by_cases e:u=y
    ·rw [if_pos (Qaj (.inr e))];funext d;cases hv:Mk J J.length (z++u::r) d with
     | none=>rfl
     | some v=>
      obtain⟨j,b,i,_⟩:=Qe6.1 (show Mk J J.length (z++u::r) d≠Up by rw [hv];simp);exact absurd ⟨gL J j,Qao.2 ⟨j,b,rfl⟩,by rw [i,e];exact Yc _⟩ (t r)
    ·rw [if_neg (by rw [Qag (fun hh=>hh.elim k e)];simp)]
 refine⟨o▸h.tre,h.root,fun u r=> ?_⟩;rw [h.there u r];constructor
 ·exact fun g=>⟨.inl g.1,g.2⟩
 ·rintro⟨m|m,q⟩
  ·exact⟨m,q⟩
  ·rw [m] at q;exact absurd q (t r)
theorem JF.bears {w:Ur}{N:List Ky ->Option (Nat×Nat)}(h:JF w B J z N c x0):Ah J z↔(∃y,N [y]≠Up) \/∃d,Mk J J.length z d≠Up:=by
 constructor
 ·rintro⟨x,k,u⟩;obtain⟨s,g⟩:=u;obtain⟨j,m,e⟩:=Qao.1 k;cases s with
  | nil=>exact .inr ⟨(x.r,x.q),Qe6.2 ⟨j,m,by rw [e,<- g];simp,by rw [e]⟩⟩
  | cons y s=>
   refine .inl ⟨y,fun hn=> ?_⟩;have:=(h.there y []).2 ⟨x,k,by rw [<- g,show z++y::s=(z++[y])++s by simp];exact Yb _ _⟩;rw [hn] at this;cases this
 ·rintro(⟨y,b⟩|⟨d,i⟩)
  ·have t:(N [y]).isSome=true:=by
    cases hv:N [y] with
    | none=>exact absurd hv b
    | some v=>rfl
   obtain⟨x,k,u⟩:=(h.there y []).1 t;exact⟨x,k,List.IsPrefix.trans (Yb _ _) u⟩
  ·obtain⟨j,m,o,_⟩:=Qe6.1 i;exact⟨gL J j,Qao.2 ⟨j,m,rfl⟩,by rw [o];exact Yc _⟩
theorem JF.mono {w:Ur}{c':Nat}{N:List Ky ->Option (Nat×Nat)}(h:JF w B J z N c x0)(hc:c<=c'):JF w B J z N c' x0:=⟨h.tre.mono hc,h.root,h.there⟩
noncomputable def kmF (fa fb:Dt ->Option ByteArray)(hb:Dt ->Bool)(f:Dt ->Option ByteArray):Dt ->Option ByteArray:=fun d=>
 match fa d with
 | some m=>if yes (hb d=false \/fb d=Uq m)=true then Uq m else f d
 | none=>f d
theorem Qf4 {fa fb:Dt ->Option ByteArray}{hb:Dt ->Bool}{f:Dt ->Option ByteArray}{v:ByteArray}:kmF fa fb hb f d=Uq v↔(fa d=Uq v/\ (hb d=false \/fb d=Uq v)) \/((∀m,fa d=Uq m ->¬(hb d=false \/fb d=Uq m))/\ f d=Uq v):=by
 unfold kmF;cases hf:fa d with
 | none=>
  constructor
  ·intro h;exact .inr ⟨fun m hm=>(by cases hm),h⟩
  ·rintro(⟨h,_⟩|⟨_,h⟩)
   ·cases h
   ·exact h
 | some m=>
  dsimp only;by_cases e:hb d=false \/fb d=Uq m
  ·rw [if_pos (Qaj e)];constructor
   ·intro h;cases h;exact .inl ⟨rfl,e⟩
   ·rintro(⟨h,_⟩|⟨h,_⟩)
    ·exact h
    ·exact absurd e (h m rfl)
  ·rw [if_neg (by rw [Qag e];simp)];constructor
   ·intro h;exact .inr ⟨fun m' hm=>by cases hm;exact e,h⟩
   ·rintro(⟨h,j⟩|⟨_,h⟩)
    ·cases h;exact absurd j e
    ·exact h
section
variable {R F T : Nat -> Int} {n : Nat} {la : List Lf} {R' F' T' : Nat -> Int} {n' : Nat} {lb : List Lf}
theorem Qi1 (h:StW R F T n la){z:List Ky}{d:Dt}{v:ByteArray}(hv:Mk la la.length z d=Uq v):Qb6 R F T d.1 d.2 d.2 n=true:=by
 obtain⟨j,y,_,k⟩:=Qe6.1 (show Mk la la.length z d≠Up by rw [hv];simp);have:=(h.2.2.1 j y).2.1;have m:(gL la j).r=d.1:=congrArg Prod.fst k;have u:(gL la j).q=d.2:=congrArg Prod.snd k;rw [m,u] at this;exact this
theorem QoH (h:StW R F T n la)(h':StW R' F' T' n' lb)(z:List Ky):
  kmF (Mk lb lb.length z) (Mk la la.length z) (fun d=>Qb6 R F T d.1 d.2 d.2 n) (kmF (Mk la la.length z) (Mk lb lb.length z) (fun d=>Qb6 R' F' T' d.1 d.2 d.2 n') (fun _=>Up))=Mk (jn R F T n la R' F' T' n' lb) (jn R F T n la R' F' T' n' lb).length z:=by
 funext d;have q:∀v,kmF (Mk lb lb.length z) (Mk la la.length z) (fun d=>Qb6 R F T d.1 d.2 d.2 n) (kmF (Mk la la.length z) (Mk lb lb.length z) (fun d=>Qb6 R' F' T' d.1 d.2 d.2 n') (fun _=>Up)) d=Uq v↔Mk (jn R F T n la R' F' T' n' lb) (jn R F T n la R' F' T' n' lb).length z d=Uq v:=fun v=>by
  rw [Qf4,Qf4,QmW h h'];constructor
  ·rintro(⟨k,j|j⟩|⟨_,⟨k,j|j⟩|⟨_,g⟩⟩)
   ·exact .inr ⟨k,j⟩
   ·exact .inl ⟨j,.inl k⟩
   ·exact .inl ⟨k,.inr j⟩
   ·exact .inl ⟨k,.inl j⟩
   ·cases g
  ·rintro(⟨k,j|j⟩|⟨k,j⟩)
   ·exact .inl ⟨j,.inr k⟩
   ·refine .inr ⟨fun m hm=> ?_,.inl ⟨k,.inl j⟩⟩;have:=Qi1 h' hm;rw [this] at j;cases j
   ·exact .inl ⟨k,.inl j⟩
 cases hv:Mk (jn R F T n la R' F' T' n' lb) (jn R F T n la R' F' T' n' lb).length z d with
 | some v=>exact(q v).2 hv
 | none=>
  cases hk:kmF (Mk lb lb.length z) (Mk la la.length z) (fun d=>Qb6 R F T d.1 d.2 d.2 n) (kmF (Mk la la.length z) (Mk lb lb.length z) (fun d=>Qb6 R' F' T' d.1 d.2 d.2 n') (fun _=>Up)) d with
  | none=>rfl
  | some v=>have:=(q v).1 hk;rw [hv] at this;cases this
end
theorem JT.start {w:Ur}(hk:Qa0 w 174 (α:=Ky) Qa9 Qbl x0.1 0 (fun _=>Up))(hm:Qa0 w 83 (α:=Dt) dtV Qb8 x0.2 c (Mk J J.length z))(hne:x0.1≠x0.2)(hB:B<=x0.1/\ B<=x0.2):JT w B J z (fun _=>False) (fun r=>if r=[] then Uq x0 else Up) c x0:=by
 have nil:∀(p:List Ky) (x:Nat×Nat),(if p=[] then Uq x0 else Up)=Uq x ->p=[]/\ x=x0:=fun p x hx=>by
  by_cases e:p=[]
  ·rw [if_pos e] at hx;exact⟨e,(Option.some.inj hx).symm⟩
  ·rw [if_neg e] at hx;cases hx
 refine⟨⟨fun p x hx=> ?_,fun p x hx=> ?_,fun p q x y hx hy=> ?_,fun p x hx=> ?_,fun p hp=> ?_,fun p y hp=>by rw [if_neg oP]⟩,if_pos rfl,fun y r=> ?_⟩
 ·obtain⟨rfl,rfl⟩:=nil p x hx;exact(hk.mono (Ux _)).ext fun y=>oP
 ·obtain⟨rfl,rfl⟩:=nil p x hx;exact hm
 ·obtain⟨rfl,rfl⟩:=nil p x hx;obtain⟨rfl,rfl⟩:=nil q y hy;exact⟨hne,fun _=>rfl,fun _=>rfl⟩
 ·obtain⟨rfl,rfl⟩:=nil p x hx;exact hB
 ·cases p with
  | nil=>simp at hp
  | cons y r=>simp only [mJ];rw [if_neg (by rw [Qag (fun h=>h)];simp)]
 ·rw [if_neg oP];exact⟨fun h=>(by cases h),fun h=>h.1.elim⟩
noncomputable def kmS (fa fb:Dt ->Option ByteArray)(hb:Dt ->Bool)(f:Dt ->Option ByteArray)(ds:List Dt):Dt ->Option ByteArray:=fun d=>if yes (d∈ds)=true then kmF fa fb hb f d else f d
section
variable {fa fb : Dt -> Option ByteArray} {hb : Dt -> Bool} {f : Dt -> Option ByteArray} {ds : List Dt} {d : Dt} {v : ByteArray}
theorem Qj0:kmS fa fb hb f []=f:=by
 funext x;unfold kmS;rw [if_neg (by rw [Qag oP];simp)]
theorem QhO (hd:fa d=Uq v)(hk:hb d=false \/fb d=Uq v):kmS fa fb hb f (ds++[d])=QbX (kmS fa fb hb f ds) d (Uq v):=by
 funext x;unfold kmS QbX;by_cases e:x=d
 ·subst e;rw [if_pos (Qaj oP)];have:kmF fa fb hb f x=Uq v:=Qf4.2 (.inl ⟨hd,hk⟩);rw [this];simp
 ·rw [if_neg e];dsimp only;by_cases j:x∈ds
  ·rw [if_pos (Qaj (by simp [j])),if_pos (Qaj j)]
  ·rw [if_neg (by rw [Qag (by simp [e,j])];simp),if_neg (by rw [Qag j];simp)]
theorem QhN (hd:fa d=Uq v)(hn:d ∉ ds)(hk:¬(hb d=false \/fb d=Uq v)):kmS fa fb hb f (ds++[d])=kmS fa fb hb f ds:=by
 funext x;unfold kmS;by_cases e:x=d
 ·subst e;rw [if_pos (Qaj oP),if_neg (by rw [Qag hn];simp)];unfold kmF;rw [hd];dsimp only;rw [if_neg (by rw [Qag hk];simp)]
 ·by_cases j:x∈ds
  ·rw [if_pos (Qaj (by simp [j])),if_pos (Qaj j)]
  ·rw [if_neg (by rw [Qag (by simp [e,j])];simp),if_neg (by rw [Qag j];simp)]
theorem QkJ (hk:Qc8 fa ds):kmS fa fb hb f ds=kmF fa fb hb f:=by
 funext x;unfold kmS;by_cases e:x∈ds
 ·rw [if_pos (Qaj e)]
 ·rw [if_neg (by rw [Qag e];simp)];have:fa x=Up:=by
   cases hv:fa x with
   | none=>rfl
   | some v=>exact absurd ((hk.2 x).2 (by rw [hv];simp)) e
  unfold kmF;rw [this]
end
noncomputable def cW (J:List Lf)(z:List Ky):Nat:=(J.filter (fun x=>yes (z <+:Way x))).length
noncomputable def mW (J:List Lf)(z:List Ky):Nat:=(J.filter (fun x=>yes (Way x=z))).length
theorem Qkb (f:Ky ->Nat)(y:Ky):∀ks:List Ky,ks.Nodup ->y∈ks ->(ks.map fun u=>f u+if u=y then 1 else 0).sum=(ks.map f).sum+1
 | [],_,h=>by cases h
 | a::r,hn,h=>by
  have j:=List.nodup_cons.1 hn;simp only [UD,Vz];by_cases e:a=y
  ·have m:(r.map fun u=>f u+if u=y then 1 else 0)=r.map f:=Vy fun u hu=>by
    have:u≠y:=fun e2=>j.1 (by rw [e,<- e2];exact hu);rw [if_neg this];rfl
   rw [m,if_pos e];omega
  ·have k:y∈r:=by
    rcases List.mem_cons.1 h with h|h
    ·exact absurd h.symm e
    ·exact h
   rw [Qkb f y r j.2 k,if_neg e];omega
theorem QfP (f g:Ky ->Nat)(ks:List Ky)(h:∀u∈ks,f u=g u):(ks.map f).sum=(ks.map g).sum:=by
 rw [Vy h]
theorem Ql5 (z:List Ky)(ks:List Ky)(hn:ks.Nodup):∀J:List Lf,(∀x∈J,∀y,z++[y] <+:Way x ->y∈ks) ->cW J z=mW J z+(ks.map fun y=>cW J (z++[y])).sum
 | [],_=>by
  have:(ks.map fun y=>cW [] (z++[y])).sum=0:=by
   have Q:∀ks:List Ky,(ks.map fun y=>cW [] (z++[y])).sum=0:=fun ks=>by
    induction ks with
    | nil=>rfl
    | cons a r m=>simp only [UD,Vz,m];rfl
   exact Q ks
  rw [this];rfl
 | x::J,h=>by
  have m:=Ql5 z ks hn J (fun u i=>h u (Ve _ i));have A:∀(P:Lf ->Bool),((x::J).filter P).length=(J.filter P).length+if P x=true then 1 else 0:=fun P=>by
   cases j:P x with
   | true=>simp [j]
   | false=>simp [j]
  have q:cW (x::J) z=cW J z+if yes (z <+:Way x)=true then 1 else 0:=A _;have v:mW (x::J) z=mW J z+if yes (Way x=z)=true then 1 else 0:=A _;have g:∀y,cW (x::J) (z++[y])=cW J (z++[y])+if yes (z++[y] <+:Way x)=true then 1 else 0:=fun y=>A _;by_cases j:z <+:Way x
  ·obtain⟨s,k⟩:=j;cases s with
   | nil=>
    have o:Way x=z:=k▸oP;have p:∀y,¬z++[y] <+:Way x:=fun y hh=>by
     have:=hh.length_le;rw [o] at this;simp at this;omega
    rw [q,v,if_pos (Qaj (by rw [o];exact Yc _)),if_pos (Qaj o),m,QfP (fun y=>cW (x::J) (z++[y])) (fun y=>cW J (z++[y])) ks (fun y _=>by rw [g y,if_neg (by rw [Qag (p y)];simp)];rfl)];omega
   | cons y s=>
    have M:z++[y] <+:Way x:=(by rw [<- k,show z++y::s=(z++[y])++s by simp];exact Yb _ _);have b:Way x≠z:=fun e=>by
     have:=congrArg Yd (k.trans e);simp at this
    have only:∀u,z++[u] <+:Way x↔u=y:=fun u=>by
     constructor
     ·intro i;obtain⟨t,E⟩:=i;rw [<- k] at E;have:[u]++t=y::s:=List.append_cancel_left (by rw [<- Vg];exact E);injection this
     ·intro e;rw [e];exact M
    rw [q,v,if_pos (Qaj ⟨y::s,k⟩),if_neg (by rw [Qag b];simp),m];have O:(ks.map fun u=>cW (x::J) (z++[u])).sum=(ks.map fun u=>cW J (z++[u])+if u=y then 1 else 0).sum:=QfP _ _ ks (fun u _=>by
     rw [g u];by_cases e:u=y
     ·rw [if_pos e,if_pos (Qaj ((only u).2 e))]
     ·rw [if_neg e,if_neg (by rw [Qag (fun hh=>e ((only u).1 hh))];simp)])
    rw [O,Qkb (fun u=>cW J (z++[u])) y ks hn (h x (Vc) y M)];omega
  ·have b:Way x≠z:=fun e=>j (by rw [e];exact Yc _);have p:∀y,¬z++[y] <+:Way x:=fun y hh=>j (List.IsPrefix.trans (Yb _ _) hh);rw [q,v,if_neg (by rw [Qag j];simp),if_neg (by rw [Qag b];simp),m,QfP (fun y=>cW (x::J) (z++[y])) (fun y=>cW J (z++[y])) ks (fun y _=>by rw [g y,if_neg (by rw [Qag (p y)];simp)];rfl)];omega
theorem QnO (J:List Lf):cW J []=J.length:=by
 unfold cW;rw [List.filter_eq_self.2 (fun x _=>Qaj VY)]
section
variable {α β : Type} {w : Ur} {t : TypeId} {kv : α -> Value} {vo : Option β -> Value} {b c : Nat} {f : α -> Option β} {D : DataW Value}
theorem QmX {es:List (Lit×DataW Value)}(hp:es.Pairwise (fun p q=>p.1≠q.1))(hc:∀p∈es,∃x,keyOf prog t (kv x)=Uq p.1):∃k:List α,k.length=es.length/\ k.Nodup/\ (∀x,x∈k ->∃p∈es,keyOf prog t (kv x)=Uq p.1)/\∀p∈es,∃x∈k,keyOf prog t (kv x)=Uq p.1:=by
 induction es with
 | nil=>exact⟨[],rfl,Ye,fun x m=>(by cases m),fun p hp=>(by cases hp)⟩
 | cons p r ih=>
  have h:=List.pairwise_cons.1 hp;obtain⟨k,g,o,z,i⟩:=ih h.2 (fun q j=>hc q (Ve _ j));obtain⟨x,m⟩:=hc p (Vc);refine⟨x::k,by simp [g],List.nodup_cons.2 ⟨fun hm=> ?_,o⟩,fun y v=> ?_,fun q j=> ?_⟩
  ·obtain⟨q,j,e⟩:=z x hm;rw [m] at e;exact h.1 q j (Option.some.inj e)
  ·rcases List.mem_cons.1 v with e|e
   ·rw [e];exact⟨p,Vc,m⟩
   ·obtain⟨q,j,u⟩:=z y e;exact⟨q,Ve _ j,u⟩
  ·rcases List.mem_cons.1 j with e|e
   ·rw [e];exact⟨x,Vc,m⟩
   ·obtain⟨y,v,u⟩:=i q e;exact⟨y,Ve _ v,u⟩
theorem FM.size (h:FM w t kv vo b c f D)(K:Keyed prog t)(hi:∀x y,kv x=kv y ->x=y){ks:List α}(hk:Qc8 f ks):Maps.size D=ks.length:=by
 obtain⟨k,rfl,U,Q⟩:=h.own.entries K;have q:∀p∈k,has (DataW.map k) p.1=true:=fun p j=>by
  rw [has_eq];exact List.any_eq_true.2 ⟨p,j,WideAt.sameKey_self (Q p j)⟩
 obtain⟨o,A,E,M,O⟩:=QmX (t:=t) (kv:=kv) U (fun p j=>h.cov p.1 (q p j));have i:∀x,x∈o ->x∈ks:=fun x hx=>by
  obtain⟨p,j,e⟩:=M x hx;refine(hk.2 x).2 fun hn=> ?_;have:=(h.at' x p.1 e).1;rw [q p j,hn] at this;cases this
 have G:Maps.size (DataW.map k)=k.length:=by simp [Maps.size]
 rw [G,<- A];have s:∀x,x∈ks ->x∈o:=fun x hx=>by
  obtain⟨g,u⟩:=h.ok x ((hk.2 x).1 hx);have r:=(h.at' x g u).1;have Y:(f x).isSome=true:=by
   cases hv:f x with
   | none=>exact absurd hv ((hk.2 x).1 hx)
   | some v=>rfl
  rw [Y,has_eq] at r;obtain⟨p,j,z⟩:=List.any_eq_true.1 r;have V:p.1=g:=by
   first
    | exact WideAt.sameKey_eq z
    | exact(WideAt.sameKey_eq z).symm
  obtain⟨y,Z,m⟩:=O p j;rw [V] at m;have:=hi _ _ (K.inj u m);rw [this];exact Z
 exact((List.perm_ext_iff_of_nodup E hk.1).2 (fun x=>⟨i x,s x⟩)).length_eq
end
theorem Qk2(hd:Dis J J.length):J.Pairwise (fun x y=>((x.r,x.q):Dt)≠(y.r,y.q)):=by
 refine List.pairwise_iff_getElem.2 fun i j hi hj hij e=> ?_;have k:=hd j hj i hij;have m:gL J i=J[i]:=by simp [gL,UA,hi]
 have u:gL J j=J[j]:=by simp [gL,UA,hj]
 rw [m,u] at k;exact k ⟨congrArg Prod.fst e,congrArg Prod.snd e⟩
theorem Qi2(hd:Dis J J.length)(z:List Ky):Qc8 (Mk J J.length z) ((J.filter (fun x=>yes (Way x=z))).map fun x=>((x.r,x.q):Dt)):=by
 refine⟨?_,fun d=> ?_⟩
 ·rw [List.Nodup,List.pairwise_map];exact(Qk2 hd).sublist List.filter_sublist
 ·rw [List.mem_map];constructor
  ·rintro⟨x,t,e⟩;have u:=List.mem_filter.1 t;obtain⟨j,k,m⟩:=Qao.1 u.1;have g:Way x=z:=by
    refine Classical.byContradiction fun hn=> ?_;have:=u.2;rw [Qag hn] at this;cases this
   exact Qe6.2 ⟨j,k,by rw [m];exact g,by rw [m];exact e⟩
  ·intro h;obtain⟨j,k,v,y⟩:=Qe6.1 h;exact⟨gL J j,List.mem_filter.2 ⟨Qao.2 ⟨j,k,rfl⟩,Qaj v⟩,y⟩
theorem Qj6(hd:Dis J J.length){w:Ur}{D:DataW Value}(h:FM w 83 dtV Qb8 b c (Mk J J.length z) D):Maps.size D=mW J z:=by
 rw [h.size Qau (fun _ _=>QcA) (Qi2 hd z),List.length_map];rfl
def MO {α β:Type}(w:Ur)(t:TypeId)(kv:α ->Value)(vo:Option β ->Value)(mo:Option Nat)(c:Nat)(f:α ->Option β):Prop:=
 match mo with
 | some b=>Qa0 w t kv vo b c f
 | none=>∀x,f x=Up
def Rng {α β:Type}(w:Ur)(t:TypeId)(kv:α ->Value)(vo:Option β ->Value)(mo:Option Nat)(r c:Nat)(f:α ->Option β)(ds:List α)(cnt:Nat):Prop:=
 match mo with
 | some b=>∃D left,w.ranges prog t QgE b r c D left cnt/\ FM w t kv vo b c f D/\ Qdh t kv f left ds/\ ds.length+cnt<=Maps.size D
 | none=>w.heap[r]? =Uq (.mapIter Up 0 #[] 0)/\ ds=[]/\ cnt=0/\∀x,f x=Up
section
variable {α β : Type} {w w' : Ur} {t : TypeId} {kv : α -> Value} {vo : Option β -> Value} {mo : Option Nat} {r c cnt : Nat} {f : α -> Option β} {ds : List α}
theorem MO.lt (h:MO w t kv vo mo c f):∀b,mo=Yl b ->b<w.heap.size:=fun b e=>by subst e;exact Qa0.lt h
theorem MO.kept {row:Option Nat}(h:MO w t kv vo mo c f)(hg:w.grownBy w' row)(hne:∀b,mo=Yl b ->row≠Yl b):MO w' t kv vo mo c f:=by
 cases mo with
 | none=>exact h
 | some b=>exact Qa0.same h (hg.block b (Qa0.lt h) (fun e=>hne b rfl e.symm))
theorem MO.bw {B:Nat}(h:MO w t kv vo mo c f)(hb:Below B w w')(hne:∀b,mo=Yl b ->b<B):MO w' t kv vo mo c f:=by
 cases mo with
 | none=>exact h
 | some b=>exact Qa0.same h (hb.block b (hne b rfl))
theorem Rng.left_eq {b:Nat}(h:Rng w t kv vo (Yl b) r c f ds cnt):w.rangeLeft b r=cnt:=by
 obtain⟨D,j,h,_⟩:=h;exact h.left_eq
theorem Rng.lt (h:Rng w t kv vo mo r c f ds cnt):r<w.heap.size:=by
 cases mo with
 | none=>exact(Array.getElem?_eq_some_iff.1 h.1).1
 | some b=>obtain⟨D,j,h,_⟩:=h;exact h.lt
theorem Rng.mlt (h:Rng w t kv vo mo r c f ds cnt):∀b,mo=Yl b ->b<w.heap.size:=fun b e=>by
 subst e;obtain⟨D,j,h,_⟩:=h;exact h.owns.lt
theorem Rng.len (h:Rng w t kv vo mo r c f ds cnt):ds.length+cnt<=c:=by
 cases mo with
 | none=>rw [h.2.1,h.2.2.1];simp
 | some b=>obtain⟨D,m,h,j,_,k⟩:=h;have:=h.owns.size_le;omega
theorem Rng.kept {row:Option Nat}(h:Rng w t kv vo mo r c f ds cnt)(hg:w.grownBy w' row)(hne:∀b,mo=Yl b ->row≠Yl b)(hr:row≠Yl r):Rng w' t kv vo mo r c f ds cnt:=by
 have q:=h.lt;cases mo with
 | none=>exact⟨(hg.block r q (fun e=>hr e.symm)).trans h.1,h.2⟩
 | some b=>
  obtain⟨D,u,h,j,m⟩:=h;have k:=h.kept hg (fun e=>hne b rfl e.symm) (fun e=>hr e.symm);exact⟨D,u,k,⟨k.owns,j.at',j.cov,j.ok⟩,m⟩
theorem Rng.same (h:Rng w t kv vo mo r c f ds cnt)(hg:∀b,mo=Yl b ->w'.heap[b]? =w.heap[b]?)(hr:w'.heap[r]? =w.heap[r]?):Rng w' t kv vo mo r c f ds cnt:=by
 cases mo with
 | none=>exact⟨hr.trans h.1,h.2⟩
 | some b=>
  obtain⟨D,m,⟨v,u,A,s,q,g,F,i,z,o,p⟩,j,y⟩:=h;have k:w'.ranges prog t QgE b r c D m cnt:=⟨v,u,A,s,q,(hg b rfl).trans g,F,i,z,hr.trans o,p⟩;exact⟨D,m,k,⟨k.owns,j.at',j.cov,j.ok⟩,y⟩
end
theorem QfJ {w:Ur}{r:Nat}(h:w.heap[r]? =Uq (.mapIter Up 0 #[] 0))(ty:TypeId):(Instr.next (Uk (Uc r)) false ty).run prog w=.ok (Ul #[Un false]) w:=by
 simp only [Instr.next,getObj,Sem.run_bind,Sem.run,h,Result.andThen];rfl
section
variable {α β : Type} {t : TypeId} {kv : α -> Value} {vo : Option β -> Value} {mo : Option Nat} {r c cnt : Nat} {f : α -> Option β} {ds : List α}
variable (w : Ur) {ops : Array Oper} {rest : List Oper} {o : Oper} {a : Act} {Q : Exit -> Act -> Ur -> Prop}
theorem Qbi (hg:o.guard=Up)(m:Operand)(mt:TypeId)(hop:o.op=Op.range mt m)(t e:TypeId)(K:Keyed prog t)(ht:prog.underlying mt=Uq (.map t e))(kv:α ->Value)(vo:Option β ->Value)(mo:Option Nat)(c:Nat)(f:α ->Option β)
  (hm:a.eval m=.map mo) (h:MO w t kv vo mo c f)
  (hK:∀w' cnt,Rng w' t kv vo mo w.heap.size c f ([]:List α) cnt ->w.grownBy w' Up ->w'.heap.size=w.heap.size+1 ->wpList prog ops Q rest (a.put o.dst (Uk (Uc w.heap.size))) w'):
  wpList prog ops Q (o::rest) a w:=by
 cases mo with
 | some b=>
  obtain⟨D,h⟩:=h;refine wpList_range_own w hg m mt hop t e K ht QgE b c D hm h.own ?_;intro r k j q;have u:=j.block b (Qa0.lt ⟨D,h⟩) oP;exact hK r _ ⟨D,_,k,⟨k.owns,h.at',h.cov,h.ok⟩,Qdh.start h,oP⟩ j q
 | none=>
  refine wpList_plain hg fun K' hK'=> ?_;unfold Oper.wp;simp [execOp,hop,hm,run_range_nilMap w mt t e ht,Result.andThen];exact hK' _ _ (hK _ 0 ⟨heap_alloc_new w _,rfl,rfl,h⟩ (VG w _ Up) oP)
theorem Qbu (hg:o.guard=Up)(it:Operand)(hop:o.op=Op.next it false)(t:TypeId)(K:Keyed prog t)(kv:α ->Value)(hi:∀x y,kv x=kv y ->x=y)(invK:∀key j,keyOf prog t key=Uq j ->∃x,key=kv x)(vo:Option β ->Value)(mo:Option Nat)(r c:Nat)(f:α ->Option β)(ds:List α)(cnt:Nat)
  (hit:a.eval it=Uk (Uc r)) (h:Rng w t kv vo mo r c f ds cnt)
  (hDone:Qc8 f ds ->wpList prog ops Q rest (a.put o.dst (Ul #[Un false])) w)
  (hMore:∀(x:α) (y:β) (w':Ur) (cnt' b:Nat),mo=Uq b ->f x=Uq y ->x ∉ ds ->(∃j,keyOf prog t (kv x)=Uq j) ->Rng w' t kv vo mo r c f (ds++[x]) cnt' ->cnt'<cnt ->w.grownBy w' (Uq r) ->w'.heap.size=w.heap.size ->
   (Instr.entry (Uk (Uc r))).run prog w'=.ok (Ul #[kv x,vo (Uq y)]) w' ->wpList prog ops Q rest (a.put o.dst (Ul #[Un true,kv x,vo (Uq y)])) w'):
  wpList prog ops Q (o::rest) a w:=by
 cases mo with
 | none=>
  refine wpList_plain hg fun K' hK'=> ?_;unfold Oper.wp;simp [execOp,hop,hit,QfJ h.1,Result.andThen];refine hK' _ _ (hDone ?_);rw [h.2.1];exact⟨Ye,fun x=>⟨fun hx=>(by cases hx),fun hx=>absurd (h.2.2.2 x) hx⟩⟩
 | some b=>
  obtain⟨D,L,G,k,u,N⟩:=h;refine wpList_next_ranges (α:=α) (β:=Value) w hg it hop t K QgE kv id invK (fun v _ _=>⟨v,rfl⟩) b r c D L cnt hit G (fun h0 hl=>hDone (u.done k hl)) ?_;intro x v j y w1 E m p I g s Y U H O;have V:=has_true_of_atKey g;have i:=(k.at' x j m).1;rw [V] at i;obtain⟨z,A⟩:∃z,f x=Uq z:=by
   cases e:f x with
   | none=>rw [e] at i;cases i
   | some z=>exact⟨z,rfl⟩
  have J:v=vo (Uq z):=by
   have q:=(k.at' x j m).2;rw [g,A] at q;have M:=QdA I;rw [M] at q;injection q
  subst J;have Z:x ∉ ds:=fun hx=>by have:=(u.old x hx).2 j m;rw [p] at this;cases this
  exact hMore x z w1 E b rfl A Z ⟨j,m⟩ ⟨D,_,s,⟨s.owns,k.at',k.cov,k.ok⟩,u.step k K hi m p g,oS⟩ Y U H O
end
section
variable {α β : Type} {w w' : Ur} {t : TypeId} {kv : α -> Value} {vo : Option β -> Value} {mo : Option Nat} {r c cnt : Nat} {f : α -> Option β} {ds : List α}
theorem MO.look_ok {mt e:TypeId}(h:MO w t kv vo mo c f)(K:Keyed prog t)(ht:prog.underlying mt=Yl (.map t e))(hz:(zeroValue e).run prog w=.ok (vo Up) w){x:α}{kl:Lit}(hk:keyOf prog t (kv x)=Yl kl):
  (Instr.lookup mt (.map mo) (kv x) true).run prog w=.ok (Ul #[vo (f x),Un (f x).isSome]) w:=by
 cases mo with
 | some b=>exact Qa0.look_ok h K ht hz hk
 | none=>
  rw [h x];exact Maps.look_nil true K ht hz hk
end
theorem Qd2 {q:Int}{kl:Lit}(h:keyOf prog 83 (dtV (r,q))=Uq kl):(Lit.int Uh r).wf=true/\ (Lit.int Uh q).wf=true:=by
 unfold keyOf at h;rw [underlying83] at h;simp only [QmE,Bool.true_and] at h;have z:0<prog.types.size:=of_decide_eq_true oK;obtain⟨m,y⟩:∃m,prog.types.size=m+1:=⟨prog.types.size - 1,oM⟩;rw [y] at h;have u:prog.cellsOf 83=2:=oK;have v:prog.cellsOf 3=1:=oK;simp [dtV,QfT,Value.formed,underlying83,u,Program.keyLits,underlying3,v,Value.cells] at h;by_cases j:(Lit.int Uh r).wf=true
 ·by_cases k:(Lit.int Uh q).wf=true
  ·exact⟨j,k⟩
  ·simp [j,k] at h
 ·simp [j] at h
theorem QqJ:prog.fieldsOf 169=match prog.underlying 169 with|some (.struct fs)=>fs|_=>#[]:=rfl
theorem QkV:prog.stoodInHeld 169=false:=oK
theorem QmI (s s':ByteArray)(w:Ur):(binOp .eql 169 (Uo #[Um s]) (Uo #[Um s'])).run prog w=.ok (Un (s.toList==s'.toList)) w:=by
 rw [run_eql_struct,show (10000:Nat)=9999+1 from rfl,run_equalIn_agg _ _ _ _ _ oK QkV,QqJ,underlying169];cases h1:(s.toList==s'.toList)<;>simp [Op.eqFields,go_sem,underlying9,h1]
theorem QeQ (ka ma kb mb kj na:Option Nat)(bj bm ca cb c:Nat)(fa fb f:Dt ->Option ByteArray)(hb:Dt ->Bool)(w:Ur)
  (hA:MO w 83 dtV Qb8 ma ca fa) (hB:MO w 83 dtV Qb8 mb cb fb) (hJ:Qa0 w 83 dtV Qb8 bj c f) (hna:ma≠Uq bj) (hnb:mb≠Uq bj) (hc:c+ca<=1048576)
  (hH:∀w',w.grownBy w' (Uq bj) ->∀r q H,keyOf prog 83 (dtV (r,q))=Uq H ->Cl 140 #[.map (Uq bm),Uo #[Ud r,Ud q]] w' fun e w''=>e=Ui (Un (hb (r,q)))/\ Bl w' w''):
  Cl 216 #[Uo #[.map ka,.map ma,.map na],Uo #[.map kb,.map mb,.map (Uq bm)],Uo #[.map kj,.map (Uq bj)]] w fun e w'=>e=Ui (Ul #[])/\ Qa0 w' 83 dtV Qb8 bj (c+ca) (kmF fa fb hb f)/\ w.grownBy w' (Uq bj):=by
 obtain⟨W,V⟩:=zE (((w.alloc (Uj #[.map ka,.map ma,.map na] 128)).alloc (Uj #[.map kb,.map mb,.map (Uq bm)] 128)).alloc (Uj #[.map kj,.map (Uq bj)] 124));have X:w.grownBy W (Uq bj):=V▸((VG w _ _).trans (VG _ _ _)).trans (VG _ _ _);have b0:Bl w W:=V▸((zO _ _).alloc oP _).alloc oS _;have X0:Bx3 W w.heap.size (.map ka) (.map ma) (.map na):=by
  rw [<- V];exact((Bx3.made w (.map ka) (.map ma) (.map na) 128).bw (zO _ _) (Bx3.made w (.map ka) (.map ma) (.map na) 128).lt).bw (zO _ _) oS
 have X1:Bx3 W (w.heap.size+1) (.map kb) (.map mb) (.map (Uq bm)):=by
  rw [<- V];have:=Bx3.made (w.alloc (Uj #[.map ka,.map ma,.map na] 128)) (.map kb) (.map mb) (.map (Uq bm)) 128;exact(by simpa using this:Bx3 _ (w.heap.size+1) _ _ _).bw (zO _ _) oP
 have X2:Bx2 W (w.heap.size+2) (.map kj) (.map (Uq bj)):=by
  rw [<- V];simpa using Bx2.made ((w.alloc (Uj #[.map ka,.map ma,.map na] 128)).alloc (Uj #[.map kb,.map mb,.map (Uq bm)] 128)) (.map kj) (.map (Uq bj)) 124
 have HA:=hid (hA.kept X (fun b e h=>hna (by rw [e];exact h.symm)));have HB:=hid (hB.kept X (fun b e h=>hnb (by rw [e];exact h.symm)));have HJ:=hid (Qa0.same hJ (b0.block bj hJ.lt));have g:=hid (⟨hna,hnb,hJ.lt,hc⟩:ma≠Uq bj/\ mb≠Uq bj/\ bj<w.heap.size/\ c+ca<=1048576);have HH:=hid (fun w' (hg:W.grownBy w' (Uq bj))=>hH w' (X.trans hg));have Gi:=hid X;have Gp:=hid (fun b (e:ma=Uq b)=>hA.lt b e);have H7:W.heap.size=w.heap.size+3:=V▸oP;have Hn:=hid H7;have N:=hid (⟨X1,X2⟩:Bx3 W (w.heap.size+1) (.map kb) (.map mb) (.map (Uq bm))/\ Bx2 W (w.heap.size+2) (.map kj) (.map (Uq bj)));have k1:=X0.c1;clear hA hB hJ hna hnb hc hH X b0 X0 X1 X2 H7;go_enter func216,ntmps216;go_wp2_with (at_range;refine Qbi _ rfl _ 122 rfl 83 169 Qau underlying122 dtV Qb8 ma ca fa rfl HA ?_;intro w0 Gm Hc Hq Gn);have Hx:Hid (W.grownBy w0 (Uq bj)):=hid (Hq.but _);have H0:Hid (Qa0 w0 83 dtV Qb8 bj (c+([]:List Dt).length) (kmS fa fb hb f [])):=hid (by rw [Qj0];exact Qa0.same HJ (Hq.block bj HJ.lt oP));clear Hq Gn HJ HA k1 V;try go_frame
 go_loopw [] (fun wr=>∃(m:List Dt) (Ho:Nat),Rng wr 83 dtV Qb8 ma W.heap.size ca fa m Ho/\ Hid (Qa0 wr 83 dtV Qb8 bj (c+m.length) (kmS fa fb hb f m))/\ Hid (W.grownBy wr (Uq bj))) (fun wr=>wr.rangeLeft (ma.getD 0) W.heap.size);case atStart=>exact⟨[],_,Hc,H0,Hx⟩
 case round=>
  clear Hc H0 Hx;obtain⟨m,Ho,Hh,Hl,Hz⟩:=hrel;have Ha:=hid Hh;go_wp2_with (at_next;refine Qbu _ rfl _ rfl 83 Qau dtV (fun _ _=>QcA) (fun key H y=>Qgs y) Qb8 ma W.heap.size ca fa m Ho rfl Hh ?_ ?_)
  ·intro y;have HE:Hid (Qa0 wr 83 dtV Qb8 bj (c+ca) (kmF fa fb hb f)):=hid (by rw [<- QkJ y];exact Hl.mono (oH Ha.len));have Gh:=hid (Gi.trans Hz);clear y Hh;go_wp2_with fail;go_end0;exact⟨rfl,HE,Gh⟩
  ·intro v u s E Hp b1 Gb H9 Gd H Ga Hd Hb Hr Go H8;have S:=hid H9;have H4:=hid Gd;have Hf:=hid Ga;have Hv:Hid (c+m.length<maxLen):=hid (by have p:=Ha.len;have h2:=g.2.2.2;have h3:=Hb;unfold maxLen;omega);have Hg:Hid (∀i,Rng i 83 dtV Qb8 ma W.heap.size ca fa (m++[(v,u)]) Hp ->i.rangeLeft (ma.getD 0) W.heap.size<wr.rangeLeft (ma.getD 0) W.heap.size):=hid (fun i h9=>by
    have p:=Ha.out;rw [Gb] at h9 p ⊢;show i.rangeLeft b1 _<wr.rangeLeft b1 _;rw [h9.left_eq,p.left_eq];exact Hb)
   have Hy:Hid (W.grownBy E (Uq bj)):=hid (Hz.andThen Hr (fun j e=>by cases e;exact .inl zL));have Gq:Hid (W.heap.size<=E.heap.size):=hid Hy.size;have H1:Hid (Qa0 E 83 dtV Qb8 bj (c+m.length) (kmS fa fb hb f m)):=hid (Qa0.same Hl (Hr.block bj Hl.lt (fun e=>by have p:=g.2.2.1;have h2:=Hn.out;injection e with e;omega)));have Hm:=hid Hd;clear H9 Gd Ga Hh Hd Hb Hr Go Gb;obtain⟨M,Hj⟩:=zE ((E.alloc (Uj #[Ud v,Ud u] 83)).alloc (Uj #[Um s] 169));have U:Bl E M:=Hj▸Qad _ _ _;have D6:Bx2 M E.heap.size (Ud v) (Ud u):=Hj▸(Bx2.made E _ _ _).allocs _;have M6:Bx1 M (E.heap.size+1) (Um s):=(by rw [<- Hj];simpa using Bx1.made (E.alloc (Uj #[Ud v,Ud u] 83)) (Um s) 169);have I:W.grownBy M (Uq bj):=Hy.andThen (row':=Up) ⟨U.os,U.tape,U.output,U.size,fun k y _=>U.block k y⟩ (fun j e=>by cases e);have o:∀k,w.heap.size<=k ->Uq k≠Uq bj:=fun k y e=>by have p:=g.2.2.1;injection e with e;omega
   have o1:=I.cell N.1.c1 (o _ oP);have o2:=I.cell N.1.c2 (o _ oP);obtain⟨d0,d1⟩:=D6.q2;have m0:=M6.c0;have Hw:=hid D6;have H2:=hid M6;have Gj:=hid I;have Gf:=hid U;have Hs:=(HB.kept I (fun b e h=>g.2.1 (by rw [e,h]))).look_ok Qau underlying122 (QfS M) (x:=(v,u)) Hf;obtain⟨t,Gc,Ge⟩:∃t,Qb8 (fb (v,u))=Uo #[Um t]/\ ((fb (v,u)=Up/\ t=ByteArray.empty) \/fb (v,u)=Uq t):=by
    cases fb (v,u) with
    | none=>exact⟨_,rfl,.inl ⟨rfl,rfl⟩⟩
    | some t=>exact⟨t,rfl,.inr rfl⟩
   obtain⟨q,A⟩:=zE ((fb (v,u)).isSome);rw [Gc,A] at Hs;have Gk:=hid Ge;have H5:=hid A;clear Gc Ge A;dsimp only [dtV,QfT,Qb8] at H8 Hs ⊢;clear U D6 M6 I o;obtain⟨w7,Ht⟩:=zE (M.alloc (Uj #[Um t] 169));have b7:Bl M w7:=Ht▸zO _ _;have T7:Bx1 w7 M.heap.size (Um t):=Ht▸Bx1.made _ _ _;have T:Hid (W.grownBy w7 (Uq bj)):=hid (Gj.andThen (row':=Up) ⟨b7.os,b7.tape,b7.output,b7.size,fun k y _=>b7.block k y⟩ (fun j e=>by cases e));have Gg:=hid (Qaa Gf b7);have D7:=Hw.bw b7 Hw.lt;have M7:=H2.bw b7 H2.lt;have P:=hid D7;have H3:=hid M7;have H6:=hid T7;have Hu:=hid (HH w7 T v u H Hf);have o:∀k,w.heap.size<=k ->Uq k≠Uq bj:=fun k y e=>by have p:=g.2.2.1;injection e with e;omega
   have p1:=T.cell N.1.c1 (o _ oP);have p2:=T.cell N.1.c2 (o _ oP);obtain⟨q0,q1⟩:=D7.q2;clear b7 T7 D7 M7 o;go_wp2_with fail;refine Hu.mono ?_;rintro e D ⟨rfl,z⟩;have J:Hid (W.grownBy D (Uq bj)):=hid (T.andThen (row':=Up) ⟨z.os,z.tape,z.output,z.size,fun k y _=>z.block k y⟩ (fun j e=>by cases e));have F:=Qaa Gg z;have He:=hid (Qa0.same H1 (F.block bj H1.lt));have G:=hid (Hm.same (fun b e=>F.block b (Hm.mlt b e)) (F.block _ Hm.lt));have o:∀k,w.heap.size<=k ->Uq k≠Uq bj:=fun k y e=>by have p:=g.2.2.1;injection e with e;omega
   have r1:=J.cell N.2.c1 (o _ oP);have s0:=(P.bw z P.lt).c0;have s1:=(P.bw z P.lt).c1;have s2:=(H3.bw z H3.lt).c0;have s3:=(H6.bw z H6.lt).c0;clear z F o Hs H8 o1 o2 d0 d1 m0 p1 p2 q0 q1 Hj Ht Hu;cases hhb:hb (v,u) with
   | false=>
    have K:=hid hhb;clear hhb;have Q:Hid (kmS fa fb hb f (m++[(v,u)])=QbX (kmS fa fb hb f m) (v,u) (Uq s)):=hid (QhO S (.inl K));go_wp2_with (refine Qax _ rfl _ _ _ 122 rfl 83 169 Qau dtV (fun _ _=>QcA) underlying122 Qb8 bj (c+m.length) (kmS fa fb hb f m) rfl He Hv (v,u) s H rfl rfl Hf ?_;intro i B Z);have L:=hid (G.kept Z (fun b e h=>g.1 (by rw [e,h])) (fun h=>by have p:=g.2.2.1;have h2:=Hn.out;injection h with h;omega));have O:Hid (Qa0 i 83 dtV Qb8 bj (c+(m++[(v,u)]).length) (kmS fa fb hb f (m++[(v,u)]))):=hid (by rw [Q.out];simpa [Nat.add_assoc] using B);have Hk:=hid (J.trans Z);clear B Z;simp only [Act.put];go_roundw;case rel=>exact⟨_,_,L,O,Hk⟩
    case measure=>exact Hg i L
   | true=>
    rcases Gk.out with ⟨Y,rfl⟩|Y
    ·have A:=H5.out;rw [Y] at A;subst A;have R:=hid Y;clear Y;have K:=hid hhb;clear hhb;have Q:Hid (kmS fa fb hb f (m++[(v,u)])=kmS fa fb hb f m):=hid (QhN S H4 (fun h=>h.elim (fun h=>by rw [K.out] at h;cases h) (fun h=>by rw [R.out] at h;cases h)));have O:Hid (Qa0 D 83 dtV Qb8 bj (c+(m++[(v,u)]).length) (kmS fa fb hb f (m++[(v,u)]))):=hid (by rw [Q.out];exact He.mono oP);go_wp2_with fail;go_roundw;case rel=>exact⟨_,_,G,O,J⟩
     case measure=>exact Hg D G
    ·have A:=H5.out;rw [Y] at A;subst A;have R:=hid Y;clear Y;have K:=hid hhb;have EQ:∀w:Ur,(binOp .eql 169 (Uo #[Um t]) (Uo #[Um s])).run prog w=.ok (Un (t.toList==s.toList)) w:=fun w=>QmI t s w;clear hhb;by_cases Hi:t=s
     ·subst Hi;have C:(t.toList==t.toList)=true:=oP;rw [C] at EQ;clear C;have Q:Hid (kmS fa fb hb f (m++[(v,u)])=QbX (kmS fa fb hb f m) (v,u) (Uq t)):=hid (QhO S (.inr R));go_wp2_with (refine Qax _ rfl _ _ _ 122 rfl 83 169 Qau dtV (fun _ _=>QcA) underlying122 Qb8 bj (c+m.length) (kmS fa fb hb f m) rfl He Hv (v,u) t H rfl rfl Hf ?_;intro i B Z);have L:=hid (G.kept Z (fun b e h=>g.1 (by rw [e,h])) (fun h=>by have p:=g.2.2.1;have h2:=Hn.out;injection h with h;omega));have O:Hid (Qa0 i 83 dtV Qb8 bj (c+(m++[(v,u)]).length) (kmS fa fb hb f (m++[(v,u)]))):=hid (by rw [Q.out];simpa [Nat.add_assoc] using B);have Hk:=hid (J.trans Z);clear B Z;simp only [Act.put];go_roundw;case rel=>exact⟨_,_,L,O,Hk⟩
      case measure=>exact Hg i L
     ·have C:(t.toList==s.toList)=false:=(by simpa using fun h=>Hi (toList_inj h));have Gl:=hid Hi;rw [C] at EQ;clear C Hi;have Q:Hid (kmS fa fb hb f (m++[(v,u)])=kmS fa fb hb f m):=hid (QhN S H4 (fun h=>h.elim (fun h=>by rw [K.out] at h;cases h) (fun h=>by rw [R.out] at h;exact Gl (Option.some.inj h))));have O:Hid (Qa0 D 83 dtV Qb8 bj (c+(m++[(v,u)]).length) (kmS fa fb hb f (m++[(v,u)]))):=hid (by rw [Q.out];exact He.mono oP);go_wp2_with fail;go_roundw;case rel=>exact⟨_,_,G,O,J⟩
      case measure=>exact Hg D G
theorem Qmk (z:List Ky)(s:ByteArray)(k:Int)(kn:Option Nat)(B c:Nat)(N:List Ky ->Option (Nat×Nat))(M:List Ky ->Dt ->Option ByteArray)(w:Ur)(kl:Lit)(hk:keyOf prog 174 (Qa9 (s,k))=Uq kl)(hT:Tre w B N M c):
  Cl 218 #[Uo #[.map (mF (N z)),.map (mS (N z)),.map kn],Uo #[Um s,Ud k]] w (Rt w (Uo #[.map (mF (N (z++[(s,k)]))),.map (mS (N (z++[(s,k)]))),.map kn])):=by
 have y:Hid (∀w',Bl w w' ->(Instr.lookup 121 (.map (mF (N z))) (Uo #[Um s,Ud k]) false).run prog w'=.ok (Uo #[.map (mF (N (z++[(s,k)]))),.map (mS (N (z++[(s,k)])))]) w'):=hid (fun w' b=>(hT.bw b).look z (s,k) hk);obtain⟨m,g⟩:=zE (mF (N z));obtain⟨r,E⟩:=zE (mS (N z));obtain⟨i,t⟩:=zE (mF (N (z++[(s,k)])));obtain⟨p,o⟩:=zE (mS (N (z++[(s,k)])));rw [g,t,o] at y;rw [g,E,t,o];obtain⟨W,u⟩:=zE (((w.alloc (Uj #[.map m,.map r,.map kn] 128)).alloc (Uj #[Um s,Ud k] 174)).alloc (Uj #[.map Up,.map Up,.map Up] 128));have j:Bl w W:=u▸((zO _ _).alloc oP _).alloc oS _;have h:Bx3 W w.heap.size (.map m) (.map r) (.map kn):=by
  rw [<- u];exact((Bx3.made w (.map m) (.map r) (.map kn) 128).bw (zO _ _) (Bx3.made w (.map m) (.map r) (.map kn) 128).lt).bw (zO _ _) oS
 have A:Bx2 W (w.heap.size+1) (Um s) (Ud k):=by
  rw [<- u];have:=Bx2.made (w.alloc (Uj #[.map m,.map r,.map kn] 128)) (Um s) (Ud k) 174;exact(by simpa using this:Bx2 _ (w.heap.size+1) _ _).bw (zO _ _) oP
 have q:Bx3 W (w.heap.size+1+1) (.map Up) (.map Up) (.map Up):=by
  rw [<- u];simpa using Bx3.made ((w.alloc (Uj #[.map m,.map r,.map kn] 128)).alloc (Uj #[Um s,Ud k] 174)) (.map Up) (.map Up) (.map Up) 128
 have G:(Instr.lookup 121 (.map m) (Uo #[Um s,Ud k]) false).run prog W.drew=.ok (Uo #[.map i,.map p]) W.drew:=y _ ⟨j.os,j.tape,j.output,j.size,j.block⟩;have x0:=h.c0;have K:=h.c2;obtain⟨L,X⟩:=A.q2;obtain⟨C,D,F⟩:=q.q3;have H:=q.f 0;have I:=q.f 1;have J:=q.f 2;have U:=hid j;have Q:=hid q;clear j h A q g E t o hT y;go_enter func218,ntmps218;go_wp2_with fail;go_region;have O:=hid (Q.set (.map i) (.map p) (.map kn));go_wp2_with fail;obtain⟨V,Y,Z⟩:=O.q3;refine zF (v:=Uo #[.map i,.map p,.map kn]) (by simp [results,results218,go_sem,V,Y,Z]) ⟨rfl,?_⟩;exact(((U.setCell oS _).setCell oS _).setCell oS _).drew
def Qc7 (g1:Ky ->Option (Nat×Nat))(g2:Dt ->Option ByteArray):Prop:=(∃y,g1 y≠Up) \/(∃d,g2 d≠Up)
theorem Qo5 (x0 x1:Nat×Nat)(s:ByteArray)(k:Int)(c:Nat)(f g1:Ky ->Option (Nat×Nat))(g2:Dt ->Option ByteArray)(w:Ur)(kl:Lit)(hk:keyOf prog 174 (Qa9 (s,k))=Uq kl)
  (hF:Qa0 w 174 Qa9 Qbl x0.1 c f) (h1:Qa0 w 174 Qa9 Qbl x1.1 c g1) (h2:Qa0 w 83 dtV Qb8 x1.2 c g2) (hc:c<1048576):
  Cl 217 #[Uo #[.map (Uq x0.1),.map (Uq x0.2)],Uo #[Um s,Ud k],Uo #[.map (Uq x1.1),.map (Uq x1.2)]] w fun e w'=>e=Ui (Ul #[])/\ w.grownBy w' (Uq x0.1)/\
   (Qc7 g1 g2 ->Qa0 w' 174 Qa9 Qbl x0.1 (c+1) (QbX f (s,k) (Uq x1)))/\ (¬Qc7 g1 g2 ->Bl w w'):=by
 obtain⟨W,g⟩:=zE (((w.alloc (Uj #[.map (Uq x0.1),.map (Uq x0.2)] 124)).alloc (Uj #[Um s,Ud k] 174)).alloc (Uj #[.map (Uq x1.1),.map (Uq x1.2)] 124));have j:Bl w W:=g▸((zO _ _).alloc oP _).alloc oS _;have Q:Bx2 W w.heap.size (.map (Uq x0.1)) (.map (Uq x0.2)):=by
  rw [<- g];exact((Bx2.made w (.map (Uq x0.1)) (.map (Uq x0.2)) 124).allocs _).allocs _
 have U:Bx2 W (w.heap.size+1) (Um s) (Ud k):=by
  rw [<- g];have:=Bx2.made (w.alloc (Uj #[.map (Uq x0.1),.map (Uq x0.2)] 124)) (Um s) (Ud k) 174;exact(by simpa using this:Bx2 _ (w.heap.size+1) _ _).allocs _
 have V:Bx2 W (w.heap.size+1+1) (.map (Uq x1.1)) (.map (Uq x1.2)):=by
  rw [<- g];simpa using Bx2.made ((w.alloc (Uj #[.map (Uq x0.1),.map (Uq x0.2)] 124)).alloc (Uj #[Um s,Ud k] 174)) (.map (Uq x1.1)) (.map (Uq x1.2)) 124
 obtain⟨t,J,K,Y⟩:=(Qa0.same h1 (j.block _ h1.lt)).len Qa1 underlying121;obtain⟨o,L,N,Z⟩:=(Qa0.same h2 (j.block _ h2.lt)).len Qau underlying122;have p:=hid (Qa0.same hF (j.block _ hF.lt));have z:=hid (And.intro Y Z);have A:Hid (w.grownBy W (Uq x0.1)):=hid ⟨j.os,j.tape,j.output,j.size,fun k hk _=>j.block k hk⟩;have G:=hid j;have b:Hid (c<maxLen):=hid oL;have E:=hid hk;have C:=Q.c0;obtain⟨D,F⟩:=U.q2;obtain⟨P,R⟩:=V.q2;have X:(0:Int)<=(t:Int):=UI _;have B:(0:Int)<=(o:Int):=UI _;have O:∀m,Qa0 m 174 Qa9 Qbl x0.1 (c+1) (QbX f (s,k) (Uq x1)) ->W.grownBy m (Uq x0.1) ->Qc7 g1 g2 ->w.grownBy m (Uq x0.1)/\
   (Qc7 g1 g2 ->Qa0 m 174 Qa9 Qbl x0.1 (c+1) (QbX f (s,k) (Uq x1)))/\ (¬Qc7 g1 g2 ->Bl w m):=fun m h9 g9 hh=>⟨A.trans g9,fun _=>h9,fun hn=>absurd hh hn⟩
 have M:=hid O;clear j Q U V hF h1 h2 hc hk Y Z O;by_cases q:0<t
 ·have H:decide (0<t)=true:=oU q;have r:Hid (Qc7 g1 g2):=hid (Or.inl (z.1.1 q));clear q;go_enter func217,ntmps217;go_wp2_with (refine Qax _ rfl _ _ _ 121 rfl 174 124 Qa1 Qa9 (fun _ _=>Qb7) underlying121 Qbl x0.1 c f rfl p b (s,k) x1 kl rfl rfl E ?_;intro m y v);have i:=hid (M m y v r);clear y v;go_end0;exact⟨rfl,i⟩
 ·obtain rfl:t=0:=oM;by_cases u:0<o
  ·have I:decide (0<o)=true:=oU u;have r:Hid (Qc7 g1 g2):=hid (Or.inr (z.2.1 u));clear q u;go_enter func217,ntmps217;go_wp2_with (refine Qax _ rfl _ _ _ 121 rfl 174 124 Qa1 Qa9 (fun _ _=>Qb7) underlying121 Qbl x0.1 c f rfl p b (s,k) x1 kl rfl rfl E ?_;intro m y v);have i:=hid (M m y v r);clear y v;go_end0;exact⟨rfl,i⟩
  ·obtain rfl:o=0:=oM;have r:Hid (¬Qc7 g1 g2):=hid (fun h=>Or.elim h (fun h=>q (z.1.2 h)) (fun h=>u (z.2.2 h)));clear q u;go_enter func217,ntmps217;go_wp2_with fail;go_end0;exact⟨rfl,A,fun h=>absurd h r,fun _=>G.out⟩
theorem Qgn {w:Ur}{a:Us}(hg:w.grownBy w' row)(hlt:a.block<w.heap.size)(hne:Uq a.block≠row):w'.frozen? a=w.frozen? a:=by
 unfold VQ;rw [hg.block a.block hlt hne]
theorem Bx3.gr {w:Ur}(h:Bx3 w b v0 v1 v2)(hg:w.grownBy w' row)(hr:∀k,row=Uq k ->k≠b):Bx3 w' b v0 v1 v2:=
 have j:Uq b≠row:=fun e=>hr b e.symm rfl
 ⟨hg.cell h.c0 j,hg.cell h.c1 j,hg.cell h.c2 j,fun i=>(Qgn hg h.lt j).trans (h.f i),Ut h.lt hg.size⟩
theorem Bx2.gr {w:Ur}(h:Bx2 w b v0 v1)(hg:w.grownBy w' row)(hr:∀k,row=Uq k ->k≠b):Bx2 w' b v0 v1:=
 have j:Uq b≠row:=fun e=>hr b e.symm rfl
 ⟨hg.cell h.c0 j,hg.cell h.c1 j,fun i=>(Qgn hg h.lt j).trans (h.f i),Ut h.lt hg.size⟩
theorem QbJ {w:Ur}(b:Bl w w')(row:Option Nat):w.grownBy w' row:=⟨b.os,b.tape,b.output,b.size,fun k hk _=>b.block k hk⟩
structure JB (w:Ur)(s t:Nat)(a0 a1 a2 b0 b1 b2:Option Nat)(x0:Nat×Nat):Prop where
 a:Bx3 w s (.map a0) (.map a1) (.map a2)
 b:Bx3 w (s+1) (.map b0) (.map b1) (.map b2)
 r:Bx2 w (s+1+1) (.map Up) (.map Up)
 j:Bx2 w t (.map (Uq x0.1)) (.map (Uq x0.2))
section
variable {w w' : Ur} {s t : Nat} {a0 a1 a2 b0 b1 b2 : Option Nat} {x0 : Nat × Nat}
theorem JB.gr {row:Option Nat}(h:JB w s t a0 a1 a2 b0 b1 b2 x0)(hg:w.grownBy w' row)(hr:∀k,row=Uq k ->k≠s/\ k≠s+1/\ k≠s+1+1/\ k≠t):JB w' s t a0 a1 a2 b0 b1 b2 x0:=
 ⟨h.a.gr hg (fun k e=>(hr k e).1),h.b.gr hg (fun k e=>(hr k e).2.1),h.r.gr hg (fun k e=>(hr k e).2.2.1),h.j.gr hg (fun k e=>(hr k e).2.2.2)⟩
theorem JB.bw (h:JB w s t a0 a1 a2 b0 b1 b2 x0)(hb:Bl w w'):JB w' s t a0 a1 a2 b0 b1 b2 x0:=h.gr (QbJ hb Up) (fun k e=>by cases e)
end
section
variable {w w' : Ur} {B c : Nat} {N : List Ky -> Option (Nat × Nat)} {M : List Ky -> Dt -> Option ByteArray}
theorem Tre.lower {B':Nat}(h:Tre w B N M c)(hB:B'<=B):Tre w B' N M c:=⟨h.kids,h.marks,h.apart,fun p x hx=>by have:=h.lo p x hx;omega,h.none',h.up⟩
theorem Tre.mo_marks (h:Tre w B N M c)(z:List Ky):MO w 83 dtV Qb8 (mS (N z)) c (M z):=by
 cases e:N z with
 | none=>exact fun x=>by rw [h.none' z e]
 | some x=>exact h.marks z x e
theorem Tre.mo_kids (h:Tre w B N M c)(z:List Ky):MO w 174 Qa9 Qbl (mF (N z)) c (fun y=>N (z++[y])):=by
 cases e:N z with
 | none=>exact fun x=>h.up z x e
 | some x=>exact h.kids z x e
end
section
variable {w w' : Ur} {B c : Nat} {J : List Lf} {z : List Ky} {K : Ky -> Prop} {N N1 : List Ky -> Option (Nat × Nat)} {x0 x1 : Nat × Nat}
theorem JT.congr {K':Ky ->Prop}(h:JT w B J z K N c x0)(hK:∀u,K u↔K' u):JT w B J z K' N c x0:=by
 have:K=K':=funext fun u=>propext (hK u);rw [<- this];exact h
theorem JT.mono {c':Nat}(h:JT w B J z K N c x0)(hc:c<=c'):JT w B J z K N c' x0:=⟨h.tre.mono hc,h.root,h.there⟩
theorem JT.bw (h:JT w B J z K N c x0)(hb:Bl w w'):JT w' B J z K N c x0:=⟨h.tre.bw hb,h.root,h.there⟩
theorem JT.kept' {r:Nat}(h:JT w B J z K N c x0)(hg:w.grownBy w' (Uq r))(hr:∀k j,w.heap[r]? ≠Uq (.map k j)):JT w' B J z K N c x0:=
 ⟨h.tre.same fun p x hx=>⟨hg.block _ (h.tre.lt hx).1 (fun e=>by obtain⟨k,j,m⟩:=(h.tre.kids p x hx).obj;injection e with e;rw [e] at m;exact hr k j m),hg.block _ (h.tre.lt hx).2 (fun e=>by obtain⟨k,j,m⟩:=(h.tre.marks p x hx).obj;injection e with e;rw [e] at m;exact hr k j m)⟩,h.root,h.there⟩
theorem JT.round {w8 w9 w10:Ur}{y:Ky}(h:JT w8 B J z K N c x0)(b9:Bl w8 w9)(h1:JF w9 w8.heap.size J (z++[y]) N1 c x1)(hB:B<=w8.heap.size)(hy:¬K y)(hg:w9.grownBy w10 (Uq x0.1))
  (hm:Qc7 (fun u=>N1 [u]) (Mk J J.length (z++[y])) ->Qa0 w10 174 Qa9 Qbl x0.1 (c+1) (QbX (fun u=>N [u]) y (Uq x1))) (hn:¬Qc7 (fun u=>N1 [u]) (Mk J J.length (z++[y])) ->Bl w9 w10):
  ∃N',JT w10 B J z (fun u=>K u \/u=y) N' (c+1) x0:=by
 by_cases e:Qc7 (fun u=>N1 [u]) (Mk J J.length (z++[y]))
 ·refine⟨_,(h.bw b9).hang ⟨h1.tre.lower hB,h1.root,h1.there⟩ hy (h1.bears.2 e) (fun p q a b ha hb=> ?_) hg ((hm e).ext fun u=> ?_)⟩
  ·have j:=h.tre.lt ha;have k:=h1.tre.lo q b hb;omega
  ·unfold QbX;by_cases e:u=y<;>simp [e]
 ·exact⟨N,((h.bw b9).skip hy (fun ha=>e (h1.bears.1 ha))).bw (hn e)|>.mono (Uz _)⟩
end
theorem JB.sees {w:Ur}{s t u:Nat}{a0 a1 a2 b0 b1 b2:Option Nat}{ks:ByteArray}{kk:Int}(h:JB w s t a0 a1 a2 b0 b1 b2 x0)(hk:Bx2 w u (Um ks) (Ud kk)):
  w.cell? (Ub t)=Uq (.map (Uq x0.1))/\ w.cell? (Ua t 1)=Uq (.map (Uq x0.2))/\ w.cell? (Ub u)=Uq (Um ks)/\ w.cell? (Ua u 1)=Uq (Ud kk)/\ w.cell? (Ub s)=Uq (.map a0)/\ w.cell? (Ua s 1)=Uq (.map a1)/\ w.cell? (Ua s 2)=Uq (.map a2)/\ w.cell? (Ua (s+1) 0)=Uq (.map b0)/\ w.cell? (Ua (s+1) 1)=Uq (.map b1)/\ w.cell? (Ua (s+1) 2)=Uq (.map b2):=
 ⟨h.j.c0,h.j.c1,hk.c0,hk.c1,h.a.c0,h.a.c1,h.a.c2,h.b.c0,h.b.c1,h.b.c2⟩
theorem Qoz(h:k<l.length):l.take (k+1)=l.take k++[gL l k]:=by
 rw [Vl];simp [gL,UA,h]
noncomputable def stM (M:List Ky ->Dt ->Option ByteArray)(z:Lf):List Ky ->Dt ->Option ByteArray:=Qkq M (Way z) (z.r,z.q) z.v
theorem QiF (l:List Lf):∀k,k<=l.length ->Mk l k=(l.take k).foldl stM (fun _ _=>Up)
 | 0,_=>by simp [Mk]
 | k+1,h=>by
  rw [Qoz oM,Yf,<- QiF l k oM];rfl
theorem QeA (l:List Lf):Mk l l.length=l.foldl stM (fun _ _=>Up):=by
 rw [QiF l _ zL,Vn]
theorem QdG {q:List Ky}:∀(m:List Lf) (M:List Ky ->Dt ->Option ByteArray),(∀z∈m,Way z≠q) ->(m.foldl stM M) q=M q
 | [],M,_=>rfl
 | z::m,M,h=>by
  rw [Vf,QdG m _ (fun y hy=>h y (Ve _ hy))];exact Qbf _ _ _ (Ne.symm (h z (Vc ..)))
theorem Qpr {q:List Ky}:∀(m:List Lf) (M M':List Ky ->Dt ->Option ByteArray),M q=M' q ->(m.foldl stM M) q=(m.foldl stM M') q
 | [],M,M',h=>h
 | z::m,M,M',h=>by
  rw [Vf,Vf];refine Qpr m _ _ ?_;unfold stM;by_cases e:q=Way z
  ·subst e;rw [QbH,QbH,h]
  ·rw [Qbf _ _ _ e,Qbf _ _ _ e,h]
theorem QjX {q:List Ky}:∀(m:List Lf) (M:List Ky ->Dt ->Option ByteArray),(∀z∈m,Way z=q) ->(m.foldl stM M) q=m.foldl (fun g z=>QbX g (z.r,z.q) (Uq z.v)) (M q)
 | [],M,_=>rfl
 | z::m,M,h=>by
  rw [Vf,Vf,QjX m _ (fun y hy=>h y (Ve _ hy))];have e:=h z (Vc ..);congr 1;unfold stM;rw [e,QbH]
theorem Qh1(h:∀z∈m,Way z≠q):Mk (l++m) (l++m).length q=Mk l l.length q:=by
 rw [QeA,QeA,Yf,QdG m _ h]
theorem Qkt(h:∀z∈l,Way z≠q):Mk (l++m) (l++m).length q=Mk m m.length q:=by
 rw [QeA,QeA,Yf];exact Qpr m _ _ (QdG l _ h)
theorem QnC(h:∀z∈l,Way z=q):Mk l l.length q=lsM l:=by
 rw [QeA,QjX l _ h];rfl
theorem Qmp(h:∀z∈l,Way z≠q):Mk l l.length q=fun _=>Up:=by
 rw [QeA,QdG l _ h]
theorem Qfc (p:List ByteArray)(s:ByteArray)(k:Int):Qac (p++[s]) k=Qac p 3++[(s,k)]:=by
 unfold Qac;rw [UB,Vx,Vj,UC];congr 1
 ·refine Vy fun i hi=> ?_;have hi:=List.mem_range.1 hi;rw [if_pos oM];have e:gS (p++[s]) i=gS p i:=by simp [gS,UA,Yg hi]
  rw [e];by_cases h:i+1<p.length
  ·rw [if_pos h]
  ·rw [if_neg h]
 ·simp [gS,UA]
theorem JF.leaves {w:Ur}{s s':Nat}(hz:∀x∈l,Way x=z)(hss:s≠s')(h1:B<=s)(h2:B<=s')(m1:Qa0 w 174 (α:=Ky) Qa9 Qbl s 0 (fun _=>Up))(m2:Qa0 w 83 (α:=Dt) dtV Qb8 s' l.length (lsM l)):
  JF w B l z (fun r=>if r=[] then Uq (s,s') else Up) l.length (s,s'):=by
 have u:∀y r,∀x∈l,Way x≠z++y::r:=fun y r x j e=>by
  have:=congrArg Yd ((hz x j).symm.trans e);simp at this
 have k:∀p x,(fun r:List Ky=>if r=[] then Uq (s,s') else Up) p=Uq x ->p=[]/\ x=(s,s'):=fun p x h=>by
  by_cases e:p=[]
  ·simp [e] at h;exact⟨e,h.symm⟩
  ·simp [e] at h
 refine⟨⟨fun p x j=> ?_,fun p x j=> ?_,fun p q x y j hy=> ?_,fun p x j=> ?_,fun p m=> ?_,fun p y m=> ?_⟩,oP,fun y r=> ?_⟩
 ·obtain⟨rfl,rfl⟩:=k p x j;exact(m1.mono (Ux _)).ext (fun y=>oP)
 ·obtain⟨rfl,rfl⟩:=k p x j;rw [VW,QnC hz];exact m2
 ·obtain⟨rfl,rfl⟩:=k p x j;obtain⟨rfl,rfl⟩:=k q y hy;exact⟨hss,fun _=>rfl,fun _=>rfl⟩
 ·obtain⟨rfl,rfl⟩:=k p x j;exact⟨h1,h2⟩
 ·cases p with
  | nil=>simp at m
  | cons y r=>exact Qmp (u y r)
 ·simp
 ·constructor
  ·intro h;simp at h
  ·rintro⟨x,j,m⟩;rw [hz x j] at m;have:=m.length_le;simp at this;omega
theorem JF.more {w:Ur}{N:List Ky ->Option (Nat×Nat)}(h:JF w B J' z N c x0)(hn:∀x∈J,¬z <+:Way x):JF w B (J++J') z N c x0:=by
 have e:(fun r=>Mk (J++J') (J++J').length (z++r))=fun r=>Mk J' J'.length (z++r):=by
  funext r;exact Qkt (fun x j e=>hn x j (by rw [e];exact Yb _ _))
 refine⟨by rw [e];exact h.tre,h.root,fun y r=>(h.there y r).trans ?_⟩;constructor
 ·rintro⟨x,j,k⟩;exact⟨x,List.mem_append.2 (.inr j),k⟩
 ·rintro⟨x,j,k⟩;rcases List.mem_append.1 j with j|j
  ·exact absurd ((Yb z (y::r)).trans k) (hn x j)
  ·exact⟨x,j,k⟩
theorem JT.more {w:Ur}{K:Ky ->Prop}{N:List Ky ->Option (Nat×Nat)}(h:JT w B J z K N c x0)(h0:∀x∈J',Way x≠z)(hn:∀x∈J',∀y,K y ->¬(z++[y]) <+:Way x):JT w B (J++J') z K N c x0:=by
 have u:∀y r,z++y::r=(z++[y])++r:=fun y r=>oP;have e:mJ (J++J') z K=mJ J z K:=by
  funext r;cases r with
  | nil=>exact Qh1 h0
  | cons y r=>
   simp only [mJ];by_cases k:K y
   ·rw [if_pos (Qaj k),if_pos (Qaj k)];exact Qh1 (fun x j e=>hn x j y k (by rw [e,u y r];exact Yb _ _))
   ·rw [if_neg (by rw [Qag k];simp),if_neg (by rw [Qag k];simp)]
 refine⟨by rw [e];exact h.tre,h.root,fun y r=>(h.there y r).trans ?_⟩;constructor
 ·rintro⟨m,x,j,q⟩;exact⟨m,x,List.mem_append.2 (.inl j),q⟩
 ·rintro⟨m,x,j,q⟩;rcases List.mem_append.1 j with j|j
  ·exact⟨m,x,j,q⟩
  ·exact absurd ((by rw [u y r];exact Yb _ _:(z++[y]) <+:z++y::r).trans q) (hn x j y m)
section
variable {w w' : Ur} {B B' c c' tb ub : Nat} {N : List Ky -> Option (Nat × Nat)} {M : List Ky -> Dt -> Option ByteArray} {J : List Lf} {z : List Ky} {K : Ky -> Prop} {x0 : Nat × Nat}
theorem Tre.g2 (h:Tre w B N M c)(g:G2 tb ub w w')(h1:tb<B)(h2:ub<B):Tre w' B N M c:=h.same fun p x hx=>by
 have l:=h.lo p x hx;have k:=h.lt hx;exact⟨g.block _ k.1 oM oM,g.block _ k.2 oM oM⟩
theorem Tre.box (h:Tre w B N M c){b i:Nat}{v:Value}(hc:w.cell? (Ua b i)=Uq v)(g:w.grownBy w' (Uq b)):Tre w' B N M c:=h.same fun p x hx=>by
 refine⟨g.block _ (h.lt hx).1 fun e=> ?_,g.block _ (h.lt hx).2 fun e=> ?_⟩
 ·injection e with e;obtain⟨m,k,j⟩:=(h.kids p x hx).obj;rw [e] at j;exact Qcq hc _ _ j
 ·injection e with e;obtain⟨m,k,j⟩:=(h.marks p x hx).obj;rw [e] at j;exact Qcq hc _ _ j
theorem JF.lower (h:JF w B J z N c x0)(hb:B'<=B):JF w B' J z N c x0:=⟨h.tre.lower hb,h.root,h.there⟩
theorem JF.box (h:JF w B J z N c x0){b i:Nat}{v:Value}(hc:w.cell? (Ua b i)=Uq v)(g:w.grownBy w' (Uq b)):JF w' B J z N c x0:=⟨h.tre.box hc g,h.root,h.there⟩
theorem JF.bw (h:JF w B J z N c x0)(hb:Bl w w'):JF w' B J z N c x0:=⟨h.tre.bw hb,h.root,h.there⟩
theorem JT.box (h:JT w B J z K N c x0){b i:Nat}{v:Value}(hc:w.cell? (Ua b i)=Uq v)(g:w.grownBy w' (Uq b)):JT w' B J z K N c x0:=⟨h.tre.box hc g,h.root,h.there⟩
theorem JT.g2 (h:JT w B J z K N c x0)(g:G2 tb ub w w')(h1:tb<B)(h2:ub<B):JT w' B J z K N c x0:=⟨h.tre.g2 g h1 h2,h.root,h.there⟩
theorem JT.new (z:List Ky)(hk:Qa0 w 174 (α:=Ky) Qa9 Qbl x0.1 0 (fun _=>Up))(hm:Qa0 w 83 (α:=Dt) dtV Qb8 x0.2 0 (fun _=>Up))(hne:x0.1≠x0.2)(hB:B<=x0.1/\ B<=x0.2):JT w B [] z (fun _=>False) (fun r=>if r=[] then Uq x0 else Up) 0 x0:=by
 have e:mJ [] z (fun _=>False)=fun _ _=>Up:=by
  funext r;cases r with
  | nil=>rfl
  | cons y r=>simp only [mJ];rw [if_neg (by rw [Qag (fun h=>h)];simp)]
 refine⟨by rw [e];exact Tre.new hk hm hne hB,oP,fun y r=> ?_⟩;simp
theorem Qhi {u v:Ky}{q:List Ky}(h1:z++[u] <+:q)(h2:z++[v] <+:q):u=v:=by
 have e:=List.IsPrefix.eq_of_length (List.prefix_of_prefix_length_le h1 h2 oP) oP;simpa using e
end
structure TL (w:Ur)(B:Nat)(l:List Lf)(z:List Ky)(before:Ky)(D k:Nat)(x0:Nat×Nat):Prop where
 ex:∃(K:Ky ->Prop) (N:List Ky ->Option (Nat×Nat)) (c:Nat),JT w B l z K N c x0/\ (∀u,K u ->QcR u before<=0)/\ (∀x∈l,∃v,K v/\ (z++[v]) <+:Way x)/\ c<=D*l.length
 some':k<=l.length
section
variable {w w' v : Ur} {B D k tb ub : Nat} {J l : List Lf} {z : List Ky} {before y : Ky} {x0 : Nat × Nat}
theorem TL.new (z:List Ky)(before:Ky)(D:Nat)(hk:Qa0 w 174 (α:=Ky) Qa9 Qbl x0.1 0 (fun _=>Up))(hm:Qa0 w 83 (α:=Dt) dtV Qb8 x0.2 0 (fun _=>Up))(hne:x0.1≠x0.2)(hB:B<=x0.1/\ B<=x0.2):TL w B [] z before D 0 x0:=
 ⟨⟨_,_,0,JT.new z hk hm hne hB,fun _ h=>h.elim,fun x hx=>by simp at hx,Ux _⟩,Ux _⟩
theorem TL.box (h:TL w B l z before D k x0){b i:Nat}{v:Value}(hc:w.cell? (Ua b i)=Uq v)(g:w.grownBy w' (Uq b)):TL w' B l z before D k x0:=by
 obtain⟨⟨K,N,c,j,m⟩,q⟩:=h;exact⟨⟨K,N,c,j.box hc g,m⟩,q⟩
theorem TL.full (h:TL w B l z before D k x0):∃N c,JF w B l z N c x0/\ c<=D*l.length/\∀x∈l,z <+:Way x:=by
 obtain⟨⟨K,N,c,r,g,m,u⟩,_⟩:=h;refine⟨N,c,r.full fun y ⟨x,hx,hp⟩=> ?_,u,fun x hx=> ?_⟩
 ·obtain⟨v,q,j⟩:=m x hx;rw [Qhi hp j];exact q
 ·obtain⟨v,q,j⟩:=m x hx;exact(Yb _ _).trans j
theorem TL.hang {B1 cnt:Nat}{N1:List Ky ->Option (Nat×Nat)}{x1:Nat×Nat}(h:TL w B l z before (D+1) k x0)(g:G2 tb ub w v)(h1:tb<B)(h2:ub<B)(hj:JF v B1 J (z++[y]) N1 cnt x1)(hb1:w.heap.size<=B1)(hb:B<=w.heap.size)(hy:QcR before y<0)(hJ:∀x∈J,(z++[y]) <+:Way x)(hne:J≠[])(hc:cnt<=D*J.length):
  ∃(c:Nat) (F:Ky ->Option (Nat×Nat)),c<=(D+1)*(l++J).length/\ Qa0 v 174 Qa9 Qbl x0.1 c F/\∀w',v.grownBy w' (Uq x0.1) ->Qa0 w' 174 Qa9 Qbl x0.1 (c+1) (QbX F y (Uq x1)) ->TL w' B (l++J) z y (D+1) (k+1) x0:=by
 obtain⟨⟨K,N,c,A,i,E,I⟩,L⟩:=h;have Z:1<=J.length:=List.length_pos_iff.2 hne;have G:D*J.length+1<=(D+1)*J.length:=by rw [Nat.succ_mul];omega
 have H:(D+1)*(l++J).length=(D+1)*l.length+(D+1)*J.length:=by rw [UB,Nat.mul_add]
 have t:¬K y:=fun hk=>by
  have:=i y hk;have:=QaR.key.neg y before;have:=QaR.key.irr y;rcases VR (i y hk) with e|e
  ·have:=QaR.key.tr _ _ _ e hy;omega
  ·rw [(QaR.key.z _ _).1 e] at hy;rw [QaR.key.irr] at hy;omega
 have Q:=A.g2 g h1 h2;have s:JT v B (l++J) z K N (c+cnt) x0:=(Q.more (fun x j e=>by
  have:=(hJ x j).length_le;rw [e] at this;simp at this;omega) (fun x j u r hp=>by
  have e:=Qhi hp (hJ x j);rw [e] at r;exact t r)).mono (Nat.le_add_right _ _)
 have U:JF v B (l++J) (z++[y]) N1 (c+cnt) x1:=(((hj.lower (Uw hb hb1)).more (fun x j hp=>by
  obtain⟨u,r,o⟩:=E x j;rw [Qhi hp o] at t;exact t r)).mono (Nat.le_add_left _ _))
 refine⟨c+cnt,fun u=>N [u],oM,s.tre.kids [] x0 s.root,fun w' gw m=> ?_⟩;have M:ApN N N1:=fun p q a b ha hb'=>by
  have V:=A.tre.lt ha;have Y:=hj.tre.lo q b hb';exact⟨oM,oM,oM,oM⟩
 have O:=s.hang U t ⟨_,List.mem_append.2 (.inr (Yh hne)),hJ _ (Yh hne)⟩ M gw (m.ext fun u=>by
  by_cases e:u=y
  ·subst e;rw [Qaw,if_pos rfl]
  ·rw [Qam _ _ e,if_neg e])
 refine⟨⟨_,_,_,O,fun u r=> ?_,fun x j=> ?_,oM⟩,by rw [UB];omega⟩
 ·rcases r with r|rfl
  ·rcases VR (i u r) with e|e
   ·exact Int.le_of_lt (QaR.key.tr _ _ _ e hy)
   ·rw [(QaR.key.z _ _).1 e];exact Int.le_of_lt hy
  ·rw [QaR.key.irr];exact Int.le_refl _
 ·rcases List.mem_append.1 j with j|j
  ·obtain⟨u,r,o⟩:=E x j;exact⟨u,.inl r,o⟩
  ·exact⟨y,.inr rfl,hJ x j⟩
end
abbrev Gr3:=Ky×List Lf×List Int
def RD (K:Int ->Int ->Bool)(R:List ByteArray ->List Lf ->List Lf ->List Int ->Prop)(p:List ByteArray)(y:Ky)(acc B:List Lf)(U:List Int):Prop:=
 if y.2=3 then R (p++[y.1]) acc B U else(y.2=1 \/y.2=2)/\ B≠[]/\ B.length<=1000/\ OkB K y.2 (p++[y.1]) (0,0) acc B/\ U=mB B y.2
def RK (K:Int ->Int ->Bool)(R:List ByteArray ->List Lf ->List Lf ->List Int ->Prop)(p:List ByteArray):Ky ->List Lf ->List Gr3 ->Prop
 | _,_,[]=>True
 | before,acc,g::G=>(g.1.1.size≠0/\ g.1.1.size<=40/\ QcR before g.1<0)/\ RD K R p g.1 acc g.2.1 g.2.2/\ RK K R p g.1 (acc++g.2.1) G
def gB (g:Gr3):List Int:=Qae g.1.1++([g.1.2]++g.2.2)
def RT (K:Int ->Int ->Bool):Nat ->List ByteArray ->List Lf ->List Lf ->List Int ->Prop
 | 0,_,_,_,_=>False
 | d+1,p,acc,B,U=>∃G:List Gr3,B=G.flatMap (fun g=>g.2.1)/\ U=uvF 9 G.length++G.flatMap gB/\ G.length<=1000/\ (G=[] ->p.length=0)/\ (G≠[] ->p.length<8)/\ RK K (RT K d) p (ByteArray.empty,0) acc G
def NdP (E:Ev)(w:Ur)(acc J:List Lf)(x':Nat)(z:List Ky)(D:Nat)(e:Ending)(w':Ur):Prop:=∃(cnt:Nat) (N:List Ky ->Option (Nat×Nat)) (x0:Nat×Nat),e=Ui (Ul #[Uo #[.map (Uq x0.1),.map (Uq x0.2)],.nilIface])/\ Gv E w w'/\ TS E w' x' (acc++J)/\
 (∀y∈J,z <+:Way y)/\ (J≠[] \/z=[])/\ cnt<=D*J.length/\ (acc++J).length<=1000/\ JF w' w.heap.size J z N cnt x0
theorem NdP.box {E:Ev}{w W Z:Ur}(h:NdP E W acc J x' z D e w1)(g0:Gv E w W)(hb:w.heap.size<=b)(hhi:E.hi<=b)(hN:NB w1 b)(gz:w1.grownBy Z (Uq b)):NdP E w acc J x' z D e Z:=by
 obtain⟨j,N,x0,k,m,q,r,u,v,y,g⟩:=h;obtain⟨o,t⟩:=hN.c0;exact⟨j,N,x0,k,(g0.trans m).gr gz hb,q.gr gz hhi,r,u,v,y,(g.lower g0.size).box t gz⟩
theorem LvP.node {E:Ev}{w:Ur}(hk:kind=1 \/kind=2)(hD:1<=D)(hne:l≠[])(hw:∀z∈l,z.p=p++[s]/\ z.fl=decide (kind=2))(h:LvP E w acc l x' e w'):NdP E w acc l x' (Qac p 3++[(s,kind)]) D e w':=by
 obtain⟨A,M,q,r,u,v,g,t,o,i,b⟩:=h;have j:∀x∈l,Way x=Qac p 3++[(s,kind)]:=fun x hx=>by
  obtain⟨k,m⟩:=hw x hx;unfold Way;rw [k,m,Qfc];rcases hk with rfl|rfl<;>rfl
 exact⟨l.length,_,(A,M),q,r,u,fun y hy=>by rw [j y hy];exact Yc _,.inl hne,Nat.le_mul_of_pos_left _ hD,v,JF.leaves j g t o i b⟩
theorem OkB.way {K:Int ->Int ->Bool}{kind:Int}{p:List ByteArray}:∀{B:List Lf} {before:Dt} {acc:List Lf},OkB K kind p before acc B ->∀z∈B,z.p=p/\ z.fl=decide (kind=2)
 | [],_,_,_,z,j=>by cases j
 | y::B,_,_,⟨lg,_,_,_,h5⟩,z,j=>by
  rcases List.mem_cons.1 j with rfl|j
  ·exact⟨lg.p,lg.fl⟩
  ·exact OkB.way h5 z j
theorem NB.fill2 {v:Ur}(h:NB v b)(s s':Option Nat):
  ∃Z,Z=(v.setCell (Ub b) (.map s)).setCell (Ua b 1) (.map s')/\ Z.cell? (Ub b)=Uq (.map s)/\ Z.cell? (Ua b 1)=Uq (.map s')/\ v.grownBy Z (Uq b):=by
 obtain⟨r,m⟩:=h.c0;obtain⟨u,q⟩:=h.c1;refine⟨_,rfl,?_,?_,⟨rfl,rfl,rfl,by simp [UL],fun k hk hne=> ?_⟩⟩
 ·rw [UN _ _ _ _ oP];exact UM _ _ _ m
 ·exact UM _ _ _ (by rw [UN _ _ _ _ oP];exact q)
 ·have j:k≠b:=fun e=>hne (by rw [e]);exact(zH _ _ _ _ j).trans (zH _ _ _ _ j)
theorem QqH {w:Ur}{E:Ev}{U:List Int}{dep:Int}{R:List ByteArray ->List Lf ->List Lf ->List Int ->Prop}(hD:1<=D)(hT:TS E w x acc)(hhi:E.hi<=w.heap.size)(hl:acc.length<=1000)(hd:RD E.K R p (s,kind) acc J U)(hR:Rv E x U x')
  (hrec:kind=3 ->R (p++[s]) acc J U ->∀W,TS E W x acc ->E.hi<=W.heap.size ->Cl 132 #[Uk (Uc E.tb),Ud dep] W fun e w'=>NdP E W acc J x' (Qac p 3++[(s,kind)]) D e w'):
  Cl 157 #[Uk (Uc E.tb),Ud kind,Ud dep] w fun e w'=>NdP E w acc J x' (Qac p 3++[(s,kind)]) D e w':=by
 obtain⟨P,z⟩:=zE (NdP E w acc J x' (Qac p 3++[(s,kind)]) D);obtain⟨W,m⟩:=zE (w.alloc (Uj #[.map Up,.map Up] 124));have y:Bl w W:=m▸zO _ _;have T:W.heap.size=w.heap.size+1:=m▸oP;have o:NB W w.heap.size:=m▸NB.made _ _;have u:=hT.bw y;have A:=G2.bw (tb:=E.tb) (ub:=E.ub) y;obtain⟨Hb,Hc⟩:=hT.low;have t:Hid (∀e w1,NdP E W acc J x' (Qac p 3++[(s,kind)]) D e w1 ->∃x0:Nat×Nat,e=Ui (Ul #[Uo #[.map (Uq x0.1),.map (Uq x0.2)],.nilIface])/\ NB w1 w.heap.size/\∀Z,w1.grownBy Z (Uq w.heap.size) ->P e Z):=hid (fun e w1 h=>by
  have X:=h;obtain⟨Ha,N,x0,M,C,_⟩:=h;have j:=o.g2 C oM oM;exact⟨x0,M,j,fun Z gz=>z▸X.box A zL oM j gz⟩)
 have r:Hid ((kind=1 \/kind=2 ->Cl 189 #[Uk (Uc E.tb),Ud kind] W fun e w'=>NdP E W acc J x' (Qac p 3++[(s,kind)]) D e w')/\ (kind=3 ->Cl 132 #[Uk (Uc E.tb),Ud dep] W fun e w'=>NdP E W acc J x' (Qac p 3++[(s,kind)]) D e w')):=hid ⟨fun hk=>by
  unfold RD at hd;rw [if_neg (show¬(s,kind).2=3 by rcases hk with h|h<;>simp [h])] at hd;obtain⟨_,i,G,b,H⟩:=hd;exact(Qnk hk u oM hl i G b (H▸hR)).mono fun e w1 h=>h.node hk hD i (OkB.way b),fun k=>by
  unfold RD at hd;rw [if_pos (show (s,kind).2=3 from k)] at hd;exact hrec k hd W u oM⟩
 have B:kind=1 \/kind=2 \/kind=3:=by
  unfold RD at hd;by_cases k:(s,kind).2=3
  ·exact .inr (.inr k)
  ·rw [if_neg k] at hd;rcases hd.1 with h|h
   ·exact .inl h
   ·exact .inr (.inl h)
 rw [z];clear y T o u A z hd hR hT hrec;rcases B with rfl|rfl|rfl;all_goals
  have g:=hid (by first|exact r.1 (.inl rfl)|exact r.1 (.inr rfl)|exact r.2 rfl)
  clear r
  go_enter func157,ntmps157
  go_wp2_with fail
  try rw [m]
  clear m
  refine g.mono ?_
  intro e w1 h
  obtain⟨⟨O,Q⟩,rfl,j,q⟩:=t e w1 h
  have V:=hid j
  have Y:=hid q
  obtain⟨u0,k0⟩:=j.c0
  obtain⟨u1,M⟩:=j.c1
  have I:=j.f0
  clear h j q g t
  go_wp2_with fail
  obtain⟨Z,q,F,S,L⟩:=V.fill2 (Uq O) (Uq Q)
  rw [<- q]
  clear q
  exact bodyPost_ret (v:=Ul #[Uo #[.map (Uq O),.map (Uq Q)],.nilIface]) (by simp [results,results157,go_sem,F,S]) rfl (Y Z L)
theorem Qf2 {w:Ur}{cur:Array Value}{t:TypeId}{f:Nat×Nat}{u:Value}(h:w.heap[g]? =Uq (.cells cur t f)):(w.setCell (Ua g i) u).heap[g]? =Uq (.cells (cur.setIfInBounds i u) t f):=by
 simp [UL,Array.getElem?_modify,h]
def Wr (w:Ur)(g:Nat)(t:TypeId)(n:Nat)(C:Nat ->Value):Prop:=∃cur,w.heap[g]? =Uq (.cells cur t (0,0))/\ n<=cur.size/\∀i,i<n ->cur[i]? =Uq (C i)
theorem Wr.cell {w:Ur}{t:TypeId}{C:Nat ->Value}(h:Wr w g t n C)(hi:i<n):w.cell? (Ua g i)=Uq (C i):=by
 obtain⟨m,j,q,k⟩:=h;simp [World.cell?,j,k i hi]
theorem Wr.frozen {w:Ur}{t:TypeId}{C:Nat ->Value}(h:Wr w g t n C)(i:Nat):w.frozen? (Ua g i)=false:=by
 obtain⟨k,j,m,q⟩:=h;simp [VQ,j]
theorem Wr.set {w:Ur}{t:TypeId}{C:Nat ->Value}(h:Wr w g t n C)(i:Nat)(u:Value):Wr (w.setCell (Ua g i) u) g t n (fun j=>if j=i then u else C j):=by
 obtain⟨k,m,q,r⟩:=h;refine⟨_,Qf2 m,oU q,fun j hj=> ?_⟩;rw [Array.getElem?_setIfInBounds];by_cases e:i=j
 ·subst e;rw [if_pos rfl,if_pos oM];simp
 ·rw [if_neg e];show k[j]? =Uq (if j=i then u else C j);rw [if_neg (Ne.symm e)];exact r j hj
theorem Wr.same {w:Ur}{t:TypeId}{C:Nat ->Value}(h:Wr w g t n C)(e:w'.heap[g]? =w.heap[g]?):Wr w' g t n C:=by
 obtain⟨j,k,r⟩:=h;exact⟨j,e.trans k,r⟩
theorem Wr.lt {w:Ur}{t:TypeId}{C:Nat ->Value}(h:Wr w g t n C):g<w.heap.size:=by
 obtain⟨k,j,_⟩:=h;exact(Array.getElem?_eq_some_iff.1 j).1
open Go.Deep
structure Sx where
 l:List Lf
 n:Nat
 R:Nat ->Int
 F:Nat ->Int
 T:Nat ->Int
structure Sx.Sm (S:Sx):Prop where
 l1:S.l.length<=1048576
 p1:LBd S.l
 n1:S.n<=1048576
structure SAt (w:Ur)(a x:Option Us)(S:Sx):Prop where
 lf:Qe9 w a S.l
 rn:QaT w x S.n S.R S.F S.T
theorem SAt.bw {w:Ur}{x:Option Us}{S:Sx}(h:SAt w a x S)(hb:Bl w w'):SAt w' a x S:=⟨h.lf.bw hb,h.rn.bw hb⟩
structure SCt (w:Ur)(a x:Option Us)(S:Sx):Prop where
 lf:QbY w a S.l
 rn:QaT w x S.n S.R S.F S.T
theorem SCt.bw {w:Ur}{x:Option Us}{S:Sx}(h:SCt w a x S)(hb:Bl w w'):SCt w' a x S:=⟨h.lf.bw hb,h.rn.bw hb⟩
theorem Qap {w:Ur}{e size:Nat}(h:w.ownsRow B e size v n xs)(hk:∀g,v.ownBlock=Uq g ->w'.heap[g]? =w.heap[g]?):w'.ownsRow B e size v n xs:=by
 obtain⟨u,j⟩:=h;refine⟨u,?_⟩;rcases j with j|⟨g,cap,k,e,q,m,r⟩
 ·exact .inl j
 ·subst e;exact .inr ⟨g,cap,k,rfl,q,(hk g rfl).trans m,r⟩
theorem QaW {w:Ur}{C e size:Nat}(h:w.ownsRow B e size v n xs)(hc:C<=B):w.ownsRow C e size v n xs:=by
 obtain⟨q,j⟩:=h;refine⟨q,?_⟩;rcases j with j|⟨g,cap,k,e,m,r⟩
 ·exact .inl j
 ·exact .inr ⟨g,cap,k,e,Uw hc m,r⟩
theorem Bx5.new (w:Ur)(v0 v1 v2 v3 v4:Value)(t:TypeId):Bx5 (w.alloc (Uj #[v0,v1,v2,v3,v4] t)) w.heap.size v0 v1 v2 v3 v4:=
 ⟨oP,oP,oP,oP,oP,fun i=>oP,oP⟩
theorem Bx5.up {w:Ur}{v3 v4:Value}(h:Bx5 w b v0 v1 v2 v3 v4)(o:Obj):Bx5 (w.alloc o) b v0 v1 v2 v3 v4:=h.bw (zO w o) h.lt
theorem Qbg{o:Oper}{a:Act}{w:Ur}{K:Act ->Ur ->Prop}{Q:Exit ->Act ->Ur ->Prop}(s x:Operand)(t u:TypeId)(ho:o.op=.call {callee:=.builtin .append,args:=#[s,x],argTypes:=#[t,u]}){x':Value}(hr:(Builtin.append_ #[t,u] t' #[v,x']).run P w=.ok v' w')(hs:a.eval s=v)(hx:a.eval x=x')(ht:o.type=t')(h:K (a.put o.dst v') w'):Oper.wp P o a w K Q:=by
 subst ht;unfold Oper.wp execOp;simp only [ho,resolve,invoke,builtin,Sem.run_bind,Sem.run_pure,Result.andThen_ok,List.map_toArray,UD,Vr,hs,hx,hr];exact h
theorem Qab{ops:Array Oper}{rest:List Oper}{o:Oper}{a:Act}{w:Ur}{Q:Exit ->Act ->Ur ->Prop}(hgd:o.guard=Up)(s x:Operand)(t u:TypeId)(ho:o.op=.call {callee:=.builtin .append,args:=#[s,x],argTypes:=#[t,u]}){x':Value}(hr:(Builtin.append_ #[t,u] t' #[v,x']).run P w=.ok v' w')(hs:a.eval s=v)(hx:a.eval x=x')(ht:o.type=t')(h:wpList P ops Q rest (a.put o.dst v') w'):wpList P ops Q (o::rest) a w:=by
 refine wpList_plain hgd fun K hK=> ?_;exact Qbg s x t u ho hr hs hx ht (hK _ _ h)
theorem Qpt (B:Nat)(v:Value)(zs:List Int)(s:ByteArray)(w:Ur)(ho:Own w B v zs)(hB:B<=w.heap.size)(hl:zs.length<=10000000000)(hs:s.size<=1048576):
  ∃v' w',(Builtin.append_ #[22,9] 22 #[v,Um s]).run prog w=.ok v' w'/\ Own w' B v' (zs++Qa2 s)/\ Gr w w' v v':=by
 obtain⟨r,hi,u,q,y⟩:=info_parts Tryz.infoByte;have k:w.ownsRow B 5 1 v zs.length (zs.map (Value.int .u8)):=ho;obtain⟨v',w',m,o,i,O⟩:=Lib.run_append_own_string (P:=prog) w B 22 9 22 5 r underlying22 underlying9 hi u q y v zs.length _ k s oL oM hB;refine⟨v',w',m,?_,i,?_⟩
 ·unfold Own;simp only [UB,UC,Qas,QbP];exact o
 ·rcases k.2 with ⟨rfl,t⟩|⟨g,cap,z,rfl,h,A,U,Q,p,V⟩
  ·have E:w.ownsRow w.heap.size 5 1 Ue zs.length (zs.map (Value.int .u8)):=⟨k.1,.inl ⟨rfl,t⟩⟩;obtain⟨Y,Z,j,b,_,_⟩:=Lib.run_append_own_string (P:=prog) w w.heap.size 22 9 22 5 r underlying22 underlying9 hi u q y _ zs.length _ E s oL oM zL;rw [m] at j;injection j with e1 e2;subst e1;subst e2;rcases b.2 with ⟨rfl,_⟩|⟨g,cap,z,rfl,h,_⟩
   ·exact .inl rfl
   ·exact .inr ⟨g,rfl,h⟩
  ·by_cases M:zs.length+s.size<=cap
   ·have j:=Lib.run_append_room_string (P:=prog) w 22 9 22 5 r underlying22 underlying9 hi q g zs.length cap z A s M (by rw [p];omega);rw [m] at j;injection j with e1 e2;subst e1;exact .inl rfl
   ·have j:=Lib.run_append_grow_string (P:=prog) w 22 9 22 5 r (Ug .u8 0) underlying22 underlying9 hi u (Ub g) zs.length cap _ (by rw [q];simp) (k.cells (g:=g) rfl) s oM oM (by rw [y];exact growslice_fits oM oM);rw [m] at j;injection j with e1 e2;subst e1;exact .inr ⟨_,rfl,Uv _⟩
theorem QcP (B:Nat)(v:Value)(zs ns:List Int)(a:Us)(m c:Nat)(w:Ur)(ho:Own w B v zs)(hm:ns.length=m)(hn:∀i u,(ns.map (Value.int .u8))[i]? =Uq u ->w.cell? (a.add i)=Uq u)(hB:B<=w.heap.size)(hl:zs.length+m<=10000000000):
  ∃v' w',(Builtin.append_ #[22,22] 22 #[v,Uf (Uq a) m c]).run prog w=.ok v' w'/\ Own w' B v' (zs++ns)/\ Gr w w' v v':=by
 obtain⟨o,hi,h,g,t⟩:=info_parts Tryz.infoByte;have r:w.ownsRow B 5 1 v zs.length (zs.map (Value.int .u8)):=ho;obtain⟨v',w',y,j,k,b,q⟩:=run_append_own_at (P:=prog) w B 22 22 5 o (Ug .u8 0) 1 1 underlying22 hi h g t rfl oD v zs.length _ r a m c (ns.map (Value.int .u8)) (by simp [hm]) hn (fun u hu=>by obtain⟨z,_,rfl⟩:=List.mem_map.1 hu;rfl) oL oM hB;refine⟨v',w',y,?_,Gr.app k q⟩;unfold Own;rw [UB,UC,hm];exact j
structure LvB (l:List Lf):Prop where
 rep:∀i,i<l.length ->0<=(gL l i).r/\ (gL l i).r<8
 seq:∀i,i<l.length ->0<=(gL l i).q/\ (gL l i).q<=1000000000
 val:∀i,i<l.length ->(gL l i).v.size<=200
 len:l.length<=1000
 dis:Dis l l.length
theorem Qdv {w:Ur}{cap size:Nat}{e:TypeId}{C:Nat ->Value}(h:w.ownsRow B e size (Uf (Uc g) n cap) n ((UW (n*size)).map C)):Wr w g e (n*size) C:=by
 rcases h.2 with ⟨y,_⟩|⟨v,t,m,z,p,r,o,i,b,q⟩
 ·cases y
 ·have u:g=v:=by injection z with k _ _;exact congrArg Addr.block (Option.some.inj k)
  rw [<- u] at r;refine⟨m,r,?_,fun j hj=> ?_⟩
  ·have:=congrArg Yd q;simp at this;omega
  ·have k:(m.toList.take (n*size))[j]? =((UW (n*size)).map C)[j]? :=(by rw [q]);rw [List.getElem?_take_of_lt hj] at k;rw [<- Array.getElem?_toList,k];simp [Yi hj]
theorem Qfo (t e:TypeId)(i:TypeInfo)(z:Value)(size bytes:Nat)(ht:prog.underlying t=Uq (.slice e))(hi:prog.info? e=Uq i)(hz:i.zero=Uq z)(hsize:i.size=size)(hby:i.bytes=bytes)(hzs:z.cells.size=size)(hsz:0<size)(hb2:bytes<=64)(q g off m c:Nat)(C:Nat ->Value)(w:Ur)(B:Nat)(hm:m<=1048576)(ho:w.ownsRow B e size (Uf (Uc q) 0 0) 0 [])(hB:B<=w.heap.size)(hC:∀j,j<m*size ->w.cell? (Ua g (off+j))=Uq (C j))(h1:∀j,j<m*size ->(C j).oneCell'=true):
  ∃v cap w',(Builtin.append_ #[t,t] t #[Uf (Uc q) 0 0,Uf (Uq (Ua g off)) m c]).run prog w=.ok (Uf (Uc v) m cap) w'/\ w'.ownsRow B e size (Uf (Uc v) m cap) m ((UW (m*size)).map C)/\ w.grownBy w' (Uq q)/\ (v=q \/v=w.heap.size):=by
 obtain⟨v',w',E,b,s,A,y⟩:=run_append_own_at (P:=prog) w B t t e i z size bytes ht hi hz hsize hby hzs hsz (Uf (Uc q) 0 0) 0 [] ho (Ua g off) m c ((UW (m*size)).map C) oP (fun j u o=>by
  simp only [Yj,Ym] at o;obtain⟨q,k,rfl⟩:=o;have p:j<m*size:=by
   rcases Nat.lt_or_ge j (m*size) with h|h
   ·exact h
   ·rw [UX (oU h)] at k;cases k
  rw [Yi p] at k;have k:=Option.some.inj k;rw [<- k,Qca];exact hC j p) (fun u hu=>by
  obtain⟨j,o,rfl⟩:=List.mem_map.1 hu;exact h1 j (oU o)) oL (by
   have:m*bytes<=1048576*64:=Nat.mul_le_mul hm hb2;rw [VS];omega) hB
 rw [VS,VX] at b;rcases b.2 with ⟨M,_⟩|⟨v,cap,O,rfl,r⟩
 ·have:=A.1 M;exact absurd this.1 oP
 ·refine⟨v,cap,w',E,b,s,?_⟩;rcases y with y|y
  ·exact .inl (by simpa [Value.ownBlock] using y)
  ·exact .inr (by simpa [Value.ownBlock] using y)
def lCp (l:List Lf)(P Q:Nat ->Nat)(j:Nat):Value:=
 if j%5=0 then Uf (Uq ⟨P (j/5),0,Up⟩) (gL l (j/5)).p.length (Q (j/5)) else if j%5=1 then Un (gL l (j/5)).fl else if j%5=2 then Ud (gL l (j/5)).r else if j%5=3 then Ud (gL l (j/5)).q else Um (gL l (j/5)).v
theorem Qp4 (l:List Lf)(P Q:Nat ->Nat)(i:Nat):lCp l P Q (i*5)=Uf (Uq ⟨P i,0,Up⟩) (gL l i).p.length (Q i)/\ lCp l P Q (i*5+1)=Un (gL l i).fl/\ lCp l P Q (i*5+2)=Ud (gL l i).r/\ lCp l P Q (i*5+3)=Ud (gL l i).q/\ lCp l P Q (i*5+4)=Um (gL l i).v:=by
 unfold lCp;refine⟨?_,?_,?_,?_,?_⟩
 ·rw [if_pos oM,show i*5/5=i by omega]
 ·rw [if_neg oM,if_pos oM,show (i*5+1)/5=i by omega]
 ·rw [if_neg oM,if_neg oM,if_pos oM,show (i*5+2)/5=i by omega]
 ·rw [if_neg oM,if_neg oM,if_neg oM,if_pos oM,show (i*5+3)/5=i by omega]
 ·rw [if_neg oM,if_neg oM,if_neg oM,if_neg oM,show (i*5+4)/5=i by omega]
theorem QkP (l:List Lf)(P Q:Nat ->Nat)(k p q:Nat):(UW ((k+1)*5)).map (lCp l (fun i=>if i=k then p else P i) (fun i=>if i=k then q else Q i))=(UW (k*5)).map (lCp l P Q)++[Uf (Uc p) (gL l k).p.length q,Un (gL l k).fl,Ud (gL l k).r,Ud (gL l k).q,Um (gL l k).v]:=by
 rw [show (k+1)*5=k*5+1+1+1+1+1 by omega];simp only [Vj,UC,UD,Vr,Vg,Ya,VX];obtain⟨m,u,y,z,h⟩:=Qp4 l (fun i=>if i=k then p else P i) (fun i=>if i=k then q else Q i) k;rw [m,u,y,z,h];simp only [if_pos];congr 1;refine Vy fun j hj=> ?_;have t:j<k*5:=oU hj;unfold lCp;have g:j/5≠k:=oM;simp only [if_neg g]
theorem QcQ (w:Ur)(v0 v1 v2 v3 v4:Value)(t:TypeId):∀j u,[v0,v1,v2,v3,v4][j]? =Uq u ->(w.alloc (Uj #[v0,v1,v2,v3,v4] t)).cell? (((Ub w.heap.size):Us).add j)=Uq u:=by
 intro j u k;have m:=Bx5.new w v0 v1 v2 v3 v4 t;rw [Qca,VS];match j,k with
 | 0,k=>rw [m.c0];simpa using k
 | 1,k=>rw [m.c1];simpa using k
 | 2,k=>rw [m.c2];simpa using k
 | 3,k=>rw [m.c3];simpa using k
 | 4,k=>rw [m.c4];simpa using k
 | j+5,k=>simp at k
structure LC (w:Ur)(lo:Nat)(v:Value)(l:List Lf)(P Q:Nat ->Nat):Prop where
 row:w.ownsRow lo 85 5 v l.length ((UW (l.length*5)).map (lCp l P Q))
 pt:∀i,i<l.length ->lo<=P i/\ P i<w.heap.size/\ Uq (P i)≠v.ownBlock/\ Wr w (P i) 9 (gL l i).p.length (fun t=> Um (gS (gL l i).p t))/\ (gL l i).p.length<=Q i/\ Q i<=9223372036854775807
def Sep (P:Nat ->Nat)(n:Nat):Prop:=∀i j,i<n ->j<n ->i≠j ->P i≠P j
def LB (w:Ur)(lo:Nat)(v:Value)(l:List Lf):Prop:=∃P Q,LC w lo v l P Q/\ Sep P l.length
section
variable {w w' : Ur} {lo : Nat} {v : Value} {l : List Lf} {P Q : Nat -> Nat}
theorem LC.nil (w:Ur)(lo:Nat)(P Q:Nat ->Nat):LC w lo Ue [] P Q:=⟨⟨rfl,.inl ⟨rfl,rfl⟩⟩,fun i hi=>by simp at hi⟩
theorem LC.move (h:LC w lo v l P Q)(hz:w.heap.size<=w'.heap.size)(hs:∀q,lo<=q ->q<w.heap.size ->w'.heap[q]? =w.heap[q]?):LC w' lo v l P Q:=
 ⟨Qap h.row (fun g hg=>hs g (h.row.lt g hg).1 (h.row.lt g hg).2),fun i hi=>by
  obtain⟨j,k,r,m⟩:=h.pt i hi;exact⟨j,Ut k hz,r,m.1.same (hs _ j k),m.2⟩⟩
theorem LC.bw (h:LC w lo v l P Q)(hb:Bl w w'):LC w' lo v l P Q:=h.move hb.size (fun q _ h2=>hb.block q h2)
theorem LB.move (h:LB w lo v l)(hz:w.heap.size<=w'.heap.size)(hs:∀q,lo<=q ->q<w.heap.size ->w'.heap[q]? =w.heap[q]?):LB w' lo v l:=by
 obtain⟨P,Q,j,k⟩:=h;exact⟨P,Q,j.move hz hs,k⟩
theorem LB.bw (h:LB w lo v l)(hb:Bl w w'):LB w' lo v l:=h.move hb.size (fun q _ h2=>hb.block q h2)
theorem LB.lt (h:LB w lo v l):∀g,v.ownBlock=Uq g ->lo<=g/\ g<w.heap.size:=by
 obtain⟨P,Q,j,k⟩:=h;exact fun g hg=>j.row.lt g hg
theorem LB.nil (w:Ur)(lo:Nat):LB w lo Ue []:=⟨fun _=>0,fun _=>0,LC.nil w lo _ _,fun i j hi=>by simp at hi⟩
end
theorem LB.form {w:Ur}(h:LB w lo v l):∃a c,v=Uf a l.length c:=by
 obtain⟨P,Q,k,_⟩:=h;rcases k.row.2 with ⟨e,j⟩|⟨g,cap,m,e,_⟩
 ·exact⟨Up,0,by rw [e,j]⟩
 ·exact⟨_,cap,e⟩
theorem QeK (l:List Lf)(y:Lf)(hi:i<l.length):gL (l++[y]) i=gL l i:=by simp [gL,UA,Yg hi]
theorem QeJ (l:List Lf)(y:Lf):gL (l++[y]) l.length=y:=by simp [gL,UA]
theorem Qnh (l:List Lf)(y:Lf)(P Q:Nat ->Nat)(p q:Nat):(UW ((l.length+1)*5)).map (lCp (l++[y]) (fun i=>if i=l.length then p else P i) (fun i=>if i=l.length then q else Q i))=(UW (l.length*5)).map (lCp l P Q)++[Uf (Uc p) y.p.length q,Un y.fl,Ud y.r,Ud y.q,Um y.v]:=by
 rw [QkP,QeJ];congr 1;refine Vy fun j hj=> ?_;have k:j<l.length*5:=oU hj;unfold lCp;rw [QeK l y (show j/5<l.length by omega)]
theorem LC.app {w:Ur}{P Q:Nat ->Nat}(h:LC w lo v l P Q)(hb:Bl w w1)(hlo:lo<=w.heap.size)(hk:l.length<=1048576)(y:Lf)(p pc:Nat)(hp1:lo<=p)(hp2:p<w1.heap.size)(hp3:Uq p≠v.ownBlock)(hw:Wr w1 p 9 y.p.length (fun t=> Um (gS y.p t)))(hpc:y.p.length<=pc/\ pc<=9223372036854775807):
  ∃j k z,(Builtin.append_ #[23,23] 23 #[v,Uf (Uc w1.heap.size) 1 1]).run prog (w1.alloc (Uj #[Uf (Uc p) y.p.length pc,Un y.fl,Ud y.r,Ud y.q,Um y.v] 85))=.ok (Uf (Uc j) (l.length+1) k) z/\
   LC z lo (Uf (Uc j) (l.length+1) k) (l++[y]) (fun i=>if i=l.length then p else P i) (fun i=>if i=l.length then pc else Q i)/\ Gr w1 z v (Uf (Uc j) (l.length+1) k):=by
 obtain⟨F,hi,B,C,D⟩:=info_parts QcX;have X:=h.bw hb;have s:Bl w1 (w1.alloc (Uj #[Uf (Uc p) y.p.length pc,Un y.fl,Ud y.r,Ud y.q,Um y.v] 85)):=zO _ _;have M:=X.bw s;have K:=hw.same (s.block p hp2);have Z:=QcQ w1 (Uf (Uc p) y.p.length pc) (Un y.fl) (Ud y.r) (Ud y.q) (Um y.v) 85;obtain⟨o,V⟩:=zE (w1.alloc (Uj #[Uf (Uc p) y.p.length pc,Un y.fl,Ud y.r,Ud y.q,Um y.v] 85));rw [V] at M K Z s ⊢;have hz:o.heap.size=w1.heap.size+1:=V▸oP;have Ha:=hb.size;obtain⟨v',z,I,E,A,S,m⟩:=run_append_own_at (P:=prog) o lo 23 23 85 F _ 5 64 underlying23 hi B C D rfl oD v l.length _ M.row (Ub w1.heap.size) 1 1 [Uf (Uc p) y.p.length pc,Un y.fl,Ud y.r,Ud y.q,Um y.v] rfl Z (fun u hu=>by
  simp only [VZ,Yk,or_false] at hu;rcases hu with e|e|e|e|e<;>rw [e]<;>rfl) oL oM oM
 rcases E.2 with ⟨J,T⟩|⟨j,k,R,J,r⟩
 ·omega
 rw [J] at I E m;have H:Uq j=v.ownBlock \/j=o.heap.size:=by
  rcases m with m|m
  ·exact .inl (by simpa [Value.ownBlock] using m)
  ·exact .inr (by simpa [Value.ownBlock] using m)
 have W:=A.size;have N:Gr w1 z v (Uf (Uc j) (l.length+1) k):=by
  refine(Gr.of_below (b:=v) s).trans ⟨A,?_⟩;rcases H with e|e
  ·exact .inl e
  ·exact .inr ⟨j,rfl,oM⟩
 refine⟨j,k,z,I,⟨?_,fun i hi=> ?_⟩,N⟩
 ·rw [UB,Vx,Qnh];exact E
 ·have G:∀b,Uq b≠v.ownBlock ->b<o.heap.size ->Uq b≠(Value.slice (Uc j) (l.length+1) k).ownBlock:=fun b hb1 hb2 e=>by
   have e:b=j:=(by simpa [Value.ownBlock] using e);rcases H with g|g
   ·exact hb1 (by rw [e];exact g)
   ·omega
  by_cases e:i=l.length
  ·subst e;simp only [if_pos];rw [QeJ];exact⟨hp1,oM,G p hp3 oM,K.same (A.block p oM hp3),hpc⟩
  ·have Y:i<l.length:=(by simp at hi;omega);simp only [if_neg e];rw [QeK l y Y];obtain⟨L,g,O,U⟩:=M.pt i Y;exact⟨L,oM,G _ O g,U.1.same (A.block _ g O),U.2⟩
theorem Sep.app {P:Nat ->Nat}{p:Nat}(h:Sep P n)(hp:∀i,i<n ->P i≠p):Sep (fun i=>if i=n then p else P i) (n+1):=by
 intro i j hi q m;dsimp only;by_cases e:i=n
 ·rw [if_pos e,if_neg oM];exact fun k=>hp j oM k.symm
 ·rw [if_neg e];by_cases k:j=n
  ·rw [if_pos k];exact hp i oM
  ·rw [if_neg k];exact h i j oM oM m
theorem LB.app {w:Ur}(h:LB w lo v l)(hb:Bl w w1)(hlo:lo<=w.heap.size)(hk:l.length<=1048576)(y:Lf)(p pc:Nat)(hp1:w.heap.size<=p)(hp2:p<w1.heap.size)(hw:Wr w1 p 9 y.p.length (fun t=> Um (gS y.p t)))(hpc:y.p.length<=pc/\ pc<=9223372036854775807):
  ∃k j m,(Builtin.append_ #[23,23] 23 #[v,Uf (Uc w1.heap.size) 1 1]).run prog (w1.alloc (Uj #[Uf (Uc p) y.p.length pc,Un y.fl,Ud y.r,Ud y.q,Um y.v] 85))=.ok (Uf (Uc k) (l.length+1) j) m/\
   LB m lo (Uf (Uc k) (l.length+1) j) (l++[y])/\ Gr w1 m v (Uf (Uc k) (l.length+1) j):=by
 obtain⟨P,Q,u,b⟩:=h;obtain⟨k,j,m,z,g,o⟩:=u.app hb hlo hk y p pc oM hp2 (fun e=>oH ((u.row.lt p e.symm).2)) hw hpc;exact⟨k,j,m,z,⟨_,_,g,by rw [UB,Vx];exact b.app (fun i hi=>oH ((u.pt i hi).2.1))⟩,o⟩
def Qh2 (w:Ur)(vw:Value)(p:List ByteArray):Prop:=(vw=Ue/\ p=[]) \/∃g c,vw=Uf (Uc g) p.length c/\ g<w.heap.size/\∀t,t<p.length ->w.cell? (Ua g t)=Uq (Um (gS p t))
theorem Qh2.move {w:Ur}(h:Qh2 w vw p)(hz:w.heap.size<=w'.heap.size)(hs:∀g,vw.ownBlock=Uq g ->w'.heap[g]? =w.heap[g]?):Qh2 w' vw p:=by
 rcases h with h|⟨g,c,rfl,k,j⟩
 ·exact .inl h
 ·exact .inr ⟨g,c,rfl,oM,fun t ht=>(US (a:=(Ua g t)) (hs g rfl)).trans (j t ht)⟩
theorem Qh2.lt {w:Ur}(h:Qh2 w vw p):∀g,vw.ownBlock=Uq g ->g<w.heap.size:=by
 rcases h with ⟨rfl,_⟩|⟨g,c,rfl,k,m⟩
 ·intro g e;cases e
 ·intro j e;have e:g=j:=by simpa [Value.ownBlock] using e
  omega
theorem Qh2.bw {w:Ur}(h:Qh2 w vw p)(hb:Bl w w'):Qh2 w' vw p:=h.move hb.size (fun g hg=>hb.block g (h.lt g hg))
def Qck (p:List ByteArray):List Value:=(UW (p.length*1)).map fun t=> Um (gS p t)
theorem Qo3 (p:List ByteArray)(s:ByteArray)(hi:i<p.length):gS (p++[s]) i=gS p i:=by simp [gS,UA,Yg hi]
theorem Qo1 (p:List ByteArray)(s:ByteArray):gS (p++[s]) p.length=s:=by simp [gS,UA]
theorem QjO (p:List ByteArray)(s:ByteArray):Qck (p++[s])=Qck p++[Um s]:=by
 unfold Qck;rw [VT,VT,UB,Vx,Vj,UC,List.map_singleton,Qo1];congr 1;refine Vy fun j hj=> ?_;rw [Qo3 p s (oU hj)]
theorem Ql7 (g m c:Nat)(p:List ByteArray)(w:Ur)(hp:p.length=m)(hm:m<=1048576)(hg:g<w.heap.size)(h:∀t,t<m ->w.cell? (Ua g t)=Uq (Um (gS p t))):
  Cl 160 #[Uf (Uc g) m c] w fun e w'=>∃q cap,e=Ui (Uf (Uc q) m cap)/\ Bl w w'/\ w'.ownsRow w.heap.size 9 1 (Uf (Uc q) m cap) m (Qck p):=by
 obtain⟨M,hi,s,A,E⟩:=info_parts Qdn;have r:Bl w (w.alloc (Uj #[] 9)):=zO _ _;have y:(w.alloc (Uj #[] 9)).ownsRow w.heap.size 9 1 (Uf (Uc w.heap.size) 0 0) 0 []:=by
  have:=VF (base:=w.heap.size) (e:=9) (size:=1) w #[] 0 zL oL rfl;simpa using this
 obtain⟨q,cap,w',u,z,v,b⟩:=Qfo 74 9 M _ 1 16 underlying74 hi s A E rfl oD oM w.heap.size g 0 m c (fun t=> Um (gS p t)) (w.alloc (Uj #[] 9)) w.heap.size hm y oP (fun j hj=>by rw [VS];exact(r.cell (p:=(Ua g j)) hg).trans (h j oM)) (fun _ _=>rfl);have o:Hid (Bl w w'):=hid (r.grown v r.size (fun k e=>oI e));have i:Hid (w'.ownsRow w.heap.size 9 1 (Uf (Uc q) m cap) m (Qck p)):=hid (by unfold Qck;rw [hp];exact z);have O:∀w:Ur,(binOp .eql 74 (Uf (Uc g) m c) Ue).run prog w=.ok (Un false) w:=fun _=>rfl;clear z v b h y r;go_enter func160,ntmps160;go_wp2_with (at_builtin;refine Qab rfl _ _ _ _ rfl u (by rfl) (by rfl) rfl ?_;clear u);go_ret;exact⟨q,cap,rfl,o,i⟩
theorem QnR (w:Ur):Cl 160 #[Ue] w fun e w'=>e=Ui Ue/\ w'=w:=by
 have j:∀w:Ur,(binOp .eql 74 Ue Ue).run prog w=.ok (Un true) w:=fun _=>rfl;go_enter func160,ntmps160;go_wp2_with fail;go_ret;exact⟨rfl,rfl⟩
theorem QnS (vw:Value)(p:List ByteArray)(w:Ur)(hp:p.length<=1048576)(h:Qh2 w vw p):
  Cl 160 #[vw] w fun e w'=>∃v,e=Ui v/\ Bl w w'/\ w'.ownsRow w.heap.size 9 1 v p.length (Qck p):=by
 rcases h with ⟨rfl,rfl⟩|⟨g,c,rfl,j,k⟩
 ·refine(QnR w).mono ?_;rintro e w' ⟨rfl,rfl⟩;exact⟨_,rfl,zI,⟨rfl,.inl ⟨rfl,rfl⟩⟩⟩
 ·refine(Ql7 g p.length c p w rfl hp j k).mono ?_;rintro e w' ⟨q,cap,rfl,m,r⟩;exact⟨_,rfl,m,r⟩
theorem QjL {w:Ur}(h:w.ownsRow lo 9 1 v p.length (Qck p))(hlo:lo<=w.heap.size)(hp:p.length<=1048576)(s:ByteArray)(b:Nat)(hb:w.cell? (Ub b)=Uq (Um s)):
  ∃q cap k,(Builtin.append_ #[74,74] 74 #[v,Uf (Uc b) 1 1]).run prog w=.ok (Uf (Uc q) (p.length+1) cap) k/\ k.ownsRow lo 9 1 (Uf (Uc q) (p.length+1) cap) (p.length+1) (Qck (p++[s]))/\ w.grownBy k v.ownBlock/\ lo<=q/\ (v.ownBlock=Uq q \/q=w.heap.size):=by
 obtain⟨O,hi,A,E,M⟩:=info_parts Qdn;obtain⟨v',k,z,m,i,U,y⟩:=run_append_own_at (P:=prog) w lo 74 74 9 O _ 1 16 underlying74 hi A E M rfl oD v p.length _ h (Ub b) 1 1 [Um s] rfl (fun j u hj=>by
  match j,hj with
  | 0,hj=>simp at hj;rw [<- hj,Qca];exact hb
  | j+1,hj=>simp at hj) (fun u hu=>by
  simp only [VZ,Yk,or_false] at hu;rw [hu];rfl) oL oM oM
 rcases m.2 with ⟨g,V⟩|⟨t,o,Q,g,r⟩
 ·omega
 rw [g] at z m y;exact⟨t,o,k,z,by rw [QjO];exact m,i,(m.lt t rfl).1,y.imp (fun e=>e.symm) (fun e=>by simpa [Value.ownBlock] using e)⟩
theorem QjK {w:Ur}(h:w.ownsRow lo 9 1 v p.length (Qck p))(hlo:lo<=w.heap.size)(hp:p.length<=1048576)(s:ByteArray)(b:Nat)(hb:w.cell? (Ub b)=Uq (Um s)):
  ∃q cap j,(Builtin.append_ #[74,74] 74 #[v,Uf (Uc b) 1 1]).run prog w=.ok (Uf (Uc q) (p.length+1) cap) j/\ j.ownsRow lo 9 1 (Uf (Uc q) (p.length+1) cap) (p.length+1) (Qck (p++[s]))/\ w.grownBy j v.ownBlock/\ lo<=q:=by
 obtain⟨q,cap,j,k,m,r,u,_⟩:=QjL h hlo hp s b hb;exact⟨q,cap,j,k,m,r,u⟩
theorem Qdu {w:Ur}{q m cap:Nat}(h:w.ownsRow lo 9 1 (Uf (Uc q) m cap) m (Qck p))(hp:p.length=m):Qh2 w (Uf (Uc q) m cap) p/\ Wr w q 9 m (fun t=> Um (gS p t)):=by
 unfold Qck at h;rw [hp] at h;have j:=Qdv h;rw [VT] at j;exact⟨.inr ⟨q,cap,by rw [hp],j.lt,fun t ht=>j.cell oM⟩,j⟩
theorem Qj2 (a a':Option Us)(c c':Nat)(p p':List ByteArray)(fl fl':Bool)(r q r' q':Int)(v v':ByteArray)(w:Ur)(hc:p.length<=c)(hc':p'.length<=c')(E:c<=9223372036854775807)(hx':c'<=9223372036854775807)(h:QaP w a p)(h':QaP w a' p'):
  Cl 44 #[Uo #[Uf a p.length c,Un fl,Ud r,Ud q,Um v],Uo #[Uf a' p'.length c',Un fl',Ud r',Ud q',Um v']] w (Rt w (Un (yes ((⟨p,fl,r,q,v⟩:Lf)=⟨p',fl',r',q',v'⟩)))):=by
 obtain⟨W,j⟩:=zE ((w.alloc (Uj #[Uf a p.length c,Un fl,Ud r,Ud q,Um v] 85)).alloc (Uj #[Uf a' p'.length c',Un fl',Ud r',Ud q',Um v'] 85));have M:Bl w W:=j▸Qad _ _ _;have C:W.cell? (Ub w.heap.size)=Uq (Uf a p.length c):=j▸oP;have Z:W.cell? (Ua w.heap.size 1)=Uq (Un fl):=j▸oP;have G:W.cell? (Ua w.heap.size 2)=Uq (Ud r):=j▸oP;have H:W.cell? (Ua w.heap.size 3)=Uq (Ud q):=j▸oP;have I:W.cell? (Ua w.heap.size 4)=Uq (Um v):=j▸oP;have D:W.cell? (Ua (w.heap.size+1) 0)=Uq (Uf a' p'.length c'):=j▸oP;have J:W.cell? (Ua (w.heap.size+1) 1)=Uq (Un fl'):=j▸oP;have K:W.cell? (Ua (w.heap.size+1) 2)=Uq (Ud r'):=j▸oP;have L:W.cell? (Ua (w.heap.size+1) 3)=Uq (Ud q'):=j▸oP;have N:W.cell? (Ua (w.heap.size+1) 4)=Uq (Um v'):=j▸oP;have b:=hid M;have O:=hid (Qdj p p' a a' c c' W hc hc' E hx' (h.bw M) (h'.bw M));have g:Hid (yes ((⟨p,fl,r,q,v⟩:Lf)=⟨p',fl',r',q',v'⟩)=true↔QaC p p'=0/\ fl=fl'/\ r=r'/\ q=q'/\ v=v'):=hid (by
  rw [QdN];constructor
  ·intro e;have e:(⟨p,fl,r,q,v⟩:Lf)=⟨p',fl',r',q',v'⟩:=Classical.byContradiction fun hn=>by rw [Qag hn] at e;cases e
   injection e with Q t U e4 e5;exact⟨Q,t,U,e4,e5⟩
  ·rintro⟨rfl,rfl,rfl,rfl,rfl⟩;exact Qaj rfl)
 obtain⟨B,V⟩:=zE (yes ((⟨p,fl,r,q,v⟩:Lf)=⟨p',fl',r',q',v'⟩));obtain⟨x,E⟩:=zE (QaC p p');rw [V,E] at g;rw [E] at O;rw [V];clear M h h' V E;go_enter func44,ntmps44;go_wp2_with fail;try rw [j]
 clear j;refine O.mono ?_;rintro e w1 ⟨rfl,k,m⟩;have F:w1.cell? (Ua w.heap.size 1)=Uq (Un fl):=by rw [m];exact Z
 have P:w1.cell? (Ua w.heap.size 2)=Uq (Ud r):=by rw [m];exact G
 have R:w1.cell? (Ua w.heap.size 3)=Uq (Ud q):=by rw [m];exact H
 have S:w1.cell? (Ua w.heap.size 4)=Uq (Um v):=by rw [m];exact I
 have T:w1.cell? (Ua (w.heap.size+1) 1)=Uq (Un fl'):=by rw [m];exact J
 have Ha:w1.cell? (Ua (w.heap.size+1) 2)=Uq (Ud r'):=by rw [m];exact K
 have Hb:w1.cell? (Ua (w.heap.size+1) 3)=Uq (Ud q'):=by rw [m];exact L
 have Hc:w1.cell? (Ua (w.heap.size+1) 4)=Uq (Um v'):=by rw [m];exact N
 have A:Hid (Bl w w1):=hid (by rw [m];exact⟨b.os,b.tape,b.output,b.size,b.block⟩);clear m C Z G H I D J K L N O b;have z:¬(x=0/\ fl=fl'/\ r=r'/\ q=q'/\ v=v') ->Hid (B=false):=fun hn=>hid (by
  cases hb:B with
  | false=>rfl
  | true=>exact absurd (g.1 hb) hn)
 by_cases y:x=0
 ·have X:(x==0)=true:=by simp [y]
  by_cases o:fl=fl'
  ·have Q:(fl==fl')=true:=(by simp [o]);have Y:∀w:Ur,(binOp .eql 83 (Uo #[Ud r,Ud q]) (Uo #[Ud r',Ud q'])).run prog w=.ok (Un (r==r' && q==q')) w:=fun w=>QlD r q r' q' w;by_cases i:r=r'/\ q=q'
   ·have t:(r==r' && q==q')=true:=(by simp [i]);rw [t] at Y;by_cases s:v=v'
    ·have U:(v.toList==v'.toList)=true:=(by simp [s]);have u:Hid (B=true):=hid (g.2 ⟨y,o,i.1,i.2,s⟩);clear g z t y o i s;go_wp2_with fail;go_ret;exact⟨Qaz u.symm,A⟩
    ·have U:(v.toList==v'.toList)=false:=(by simpa using fun h=>s (toList_inj h));have u:=z (fun h=>s h.2.2.2.2);clear g z t y o i s;go_wp2_with fail;go_ret;exact⟨Qaz u.symm,A⟩
   ·have t:(r==r' && q==q')=false:=by
     cases hb:(r==r' && q==q') with
     | false=>rfl
     | true=>exact absurd (oU hb) i
    rw [t] at Y;have u:=z (fun h=>i ⟨h.2.2.1,h.2.2.2.1⟩);clear g z t y o i;go_wp2_with fail;go_ret;exact⟨Qaz u.symm,A⟩
  ·have Q:(fl==fl')=false:=oU o;have u:=z (fun h=>o h.2.1);clear g z y o;go_wp2_with fail;go_ret;exact⟨Qaz u.symm,A⟩
 ·have X:(x==0)=false:=oU y;have u:=z (fun h=>y h.1);clear g z y;go_wp2_with fail;go_ret;exact⟨Qaz u.symm,A⟩
theorem Qnb (a a':Option Us)(c c':Nat)(l:List Lf)(p':List ByteArray)(fl':Bool)(r' q':Int)(v':ByteArray)(w:Ur)(hl:l.length<=1048576)(hc':p'.length<=c')(hx':c'<=9223372036854775807)(h:QbY w a l)(h':QaP w a' p'):
  Cl 53 #[Uf a l.length c,Uo #[Uf a' p'.length c',Un fl',Ud r',Ud q',Um v']] w fun e w'=>(∃i:Int,e=Ui (Ud i)/\ (0<=i↔(⟨p',fl',r',q',v'⟩:Lf)∈l))/\ Bl w w':=by
 obtain⟨W,Q⟩:=zE (w.alloc (Uj #[Uf a' p'.length c',Un fl',Ud r',Ud q',Um v'] 85));have O:Bl w W:=Q▸zO _ _;have X0:Bx5 W w.heap.size (Uf a' p'.length c') (Un fl') (Ud r') (Ud q') (Um v'):=Q▸Bx5.new _ _ _ _ _ _ _;have HX:=hid X0;have P:=hid O;have HL:=hid (h.bw O);have HP:=hid (h'.bw O);have T:=hid (And.intro hc' hx');clear X0 O h h' hc' hx';go_enter func53,ntmps53;go_wp2_with fail;try rw [Q]
 clear Q;go_loopw [5] (fun i wr=>∃j:Nat,j<=l.length/\ i=Ud j/\ Hid (Bl W wr)/\ Hid (∀t,t<j ->gL l t≠⟨p',fl',r',q',v'⟩)) (fun i _=>l.length - (intOf i).toNat);case atStart=>exact⟨0,Ux _,rfl,hid zI,hid (fun t J=>oM)⟩
 case round=>
  obtain⟨j,hj,rfl,m,Y⟩:=hrel;by_cases I:j<l.length
  ·have i1:(0:Int)<=(j:Int):=UI _;have i2:(j:Int)<(l.length:Int):=oM;obtain⟨b,off,rfl,hb,Ha⟩:=(HL.bw m).resolve_left oM;obtain⟨pa,pc,⟨g,d0⟩,sg,s,A,E,M⟩:=Ha j I;have u:=hid (fun w1 (k:Bl wr w1)=>Qj2 pa a' pc c' (gL l j).p p' (gL l j).fl fl' (gL l j).r (gL l j).q r' q' (gL l j).v v' w1 d0.1 T.1 d0.2 T.2 (sg.bw k) ((HP.bw m).bw k));have Hc:Hid (gL l j=⟨(gL l j).p,(gL l j).fl,(gL l j).r,(gL l j).q,(gL l j).v⟩):=hid rfl;obtain⟨y,L⟩:=zE (gL l j);have HY:=hid L;rw [L] at g s A E M u;obtain⟨X,N,D,C,F⟩:=y;dsimp only at g s A E M u;obtain⟨B,H⟩:=zE (yes ((⟨X,N,D,C,F⟩:Lf)=⟨p',fl',r',q',v'⟩));have S:=hid H;rw [H] at u;have Z:=HX.bw m HX.lt;have U:Hid (∀w',Bl wr w' ->(w'.cell? (Ua b (off+j*5))=Uq (Uf pa X.length pc)/\ w'.cell? (Ua b (off+j*5+1))=Uq (Un N)/\ w'.cell? (Ua b (off+j*5+2))=Uq (Ud D)/\ w'.cell? (Ua b (off+j*5+3))=Uq (Ud C)/\ w'.cell? (Ua b (off+j*5+4))=Uq (Um F)/\ w'.cell? (Ub w.heap.size)=Uq (Uf a' p'.length c')/\ w'.cell? (Ua w.heap.size 1)=Uq (Un fl')/\ w'.cell? (Ua w.heap.size 2)=Uq (Ud r')/\ w'.cell? (Ua w.heap.size 3)=Uq (Ud q')/\ w'.cell? (Ua w.heap.size 4)=Uq (Um v'))):=hid (fun w' k=>by
    have q:=fun o=>k.cell (p:=(Ua b o)) hb;have z:=Z.bw k Z.lt;exact⟨(q _).trans g,(q _).trans s,(q _).trans A,(q _).trans E,(q _).trans M,z.c0,z.c1,z.c2,z.c3,z.c4⟩)
   clear L H Ha sg Z;go_wp2_with fail;refine zS U (fun qh=> ?_);clear g s A E M;refine tZ 0 12 ?_;refine tZ 1 13 ?_;refine tZ 2 14 ?_;refine tZ 3 15 ?_;refine tZ 4 16 ?_;refine cZ 5 ?_;intro K hK;go_simp;refine(u _ zI.drew).mono ?_;rintro e w1 ⟨rfl,k⟩;have G:Bl wr w1:=⟨k.os,k.tape,k.output,k.size,k.block⟩;refine hK.out _ _ (U _ G) (fun qh=> ?_);clear hK K;try simp only [zP]
   refine zD ?_;have R:=hid (m.trans (G.mono m.size));clear qh k G U u;cases B with
   | true=>
    have V:Hid ((⟨p',fl',r',q',v'⟩:Lf)∈l):=hid (by
     have e:(⟨X,N,D,C,F⟩:Lf)=⟨p',fl',r',q',v'⟩:=Classical.byContradiction fun hn=>by have:=S.out;rw [Qag hn] at this;cases this
     rw [<- e,<- HY.out];exact Qao.2 ⟨j,I,rfl⟩)
    go_wp2_with fail;go_ret;exact⟨⟨(j:Int),rfl,⟨fun _=>V.out,fun _=>i1⟩⟩,Qaa P R⟩
   | false=>
    have Hb:Hid (∀t,t<j+1 ->gL l t≠⟨p',fl',r',q',v'⟩):=hid (fun t J=>by
     by_cases e:t=j
     ·rw [e,HY.out];intro e2;have:=S.out;rw [Qaj e2] at this;cases this
     ·exact Y t oM)
    clear Y m;go_wp2_with fail;go_roundw;case rel=>exact⟨j+1,I,oN,R,Hb⟩
    case measure=>exact oE
  ·obtain rfl:j=l.length:=oM;have V:Hid (¬(⟨p',fl',r',q',v'⟩:Lf)∈l):=hid (fun hm=>by
    obtain⟨t,J,e⟩:=Qao.1 hm;exact Y t J e)
   go_wp2_with fail;go_ret;exact⟨⟨-1,rfl,⟨fun h=>oM,fun h=>absurd h V⟩⟩,Qaa P m⟩
theorem LC.cast {w:Ur}{P Q P' Q':Nat ->Nat}(h:LC w lo v l P Q)(e:∀i,i<l.length ->P' i=P i/\ Q' i=Q i):LC w lo v l P' Q':=by
 refine⟨?_,fun i hi=> ?_⟩
 ·have:(UW (l.length*5)).map (lCp l P' Q')=(UW (l.length*5)).map (lCp l P Q):=Vy fun j hj=>by
   have q:j<l.length*5:=oU hj;obtain⟨k,m⟩:=e (j/5) oM;unfold lCp;rw [k,m]
  rw [this];exact h.row
 ·obtain⟨k,m⟩:=e i hi;rw [k,m];exact h.pt i hi
theorem QgU {y:Lf}:∀{ls:List Lf} {k:Nat},k<=ls.length ->(∀i,i<k ->QaL (gL ls i) y<0) ->(k<ls.length ->¬QaL (gL ls k) y<0) ->Qc1 y ls=ls.take k++y::ls.drop k
 | [],k,hk,_,_=>by
  obtain rfl:k=0:=oU hk;simp [Qc1]
 | x::r,0,_,_,j=>by
  have j:=j oP;have e:gL (x::r) 0=x:=rfl;rw [e] at j;simp only [Qc1];rw [if_neg (by rw [Qag j];simp)];simp
 | x::r,k+1,hk,h1,j=>by
  have e:gL (x::r) 0=x:=rfl;have m:=h1 0 oM;rw [e] at m;simp only [Qc1];rw [if_pos (Qaj m),QgU (ls:=r) (k:=k) (oU hk) (fun i hi=>h1 (i+1) oM) (fun hh=>j oS)];simp
theorem LC.cell {w:Ur}{cap:Nat}{P Q:Nat ->Nat}(h:LC w lo (Uf (Uc g) n cap) l P Q)(hn:n=l.length)(hi:i<l.length):
  w.cell? (Ua g (i*5))=Uq (Uf (Uq ⟨P i,0,Up⟩) (gL l i).p.length (Q i))/\ w.cell? (Ua g (i*5+1))=Uq (Un (gL l i).fl)/\ w.cell? (Ua g (i*5+2))=Uq (Ud (gL l i).r)/\ w.cell? (Ua g (i*5+3))=Uq (Ud (gL l i).q)/\ w.cell? (Ua g (i*5+4))=Uq (Um (gL l i).v):=by
 subst hn;have j:=Qdv h.row;obtain⟨k,m,u,y,z⟩:=Qp4 l P Q i;exact⟨by rw [j.cell oM,k],by rw [j.cell oM,m],by rw [j.cell oM,u],by rw [j.cell oM,y],by rw [j.cell oM,z]⟩
theorem LC.seg {w:Ur}{P Q:Nat ->Nat}(h:LC w lo v l P Q)(hi:i<l.length):QaP w (Uq ⟨P i,0,Up⟩) (gL l i).p:=by
 obtain⟨m,j,q,k,r⟩:=h.pt i hi;exact .inr ⟨P i,0,rfl,j,fun t ht=>by rw [VS];exact k.cell ht⟩
theorem LC.lt {w:Ur}{P Q:Nat ->Nat}(h:LC w lo v l P Q):∀g,v.ownBlock=Uq g ->lo<=g/\ g<w.heap.size:=fun g hg=>h.row.lt g hg
theorem LC.low {w:Ur}{lo':Nat}{P Q:Nat ->Nat}(h:LC w lo v l P Q)(hl:lo'<=lo):LC w lo' v l P Q:=⟨QaW h.row hl,fun i hi=>by obtain⟨j,k⟩:=h.pt i hi;exact⟨Uw hl j,k⟩⟩
theorem LC.cap {w:Ur}{lo g n cap:Nat}{l:List Lf}{P Q:Nat ->Nat}(h:LC w lo (Uf (Uc g) n cap) l P Q):l.length<=cap/\ cap<=9223372036854775807:=by
 rcases h.row.2 with ⟨j,_⟩|⟨u,q,r,m,o,t,v,k,y,z⟩
 ·cases j
 ·injection m with e1 e2 e3;unfold maxLen at k;omega
theorem LC.rest {w:Ur}{P Q:Nat ->Nat}(h:LC w lo v l P Q)(hlo:lo<=w.heap.size)(l':List Lf)(P' Q':Nat ->Nat)(g k m c off:Nat)(hk:k+m=l'.length)(hl:l.length+m<=1048576)(hoff:0<m ->off=k*5)(hC:∀j,j<l'.length*5 ->w.cell? (Ua g j)=Uq (lCp l' P' Q' j))(hp:∀i,i<l'.length ->lo<=P' i/\ P' i<w.heap.size/\ Uq (P' i)≠v.ownBlock/\ Wr w (P' i) 9 (gL l' i).p.length (fun t=> Um (gS (gL l' i).p t))/\ (gL l' i).p.length<=Q' i/\ Q' i<=9223372036854775807)(hv:v≠Ue):
  ∃y o M,(Builtin.append_ #[23,23] 23 #[v,Uf (Uq (Ua g off)) m c]).run prog w=.ok (Uf (Uc y) (l.length+m) o) M/\
   LC M lo (Uf (Uc y) (l.length+m) o) (l++l'.drop k) (fun i=>if i<l.length then P i else P' (k+(i - l.length))) (fun i=>if i<l.length then Q i else Q' (k+(i - l.length)))/\ Gr w M v (Uf (Uc y) (l.length+m) o):=by
 obtain⟨i0,hi,S,T,W⟩:=info_parts QcX;have R:∀j,(lCp l' P' Q' j).oneCell'=true:=fun j=>by unfold lCp;split;rfl;split;rfl;split;rfl;split;rfl;rfl
 obtain⟨v',M,N,Z,V,B,A⟩:=run_append_own_at (P:=prog) w lo 23 23 85 i0 _ 5 64 underlying23 hi S T W rfl oD v l.length _ h.row (Ua g off) m c ((UW (m*5)).map fun j=>lCp l' P' Q' (k*5+j)) oP (fun j u s=>by
  simp only [Yj,Ym] at s;obtain⟨q,E,rfl⟩:=s;have F:j<m*5:=by
   rcases Nat.lt_or_ge j (m*5) with h|h
   ·exact h
   ·rw [UX (oU h)] at E;cases E
  rw [Yi F] at E;have E:=Option.some.inj E;rw [<- E,Qca,hoff oM];exact hC _ oM) (fun u hu=>by
  obtain⟨j,s,rfl⟩:=List.mem_map.1 hu;exact R _) oL oM hlo
 rcases Z.2 with ⟨G,h0⟩|⟨y,o,Ha,G,r⟩
 ·exact absurd (B.1 G).1 hv
 rw [G] at N Z A;have L:Uq y=v.ownBlock \/y=w.heap.size:=by
  rcases A with A|A
  ·exact .inl (by simpa [Value.ownBlock] using A)
  ·exact .inr (by simpa [Value.ownBlock] using A)
 have Hb:=V.size;have C:Gr w M v (Uf (Uc y) (l.length+m) o):=by
  refine⟨V,?_⟩;rcases L with e|e
  ·exact .inl e
  ·exact .inr ⟨y,rfl,oM⟩
 have J:(l++l'.drop k).length=l.length+m:=oS;have K:∀b,Uq b≠v.ownBlock ->b<w.heap.size ->Uq b≠(Value.slice (Uc y) (l.length+m) o).ownBlock:=fun b hb1 hb2 e=>by
  have e:b=y:=by simpa [Value.ownBlock] using e
  rcases L with z|z
  ·exact hb1 (by rw [e];exact z)
  ·omega
 have H:∀i,i<l.length ->gL (l++l'.drop k) i=gL l i:=fun i hi=>by simp [gL,UA,Yg hi]
 have I:∀i,l.length<=i ->gL (l++l'.drop k) i=gL l' (k+(i - l.length)):=fun i hi=>by simp [gL,UA,List.getElem?_append_right hi]
 refine⟨y,o,M,N,⟨?_,fun i hi=> ?_⟩,C⟩
 ·rw [J];have X:(UW ((l.length+m)*5)).map (lCp (l++l'.drop k) (fun i=>if i<l.length then P i else P' (k+(i - l.length))) (fun i=>if i<l.length then Q i else Q' (k+(i - l.length))))=(UW (l.length*5)).map (lCp l P Q)++(UW (m*5)).map fun j=>lCp l' P' Q' (k*5+j):=by
   rw [Nat.add_mul,List.range_add,UC,List.map_map];congr 1
   ·refine Vy fun j s=> ?_;have D:j<l.length*5:=oU s;unfold lCp;rw [H (j/5) oM];dsimp only;rw [if_pos (show j/5<l.length by omega),if_pos (show j/5<l.length by omega)]
   ·refine Vy fun j s=> ?_;have D:j<m*5:=oU s;simp only [Function.comp];unfold lCp;rw [I ((l.length*5+j)/5) oM];dsimp only;rw [if_neg (show¬(l.length*5+j)/5<l.length by omega),if_neg (show¬(l.length*5+j)/5<l.length by omega),show k+((l.length*5+j)/5 - l.length)=(k*5+j)/5 by omega,show (l.length*5+j)%5=(k*5+j)%5 by omega]
  rw [X];exact Z
 ·by_cases e:i<l.length
  ·simp only [if_pos e];rw [H i e];obtain⟨Y,z,O,U⟩:=h.pt i e;exact⟨Y,oM,K _ O z,U.1.same (V.block _ z O),U.2⟩
  ·simp only [if_neg e];rw [I i oM];obtain⟨Y,z,O,U⟩:=hp (k+(i - l.length)) (by rw [J] at hi;omega);exact⟨Y,oM,K _ O z,U.1.same (V.block _ z O),U.2⟩
theorem Qbo {q:Nat}(h:(Value.slice (Uc q) n c).ownBlock=Uq k):q=k:=by simpa [Value.ownBlock] using h
theorem QhQ (g cap:Nat)(l:List Lf)(P Q:Nat ->Nat)(w:Ur)(lo pb pc:Nat)(yp:List ByteArray)(yf:Bool)(yr yq:Int)(yv:ByteArray)(h:LC w lo (Uf (Uc g) l.length cap) l P Q)(hlo:lo<=w.heap.size)(hl:l.length<=100000)(hpl:∀i,i<l.length ->(gL l i).p.length<=1048576)(hyl:yp.length<=1048576)(hy1:lo<=pb/\ pb<w.heap.size)(hyw:Wr w pb 9 yp.length (fun t=> Um (gS yp t)))(hpc:yp.length<=pc/\ pc<=9223372036854775807):
  Cl 54 #[Uf (Uc g) l.length cap,Uo #[Uf (Uc pb) yp.length pc,Un yf,Ud yr,Ud yq,Um yv]] w fun e w'=>(∃g' cap' s A,e=Ui (Uf (Uc g') (l.length+1) cap')/\ w.heap.size<=g'/\ LC w' lo (Uf (Uc g') (l.length+1) cap') (Qc1 ⟨yp,yf,yr,yq,yv⟩ l) s A)/\ Bl w w':=by
 obtain⟨W,hW⟩:=zE ((w.alloc (Uj #[Uf (Uc pb) yp.length pc,Un yf,Ud yr,Ud yq,Um yv] 85)).alloc (Uj #[] 85));have b0:Bl w W:=hW▸Qad _ _ _;have X0:Bx5 W w.heap.size (Uf (Uc pb) yp.length pc) (Un yf) (Ud yr) (Ud yq) (Um yv):=hW▸(Bx5.new _ _ _ _ _ _ _).up _;have zW:W.heap.size=w.heap.size+2:=hW▸oP;have Ht:LC W w.heap.size (Uf (Uq (Ua (w.heap.size+1) 0)) 0 0) [] P Q:=by
  refine⟨?_,fun i hi=>by simp at hi⟩;have:=VF (base:=w.heap.size) (e:=85) (size:=5) (w.alloc (Uj #[Uf (Uc pb) yp.length pc,Un yf,Ud yr,Ud yq,Um yv] 85)) #[] 0 oP oL rfl;rw [hW] at this;simpa using this
 have hg:=(h.lt g rfl).2;have HH:=hid h;have HX:=hid X0;have Hs:=hid hyw;have HY:=hid (And.intro hy1 hpc);have H4:=hid hpl;have Hj:=hid hlo;have Hn:=hid Ht;have H7:=h.cap;have Hr:Hid (∀i,i<l.length ->lo<=P i/\ P i<w.heap.size):=hid (fun i hi=>⟨(h.pt i hi).1,(h.pt i hi).2.1⟩);have H0:=hid hg;have H5:=hid zW;have Hy:=hid b0;clear h b0 X0 zW Ht hg hy1 hyw hpc hpl hlo;have H1:Hid (∀wr q k b,Gr W wr (Uf (Uq (Ua (w.heap.size+1) 0)) 0 0) (Uf (Uc q) k b) ->Bl w wr/\ Bx5 wr w.heap.size (Uf (Uc pb) yp.length pc) (Un yf) (Ud yr) (Ud yq) (Um yv)/\ w.heap.size<q):=hid (fun wr q k b hG=>by
  have hz:=H5.out;have hs:=hG.g.size;have e:=hG.g.block w.heap.size oM (fun e=>oH (Qbo e.symm));refine⟨Hy.trans (hG.bw oM (fun k N=>oH (Qbo N))),?_,?_⟩
  ·have q:=fun o=>US (w:=W) (w':=wr) (a:=(Ua w.heap.size o)) e;exact⟨(q 0).trans HX.c0,(q 1).trans HX.c1,(q 2).trans HX.c2,(q 3).trans HX.c3,(q 4).trans HX.c4,fun i=>(UT (a:=(Ua w.heap.size i)) e).trans (HX.f i),oH HX.lt⟩
  ·rcases hG.l with E|⟨j,E,h2⟩
   ·have:=Qbo (k:=w.heap.size+1) E;omega
   ·have:=Qbo E;omega)
 have Hp:Hid (∀w1 k q b,k<=l.length ->LC w1 lo (Uf (Uc q) k b) (l.take k) P Q ->Bl w w1 ->w.heap.size<q ->∃z y M,(Builtin.append_ #[23,23] 23 #[Uf (Uc q) k b,Uf (Uc w1.heap.size) 1 1]).run prog (w1.alloc (Uj #[Uf (Uc pb) yp.length pc,Un yf,Ud yr,Ud yq,Um yv] 85))=.ok (Uf (Uc z) (k+1) y) M/\ Bl w M/\ w.heap.size<=z/\
   ∀off c',(k<l.length ->off=k*5) ->∃u G R s A,(Builtin.append_ #[23,23] 23 #[Uf (Uc z) (k+1) y,Uf (Uq (Ua g off)) (l.length - k) c']).run prog M=.ok (Uf (Uc u) (l.length+1) G) R/\ Bl w R/\ w.heap.size<=u/\ LC R lo (Uf (Uc u) (l.length+1) G) (l.take k++(⟨yp,yf,yr,yq,yv⟩:Lf)::l.drop k) s A):=hid (fun w1 k q b N hLC O hq=>by
  have He:(l.take k).length=k:=oS;have hY:=HY.out;have H6:=O.size;obtain⟨z,y,M,e1,e2,e3⟩:=hLC.app zI (oH Hj) (by rw [He];omega) ⟨yp,yf,yr,yq,yv⟩ pb pc hY.1.1 oM (fun e=>oH (Qbo e.symm)) (Hs.same (O.block pb hY.1.2)) hY.2;rw [He] at e1 e2 e3;have b3:Bl w M:=O.trans (e3.bw H6 (fun k N=>oH (Qbo N)));have Hh:w.heap.size<=z:=by
   rcases e3.l with E|⟨j,E,h2⟩
   ·have:=Qbo (k:=q) E;omega
   ·have:=Qbo E;omega
  refine⟨z,y,M,e1,b3,Hh,fun off c' hoff=> ?_⟩;have Hu:=HH.bw b3;have Ga:=Qdv Hu.row;have Hx:(l.take k++[(⟨yp,yf,yr,yq,yv⟩:Lf)]).length=k+1:=oS;obtain⟨u,G,R,f1,f2,f3⟩:=e2.rest (oJ b3.size Hj) l P Q g k (l.length - k) c' off oM (by rw [Hx];omega) (fun hm=>hoff oM) (fun j hj=>Ga.cell hj) (fun i hi=>by
   obtain⟨x1,x2,x3,x4⟩:=Hu.pt i hi;have:=Hr i hi;exact⟨x1,x2,fun e=>oH (Qbo e.symm),x4⟩) oP
  rw [Hx,show k+1+(l.length - k)=l.length+1 by omega] at f1 f2 f3;have X:w.heap.size<=u:=by
   rcases f3.l with E|⟨j,E,h2⟩
   ·have:=Qbo (k:=z) E;omega
   ·have:=Qbo E;have:=b3.size;omega
  rw [Vg,List.singleton_append] at f2;exact⟨u,G,R,_,_,f1,b3.trans (f3.bw b3.size (fun k N=>oH (Qbo N))),X,f2⟩)
 go_enter func54,ntmps54;go_wp2_with fail;try rw [hW]
 clear hW;go_loopw [5,6] (fun b' i wr=>∃(k q b:Nat),k<=l.length/\ i=Ud k/\ b'=Uf (Uc q) k b/\ Hid (∀j,j<k ->QaL (gL l j) ⟨yp,yf,yr,yq,yv⟩<0)/\ Hid (LC wr lo (Uf (Uc q) k b) (l.take k) P Q)/\ Hid (Gr W wr (Uf (Uq (Ua (w.heap.size+1) 0)) 0 0) (Uf (Uc q) k b))) (fun _ i _=>l.length - (intOf i).toNat);case atStart=>exact⟨0,_,0,Ux _,rfl,rfl,hid (fun j hj=>oM),hid (oU (Hn.low Hj)),hid (Gr.refl _ _)⟩
 case round=>
  obtain⟨k,q,b,N,rfl,rfl,HJ,T,HG⟩:=hrel;have H9:=T.cap;have He:(l.take k).length=k:=oS;rw [He] at H9;have i1:(0:Int)<=(k:Int):=UI _;obtain⟨bR,xR,hq⟩:=H1 wr q k b HG;have C:=hid bR;have Hk:=hid xR;have HQ:=hid hq;have Hq:=hid He;clear bR xR hq He;by_cases Hb:k<l.length
  ·have i2:(k:Int)<(l.length:Int):=oM;have Hm:=HH.bw C;obtain⟨c0,c1,c2,y,G⟩:=Hm.cell rfl Hb;obtain⟨p1,p2,p3,p4,p5⟩:=Hm.pt k Hb;have Hg:=hid (fun w1 (m:Bl wr w1)=>QhP (Uq ⟨P k,0,Up⟩) (Uc pb) (Q k) pc (gL l k).p yp (gL l k).fl yf (gL l k).r (gL l k).q yr yq (gL l k).v yv w1 (H4 k Hb) hyl p5.1 HY.2.1 p5.2 HY.2.2 ((Hm.seg Hb).bw m) (.inr ⟨pb,0,rfl,by have E:=HY.1.2;have h2:=C.size;have h3:=m.size;omega,fun t ht=>by rw [VS];exact((Hs.same (C.block pb HY.1.2)).same (m.block pb (by have E:=HY.1.2;have h2:=C.size;omega))).cell ht⟩));have Hf:Hid (∀w1,Bl wr w1 ->∃z y M,(Builtin.append_ #[23,23] 23 #[Uf (Uc q) k b,Uf (Uc w1.heap.size) 1 1]).run prog (w1.alloc (Uj #[Uf (Uq ⟨P k,0,Up⟩) (gL l k).p.length (Q k),Un (gL l k).fl,Ud (gL l k).r,Ud (gL l k).q,Um (gL l k).v] 85))=.ok (Uf (Uc z) (k+1) y) M/\ LC M lo (Uf (Uc z) (k+1) y) (l.take (k+1)) P Q/\ Gr w1 M (Uf (Uc q) k b) (Uf (Uc z) (k+1) y)):=hid (fun w1 m=>by
    obtain⟨z,y,M,e1,e2,e3⟩:=T.app m (oJ Hj C.size) (by rw [Hq.out];omega) (gL l k) (P k) (Q k) p1 (oH m.size) (fun e=>by have:=Qbo e.symm;have E:=(Hr k Hb).2;have h2:=HQ.out;omega) (p4.same (m.block _ p2)) p5;rw [Hq.out] at e1 e2 e3;refine⟨z,y,M,e1,?_,e3⟩;have et:l.take (k+1)=l.take k++[gL l k]:=(by rw [Vl];simp [gL,UA,Hb]);rw [et];exact e2.cast fun i hi=>by
     by_cases e:i=k
     ·rw [if_pos e,if_pos e,e];exact⟨rfl,rfl⟩
     ·rw [if_neg e,if_neg e];exact⟨rfl,rfl⟩)
   have Hc:Hid (yes (QaL (gL l k) ⟨yp,yf,yr,yq,yv⟩<0)=true ->∀j,j<k+1 ->QaL (gL l j) ⟨yp,yf,yr,yq,yv⟩<0):=hid (fun O j hj=>by
    by_cases e:j=k
    ·rw [e];exact Classical.byContradiction fun hn=>by rw [Qag hn] at O;cases O
    ·exact HJ j oM)
   have Hd:Hid (yes (QaL (gL l k) ⟨yp,yf,yr,yq,yv⟩<0)=false ->Qc1 ⟨yp,yf,yr,yq,yv⟩ l=l.take k++(⟨yp,yf,yr,yq,yv⟩:Lf)::l.drop k):=hid (fun O=>QgU N HJ (fun _ hn=>by rw [Qaj hn] at O;cases O));have D:Hid (∀w',Bl wr w' ->(w'.cell? (Ua g (k*5))=Uq (Uf (Uq ⟨P k,0,Up⟩) (gL l k).p.length (Q k))/\ w'.cell? (Ua g (k*5+1))=Uq (Un (gL l k).fl)/\ w'.cell? (Ua g (k*5+2))=Uq (Ud (gL l k).r)/\ w'.cell? (Ua g (k*5+3))=Uq (Ud (gL l k).q)/\ w'.cell? (Ua g (k*5+4))=Uq (Um (gL l k).v)/\ w'.cell? (Ub w.heap.size)=Uq (Uf (Uc pb) yp.length pc)/\ w'.cell? (Ua w.heap.size 1)=Uq (Un yf)/\ w'.cell? (Ua w.heap.size 2)=Uq (Ud yr)/\ w'.cell? (Ua w.heap.size 3)=Uq (Ud yq)/\ w'.cell? (Ua w.heap.size 4)=Uq (Um yv))):=hid (fun w' m=>by
    have H8:g<wr.heap.size:=(by have E:=H0.out;have h2:=C.size;omega);have q:=fun o=>m.cell (p:=(Ua g o)) H8;have Z:=Hk.bw m Hk.lt;exact⟨(q _).trans c0,(q _).trans c1,(q _).trans c2,(q _).trans y,(q _).trans G,Z.c0,Z.c1,Z.c2,Z.c3,Z.c4⟩)
   obtain⟨x,hx⟩:=zE (gL l k);obtain⟨Pk,Hv⟩:=zE (P k);obtain⟨Qk,Hw⟩:=zE (Q k);rw [hx,Hv,Hw] at Hg Hf D;rw [hx] at Hc Hd;obtain⟨xp,xf,xr,xq,xv⟩:=x;dsimp only at Hg Hf D Hc Hd;obtain⟨B,O⟩:=zE (yes (QaL (⟨xp,xf,xr,xq,xv⟩:Lf) ⟨yp,yf,yr,yq,yv⟩<0));rw [O] at Hg Hc Hd;clear hx Hv Hw O Hm c0 c1 c2 y G p1 p2 p3 p4 p5;go_wp2_with fail;refine zR (S:=fun w'=>w'.cell? (Ua g (k*5))=Uq (Uf (Uc Pk) xp.length Qk)/\ w'.cell? (Ua g (k*5+1))=Uq (Un xf)/\ w'.cell? (Ua g (k*5+2))=Uq (Ud xr)/\ w'.cell? (Ua g (k*5+3))=Uq (Ud xq)/\ w'.cell? (Ua g (k*5+4))=Uq (Um xv)/\ w'.cell? (Ub w.heap.size)=Uq (Uf (Uc pb) yp.length pc)/\ w'.cell? (Ua w.heap.size 1)=Uq (Un yf)/\ w'.cell? (Ua w.heap.size 2)=Uq (Ud yr)/\ w'.cell? (Ua w.heap.size 3)=Uq (Ud yq)/\ w'.cell? (Ua w.heap.size 4)=Uq (Um yv)) (D _ zI.drew) (fun qh=> ?_);refine tZ 0 9 ?_;refine tZ 1 10 ?_;refine tZ 2 11 ?_;refine tZ 3 12 ?_;refine tZ 4 13 ?_;refine tZ 5 14 ?_;refine tZ 6 15 ?_;refine tZ 7 16 ?_;refine tZ 8 17 ?_;refine tZ 9 18 ?_;refine cZ 10 ?_;intro K hK;go_simp;refine(Hg _ zI.drew).mono ?_;rintro e w1 ⟨rfl,m⟩;have Hl:Bl wr w1:=⟨m.os,m.tape,m.output,m.size,m.block⟩;refine hK.out _ _ (D _ Hl) (fun qh=> ?_);clear hK K;try simp only [zP]
   refine tZ 11 20 ?_;refine zD ?_;have Hi:=hid Hl;obtain⟨c0,c1,c2,y,G,y0,y1,y2,y3,y4⟩:=D _ Hl;clear qh m Hl D Hg;cases B with
   | true=>
    obtain⟨z,Ho,M,J,l3,g3⟩:=Hf w1 Hi;have H3:=hid l3;have Hz:=hid ((HG.trans (Gr.of_below Hi)).trans g3);have H2:=hid (Hc rfl);clear l3 g3 Hf Hc Hd HJ T HG;go_wp2_with (at_builtin;refine Qab rfl _ _ _ _ rfl J (by rfl) (by rfl) rfl ?_;clear J);go_roundw;case rel=>exact⟨k+1,z,Ho,Hb,oN,rfl,H2,H3,Hz⟩
    case measure=>exact oE
   | false=>
    have I:=hid (Hd rfl);obtain⟨z,Ho,M,J,b3,Hh,Ha⟩:=Hp w1 k q b N (T.bw Hi) (C.trans (Hi.mono C.size)) HQ;obtain⟨u,H,R,s,A,L,b4,X,F⟩:=Ha (k*5) (cap - k) (fun _=>rfl);have U:=hid b4;have V:=hid F;have Y:=hid X;clear b3 Hh Ha b4 F X Hf Hc Hd HJ T HG;have i3:k<=cap:=oM;go_wp2_with (first|(at_builtin;refine Qab rfl _ _ _ _ rfl J (by rfl) (by rfl) rfl ?_;clear J)|(at_builtin;refine Qab rfl _ _ _ _ rfl L (by rfl) (by rfl) rfl ?_;clear L));go_ret;first|exact⟨⟨u,H,rfl,Y,s,A,by rw [I.out];exact V⟩,U⟩|exact⟨⟨u,H,s,A,rfl,Y,by rw [I.out];exact V⟩,U⟩|exact⟨⟨u,H,rfl,s,A,Y,by rw [I.out];exact V⟩,U⟩
  ·obtain rfl:k=l.length:=oM;have I:Hid (Qc1 ⟨yp,yf,yr,yq,yv⟩ l=l.take l.length++(⟨yp,yf,yr,yq,yv⟩:Lf)::l.drop l.length):=hid (QgU zL HJ (fun h=>oM));have D:Hid (∀w',Bl wr w' ->(w'.cell? (Ub w.heap.size)=Uq (Uf (Uc pb) yp.length pc)/\ w'.cell? (Ua w.heap.size 1)=Uq (Un yf)/\ w'.cell? (Ua w.heap.size 2)=Uq (Ud yr)/\ w'.cell? (Ua w.heap.size 3)=Uq (Ud yq)/\ w'.cell? (Ua w.heap.size 4)=Uq (Um yv))):=hid (fun w' m=>by
    have Z:=Hk.bw m Hk.lt;exact⟨Z.c0,Z.c1,Z.c2,Z.c3,Z.c4⟩)
   go_wp2_with fail;refine zR (S:=fun w'=>True) trivial (fun qh=> ?_);refine tZ 0 9 ?_;refine tZ 1 10 ?_;refine tZ 2 11 ?_;refine tZ 3 12 ?_;refine tZ 4 13 ?_;refine uZ 5 14 ?_;refine uZ 6 15 ?_;refine uZ 7 16 ?_;refine uZ 8 17 ?_;refine uZ 9 18 ?_;refine uZ 10 19 ?_;refine tZ 11 20 ?_;refine zD ?_;obtain⟨y0,y1,y2,y3,y4⟩:=D _ zI.drew;obtain⟨z,Ho,M,J,b3,Hh,Ha⟩:=Hp wr.drew l.length q b N (T.bw zI.drew) C.drew HQ;clear b3 Hh HJ T HG qh D;by_cases Gb:l.length<cap
   ·obtain⟨u,H,R,s,A,L,b4,X,F⟩:=Ha (l.length*5) (cap - l.length) (fun _=>rfl);rw [Nat.sub_self] at L;have U:=hid b4;have V:=hid F;have Y:=hid X;clear Ha b4 F X;go_wp2_with (first|(at_builtin;refine Qab rfl _ _ _ _ rfl J (by rfl) (by rfl) rfl ?_;clear J)|(at_builtin;refine Qab rfl _ _ _ _ rfl L (by rfl) (by rfl) rfl ?_;clear L));go_ret;first|exact⟨⟨u,H,rfl,Y,s,A,by rw [I.out];exact V⟩,U⟩|exact⟨⟨u,H,s,A,rfl,Y,by rw [I.out];exact V⟩,U⟩|exact⟨⟨u,H,rfl,s,A,Y,by rw [I.out];exact V⟩,U⟩
   ·obtain⟨u,H,R,s,A,L,b4,X,F⟩:=Ha 0 0 (fun h=>oM);rw [Nat.sub_self] at L;obtain rfl:cap=l.length:=oM;have U:=hid b4;have V:=hid F;have Y:=hid X;clear Ha b4 F X;go_wp2_with (first|(at_builtin;refine Qab rfl _ _ _ _ rfl J (by rfl) (by rfl) rfl ?_;clear J)|(at_builtin;refine Qab rfl _ _ _ _ rfl L (by rfl) (by rfl) rfl ?_;clear L));go_ret;first|exact⟨⟨u,H,rfl,Y,s,A,by rw [I.out];exact V⟩,U⟩|exact⟨⟨u,H,s,A,rfl,Y,by rw [I.out];exact V⟩,U⟩|exact⟨⟨u,H,rfl,s,A,Y,by rw [I.out];exact V⟩,U⟩
def mk3 (k0 c:Nat)(i:Nat):Int:=((k0+3*i+c:Nat):Int)
open Go.Sort
def gR (l:List Rn)(i:Nat):Rn:=l.getD i (0,0,0)
def FS (w:Ur)(a:Option Us)(l:List Rn):Prop:=
 l.length=0 \/∃g off,a=Uq (Ua g off)/\ g<w.heap.size/\∀i,i<l.length ->w.cell? (Ua g (off+i*3))=Uq (Ud (gR l i).1)/\ w.cell? (Ua g (off+i*3+1))=Uq (Ud (gR l i).2.1)/\ w.cell? (Ua g (off+i*3+2))=Uq (Ud (gR l i).2.2)
theorem Qk7 {w:Ur}{cap:Nat}{l:List Rn}(h:w.ownsRow B 89 3 (Uf (Uc g) n cap) n (Qaf l))(hl:l.length=n):
  ∀i,i<n ->w.cell? (Ua g (i*3))=Uq (Ud (gR l i).1)/\ w.cell? (Ua g (i*3+1))=Uq (Ud (gR l i).2.1)/\ w.cell? (Ua g (i*3+2))=Uq (Ud (gR l i).2.2):=by
 intro i hi;have j:∀(l:List Rn) (i:Nat),i<l.length ->(Qaf l)[i*3]? =Uq (Ud (gR l i).1)/\ (Qaf l)[i*3+1]? =Uq (Ud (gR l i).2.1)/\ (Qaf l)[i*3+2]? =Uq (Ud (gR l i).2.2):=by
  intro l;induction l with
  | nil=>intro i hi;simp at hi
  | cons a l ih=>
   intro i hi;cases i with
   | zero=>simp [Qaf,gR]
   | succ i=>
    have:=ih i (oU hi);have e:Qaf (a::l)=Ud a.1::Ud a.2.1::Ud a.2.2::Qaf l:=(by simp [Qaf]);rw [e,show (i+1)*3=i*3+1+1+1 from by omega];simpa [gR] using this
 rw [h.cellAt _ oM,h.cellAt _ oM,h.cellAt _ oM];exact j l i oM
theorem FR.fs {w:Ur}{l:List Rn}(h:FR w B v l):∃a c,v=Uf a l.length c/\ FS w a l/\ l.length<=c/\ c<=9223372036854775807:=by
 rcases h.2 with ⟨e,j⟩|⟨g,cap,r,e,u,_,q,m,_⟩
 ·exact⟨Up,0,by rw [e,j],.inl j,oM,oM⟩
 ·refine⟨_,cap,e,.inr ⟨g,0,rfl,(World.ownsRow.lt h g (by rw [e];rfl)).2,fun i hi=> ?_⟩,q,by unfold maxLen at m;omega⟩;have k:w.ownsRow B 89 3 v l.length (Qaf l):=h;rw [e] at k;rw [VS];exact Qk7 k rfl i hi
theorem Qdk (l:List Rn):(Qaf l).length=l.length*3:=by
 induction l with
 | nil=>rfl
 | cons a l ih=>simp [Qaf] at*;omega
theorem FS.rseg {w:Ur}{l:List Rn}(h:FS w a l):QaT w a l.length (fun i=>(gR l i).1) (fun i=>(gR l i).2.1) (fun i=>(gR l i).2.2):=h
theorem FR.gr {w:Ur}{l:List Rn}(h:FR w B v l)(hg:w.grownBy w' row)(hne:∀g,v.ownBlock=Yl g ->Yl g≠row):FR w' B v l:=
 World.ownsRow.kept h hg (by
  cases e:v.ownBlock with
  | none=>exact .inl rfl
  | some g=>exact .inr (hne g e))
theorem FR.bw {w:Ur}{l:List Rn}(h:FR w B v l)(hb:Bl w w'):FR w' B v l:=
 h.gr (row:=Up) ⟨hb.os,hb.tape,hb.output,hb.size,fun k hk _=>hb.block k hk⟩ oP
def stK (l:List Rn)(r:Rn)(k:Nat):List Rn×Rn×List Rn:=(l.take k).foldl QaE ([],r,[])
theorem QfM {l:List Rn}{r:Rn}(h:k<l.length):stK l r (k+1)=QaE (stK l r k) (gR l k):=by
 unfold stK;rw [Vl,Yf];simp [gR,UA,h]
theorem QjV (l:List Rn)(r:Rn):stK l r l.length=QgV l r:=by unfold stK QgV;rw [Vn]
def Bnd (p:Rn):Prop:=(-2000000000<=p.1/\ p.1<=2000000000)/\ (-2000000000<=p.2.1/\ p.2.1<=2000000000)/\ -2000000000<=p.2.2/\ p.2.2<=2000000000
theorem Rok.bnd {p:Rn}(h:Rok p):Bnd p:=by unfold Rok at h;unfold Bnd;omega
theorem QgW {s:List Rn×Rn×List Rn}{q:Rn}(h:Bnd s.2.1)(hq:Bnd q):Bnd (QaE s q).2.1:=by
 unfold QaE;split
 ·exact h
 ·split
  ·exact h
  ·unfold Bnd at*;simp only;omega
theorem QgX (s:List Rn×Rn×List Rn)(q:Rn):(QaE s q).1.length+(QaE s q).2.2.length<=s.1.length+s.2.2.length+1:=by
 unfold QaE;split
 ·simp;omega
 ·split
  ·simp;omega
  ·simp
theorem Qhu (l:List Rn)(r:Rn):∀k,k<=l.length ->(stK l r k).1.length+(stK l r k).2.2.length<=k
 | 0,_=>by simp [stK]
 | k+1,h=>by
  rw [QfM oM];have:=QgX (stK l r k) (gR l k);have:=Qhu l r k oM;omega
theorem QdW {l:List Rn}(h:k<l.length):gR l k∈l:=by simp [gR,UA,h]
theorem QjW {l:List Rn}{r:Rn}(hl:∀p∈l,Bnd p)(hr:Bnd r):∀k,k<=l.length ->Bnd (stK l r k).2.1
 | 0,_=>by simpa [stK] using hr
 | k+1,h=>by rw [QfM oM];exact QgW (QjW hl hr k oM) (hl _ (QdW oM))
theorem Qco {t r' f' f t':Int}:QaD r t r' f'=true↔Apt (r,f,t) (r',f',t'):=by unfold QaD Apt;simp
structure IL (w wr:Ur)(u5 u6:Value)(sb:List Rn)(qr qf qt:Int)(sa:List Rn):Prop where
 b:FR wr (w.heap.size+1) u5 sb
 a:FR wr (w.heap.size+1) u6 sa
 ne:∀g,u5.ownBlock=Uq g ->u6.ownBlock≠Uq g
 nb:u5.ownBlock≠Up
 na:u6.ownBlock≠Up
 bel:Bl w wr
 sz:w.heap.size+1<=wr.heap.size
 c0:wr.cell? (Ub w.heap.size)=Uq (Ud qr)
 c1:wr.cell? (Ua w.heap.size 1)=Uq (Ud qf)
 c2:wr.cell? (Ua w.heap.size 2)=Uq (Ud qt)
 f1:wr.frozen? (Ua w.heap.size 1)=false
 f2:wr.frozen? (Ua w.heap.size 2)=false
theorem IL.q2 {w:Ur}(h:IL w wr u5 u6 sb qr qf qt sa):(wr.cell? (Ub w.heap.size)=Uq (Ud qr))/\ (wr.cell? (Ua w.heap.size 1)=Uq (Ud qf)):=⟨h.c0,h.c1⟩
theorem IL.q3 {w:Ur}(h:IL w wr u5 u6 sb qr qf qt sa):(wr.cell? (Ub w.heap.size)=Uq (Ud qr))/\ (wr.cell? (Ua w.heap.size 1)=Uq (Ud qf))/\ (wr.cell? (Ua w.heap.size 2)=Uq (Ud qt)):=⟨h.c0,h.c1,h.c2⟩
theorem IL.box5 {w:Ur}(h:IL w wr u5 u6 sb qr qf qt sa):Uq w.heap.size≠u5.ownBlock:=fun e=>by have:=(World.ownsRow.lt h.b _ e.symm).1;omega
theorem IL.bw {w:Ur}(h:IL w wr u5 u6 sb qr qf qt sa)(hb:Bl wr w1):IL w w1 u5 u6 sb qr qf qt sa:=by
 have j:=h.sz;have k:=hb.size;exact⟨Qdc h.b hb,Qdc h.a hb,h.ne,h.nb,h.na,h.bel.trans (hb.mono oM),oM,(hb.cell (p:=(Ub w.heap.size)) (show w.heap.size<wr.heap.size by omega)).trans h.c0,(hb.cell (p:=(Ua w.heap.size 1)) (show w.heap.size<wr.heap.size by omega)).trans h.c1,(hb.cell (p:=(Ua w.heap.size 2)) (show w.heap.size<wr.heap.size by omega)).trans h.c2,((Qc0 hb).2 w.heap.size 1 oM).trans h.f1,((Qc0 hb).2 w.heap.size 2 oM).trans h.f2⟩
theorem IL.app5 {w:Ur}(h:IL w wr u5 u6 sb qr qf qt sa)(p:Rn)(hown:w1.ownsRow (w.heap.size+1) 89 3 v (sb.length+1) (Qaf sb++[Ud p.1,Ud p.2.1,Ud p.2.2]))
  (hg:wr.grownBy w1 u5.ownBlock) (hloc:v.ownBlock=u5.ownBlock \/v.ownBlock=Uq wr.heap.size):IL w w1 v u6 (sb++[p]) qr qf qt sa:=by
 have r:=h.sz;have u:=hg.size;have m:=h.box5;have q:=hg.block w.heap.size oM m;refine⟨?_,World.ownsRow.kept h.a hg ?_,fun g e1 e2=> ?_,?_,h.na,h.bel.grown hg oM (fun k hk=>oH ((World.ownsRow.lt h.b k hk).1)),oM,hg.cell h.c0 m,hg.cell h.c1 m,hg.cell h.c2 m,(UT q).trans h.f1,(UT q).trans h.f2⟩
 ·unfold FR;rw [QcB,UB];exact hown
 ·cases e:u6.ownBlock with
  | none=>exact .inl rfl
  | some g=>exact .inr (fun e2=>h.ne g e2.symm e)
 ·rcases hloc with j|j
  ·exact h.ne g (j▸e1) e2
  ·rw [j] at e1;injection e1 with e1;have:=(World.ownsRow.lt h.a g e2).2;omega
 ·rcases hloc with j|j
  ·rw [j];exact h.nb
  ·rw [j];simp
theorem IL.app6 {w:Ur}(h:IL w wr u5 u6 sb qr qf qt sa)(p:Rn)(hown:w1.ownsRow (w.heap.size+1) 89 3 v (sa.length+1) (Qaf sa++[Ud p.1,Ud p.2.1,Ud p.2.2]))
  (hg:wr.grownBy w1 u6.ownBlock) (hloc:v.ownBlock=u6.ownBlock \/v.ownBlock=Uq wr.heap.size):IL w w1 u5 v sb qr qf qt (sa++[p]):=by
 have k:IL w wr u6 u5 sa qr qf qt sb:=⟨h.a,h.b,fun g e1 e2=>h.ne g e2 e1,h.na,h.nb,h.bel,h.sz,h.c0,h.c1,h.c2,h.f1,h.f2⟩;have j:=k.app5 p hown hg hloc;exact⟨j.a,j.b,fun g e1 e2=>j.ne g e2 e1,j.na,j.nb,j.bel,j.sz,j.c0,j.c1,j.c2,j.f1,j.f2⟩
theorem IL.row_set {w:Ur}{l:List Rn}(h:FR wr (w.heap.size+1) v l)(i:Nat)(u:Value):FR (wr.setCell (Ua w.heap.size i) u) (w.heap.size+1) v l:=by
 refine World.ownsRow.kept h (Qa6 wr (Ua w.heap.size i) u) ?_;cases e:v.ownBlock with
 | none=>exact .inl rfl
 | some g=>exact .inr (fun j=>by have:=(World.ownsRow.lt h g e).1;injection j with j;have j:g=w.heap.size:=j;omega)
theorem IL.set1 {w:Ur}(h:IL w wr u5 u6 sb qr qf qt sa)(z:Int):IL w (wr.setCell (Ua w.heap.size 1) (Ud z)) u5 u6 sb qr z qt sa:=
 ⟨IL.row_set h.b _ _,IL.row_set h.a _ _,h.ne,h.nb,h.na,h.bel.setCell (p:=(Ua w.heap.size 1)) zL _,oU h.sz,(UN _ _ _ _ oP).trans h.c0,UM _ _ _ h.c1,(UN _ _ _ _ oP).trans h.c2,oU h.f1,by simpa using h.f2⟩
theorem IL.set2 {w:Ur}(h:IL w wr u5 u6 sb qr qf qt sa)(z:Int):IL w (wr.setCell (Ua w.heap.size 2) (Ud z)) u5 u6 sb qr qf z sa:=
 ⟨IL.row_set h.b _ _,IL.row_set h.a _ _,h.ne,h.nb,h.na,h.bel.setCell (p:=(Ua w.heap.size 2)) zL _,oU h.sz,(UN _ _ _ _ oP).trans h.c0,(UN _ _ _ _ oP).trans h.c1,UM _ _ _ h.c2,oU h.f1,by simpa using h.f2⟩
theorem IL.drew {w:Ur}(h:IL w wr u5 u6 sb qr qf qt sa):IL w wr.drew u5 u6 sb qr qf qt sa:=h.bw zI.drew
theorem QeH (l:List Rn):∀u∈Qaf l,u.oneCell'=true:=by
 intro u j;unfold Qaf at j;obtain⟨p,_,h⟩:=List.mem_flatMap.1 j;simp at h;rcases h with rfl|rfl|rfl<;>rfl
theorem Qbp (l l':List Rn):Qaf (l++l')=Qaf l++Qaf l':=by simp [Qaf]
theorem QeY (r f t r' f' t':Int)(w:Ur)(h0: -2000000000<=t)(h1:t<=2000000000):
  Cl 84 #[Uo #[Ud r,Ud f,Ud t],Uo #[Ud r',Ud f',Ud t']] w (Rt w (Un (QaD r t r' f'))):=by
 by_cases q:r<r'
 ·have j:=hid (Qbv (t:=t) (f':=f') (.inl q));go_enter func84,ntmps84;go_wp2_with fail;go_ret;exact⟨QbU j.symm,Qad _ _ _⟩
 ·by_cases k:r=r'
  ·subst k;by_cases m:t+1<f'
   ·have j:=hid (Qbv (r:=r) (r':=r) (.inr ⟨rfl,m⟩));go_enter func84,ntmps84;go_wp2_with fail;go_ret;exact⟨QbU j.symm,Qad _ _ _⟩
   ·have j:=hid (Qbc (r:=r) (r':=r) (t:=t) (f':=f') oM);go_enter func84,ntmps84;go_wp2_with fail;go_ret;exact⟨QbU j.symm,Qad _ _ _⟩
  ·have m:(r==r')=false:=(by simp;exact k);have j:=hid (Qbc (r:=r) (r':=r') (t:=t) (f':=f') oM);go_enter func84,ntmps84;go_wp2_with fail;go_ret;exact⟨QbU j.symm,Qad _ _ _⟩
theorem Qln (a:Option Us)(c:Nat)(l:List Rn)(rr rf rt:Int)(w:Ur)(hn:l.length<=100000)(h:FS w a l)(hl:∀p∈l,Bnd p)(hr:Bnd (rr,rf,rt)):
  Cl 85 #[Uf a l.length c,Uo #[Ud rr,Ud rf,Ud rt]] w fun e w'=>∃v,e=Ui v/\ FR w' w.heap.size v (ins l (rr,rf,rt))/\ Bl w w':=by
 obtain⟨i0,hi,Hq,Hr,Hs⟩:=info_parts Tryz.infoRun;obtain⟨s,Hh⟩:=zE (stK l (rr,rf,rt));obtain⟨n,D⟩:=zE l.length;have HI:Hid (∀k,k<=n ->Bnd (s k).2.1):=by rw [<- Hh,<- D];exact hid (QjW hl hr)
 have HS:Hid (∀k,k<n ->s (k+1)=QaE (s k) (gR l k)):=by rw [<- Hh,<- D];exact hid fun k B=>QfM B
 have HZ:Hid (s 0=([],(rr,rf,rt),[])):=Hh▸hid rfl;have HE:Hid (ins l (rr,rf,rt)=(s n).1++[(s n).2.1]++(s n).2.2):=by rw [<- Hh,<- D,QjV];exact hid rfl
 have Hx:Hid (∀k,k<=n ->(s k).1.length+(s k).2.2.length<=k):=by rw [<- Hh,<- D];exact hid (Qhu l _)
 have Ga:Hid (∀k,k<n ->Bnd (gR l k)):=D▸hid fun k B=>hl _ (QdW B);have H9:Hid (n=0 \/∃g off,a=Uq (Ua g off)/\ g<w.heap.size/\∀i,i<n ->w.cell? (Ua g (off+i*3))=Uq (Ud (gR l i).1)/\ w.cell? (Ua g (off+i*3+1))=Uq (Ud (gR l i).2.1)/\ w.cell? (Ua g (off+i*3+2))=Uq (Ud (gR l i).2.2)):=D▸hid h;rw [D] at hn ⊢;clear Hh D h hl;obtain⟨Y,I⟩:=zE (w.alloc (Uj #[Ud rr,Ud rf,Ud rt] 89));have z0:Y.heap.size=w.heap.size+1:=I▸oP;have H5:Hid (Bl w Y):=I▸hid (zO _ _);have x0:Y.cell? (Ub w.heap.size)=Uq (Ud rr):=I▸oP;have x1:Y.cell? (Ua w.heap.size 1)=Uq (Ud rf):=I▸oP;have x2:Y.cell? (Ua w.heap.size 2)=Uq (Ud rt):=I▸oP;have y1:Y.frozen? (Ua w.heap.size 1)=false:=I▸oP;have y2:Y.frozen? (Ua w.heap.size 2)=false:=I▸oP;go_enter func85,ntmps85;go_wp2_with fail;try rw [I]
 have Hl:Hid (IL w ((Y.alloc (Uj #[] 89)).alloc (Uj #[] 89)) (Uf (Uq (Ua (w.heap.size+1) 0)) 0 0) (Uf (Uq (Ua (w.heap.size+1+1) 0)) 0 0) [] rr rf rt []):=by
  refine hid ?_;have H:Bl Y ((Y.alloc (Uj #[] 89)).alloc (Uj #[] 89)):=Qad _ _ _;have q1:=VF (base:=w.heap.size+1) (e:=89) (size:=3) Y #[] 0 oM oL rfl;have q2:=VF (base:=w.heap.size+1) (e:=89) (size:=3) (Y.alloc (Uj #[] 89)) #[] 0 oS oL rfl;have zz:(Y.alloc (Uj #[] 89)).heap.size=w.heap.size+1+1:=oS;rw [z0] at q1;rw [zz] at q2;refine⟨World.ownsRow.alloc q1 _,q2,fun g e1 e2=> ?_,by simp [Value.ownBlock],by simp [Value.ownBlock],H5.trans (H.mono oM),oS,(H.cell (p:=(Ub w.heap.size)) (show w.heap.size<_ by omega)).trans x0,(H.cell (p:=(Ua w.heap.size 1)) (show w.heap.size<_ by omega)).trans x1,(H.cell (p:=(Ua w.heap.size 2)) (show w.heap.size<_ by omega)).trans x2,((Qc0 H).2 w.heap.size 1 oM).trans y1,((Qc0 H).2 w.heap.size 2 oM).trans y2⟩;simp [Value.ownBlock] at e1 e2;omega
 clear x0 x1 x2 y1 y2 z0 I;go_loopw [5,6,7] (fun u5 u6 iv wr=>∃(k:Nat),k<=n/\ iv=Ud k/\ Hid (IL w wr u5 u6 (s k).1 (s k).2.1.1 (s k).2.1.2.1 (s k).2.1.2.2 (s k).2.2)) (fun _ _ iv _=>n - (intOf iv).toNat);case atStart=>exact⟨0,Ux _,rfl,by rw [HZ.out];exact Hl⟩
 case round=>
  clear Hl;obtain⟨k,B,rfl,U⟩:=hrel;have He:=HI k B;by_cases J:k<n
  ·have Hc:=HS k J;have Hu:=Hx k B;have H0:=Ga k J;have Hm:∃g off,a=Uq (Ua g off)/\ g<w.heap.size/\ w.cell? (Ua g (off+k*3))=Uq (Ud (gR l k).1)/\ w.cell? (Ua g (off+k*3+1))=Uq (Ud (gR l k).2.1)/\ w.cell? (Ua g (off+k*3+2))=Uq (Ud (gR l k).2.2):=by
    rcases H9.out with h|⟨g,off,e,hg,hc⟩
    ·omega
    ·exact⟨g,off,e,hg,hc k J⟩
   obtain⟨g,off,rfl,hg,p0,p1,p2⟩:=Hm;generalize Hp:s k=sk at*;obtain⟨E,⟨t,z,q⟩,A⟩:=sk;generalize Hy:gR l k=gk at*;obtain⟨M,y,m⟩:=gk;simp only at p0 p1 p2 U Hu;unfold Bnd at He H0;simp only at He H0;have Ht:=hid Hc;have HP:=hid (And.intro p0 (And.intro p1 p2));have e0:=(U.bel.cell (p:=(Ua g (off+k*3))) hg).trans p0;have e1:=(U.bel.cell (p:=(Ua g (off+k*3+1))) hg).trans p1;have e2:=(U.bel.cell (p:=(Ua g (off+k*3+2))) hg).trans p2;obtain⟨c0,c1,N⟩:=U.q3;have zr:=U.sz;have HK:=hid Hp;have Gf:=hid Hy;clear Hc Hp Hy p0 p1 p2;go_wp2_with fail;refine zR (S:=fun w'=>w'.cell? (Ua g (off+k*3))=Uq (Ud M)/\ w'.cell? (Ua g (off+k*3+1))=Uq (Ud y)/\ w'.cell? (Ua g (off+k*3+2))=Uq (Ud m)/\ w'.cell? (Ub w.heap.size)=Uq (Ud t)/\ w'.cell? (Ua w.heap.size 1)=Uq (Ud z)/\ w'.cell? (Ua w.heap.size 2)=Uq (Ud q)) ⟨e0,e1,e2,c0,c1,N⟩ (fun qh=> ?_);refine tZ 0 16 ?_;refine tZ 1 17 ?_;refine tZ 2 18 ?_;refine tZ 3 19 ?_;refine tZ 4 20 ?_;refine cZ 5 ?_;intro K hK;go_simp;refine(QeY M y m t z q _ oM oM).mono ?_;rintro e w1 ⟨rfl,b1⟩;have Hf:Bl wr w1:=(Below.refl _ wr).drew.trans b1;have Ha:=hid (U.bw Hf);have z1:=Hf.size;have s0:=(Hf.cell (p:=(Ua g (off+k*3))) (show g<wr.heap.size by omega)).trans e0;have s1:=(Hf.cell (p:=(Ua g (off+k*3+1))) (show g<wr.heap.size by omega)).trans e1;have s2:=(Hf.cell (p:=(Ua g (off+k*3+2))) (show g<wr.heap.size by omega)).trans e2;obtain⟨t0,t1,t2⟩:=Ha.q3;refine hK.out _ _ ⟨s0,s1,s2,t0,t1,t2⟩ (fun qh=> ?_);clear hK K;try simp only [zP]
   refine zD ?_;clear qh e0 e1 e2 c0 c1 N b1 Hf U;by_cases hA:Apt (M,y,m) (t,z,q)
   ·rw [show QaD M m t z=true from Qco.2 hA];have L:Hid (s (k+1)=(E++[(M,y,m)],(t,z,q),A)):=by
     refine hid ?_;rw [Ht.out];unfold QaE;simp only;rw [if_pos hA]
    clear t0 t1 t2;go_wp2_with (at_builtin;refine Qar rfl _ _ 24 rfl (w.heap.size+1) 89 i0 _ 3 24 underlying24 hi Hq Hr Hs rfl oD _ _ _ rfl (World.ownsRow.alloc Ha.b _) (Ub w1.heap.size) 1 1 [Ud M,Ud y,Ud m] rfl rfl ?n1 ?n2 ?n3 ?n4 ?n5 ?_);try (case n1=>exact QaB _ _ _ _ _)
    case n2=>first|exact⟨rfl,rfl,rfl⟩|(intro u P;simp at P;rcases P with rfl|rfl|rfl<;>rfl)
    case n3=>unfold maxLen;omega
    case n4=>omega
    case n5=>first|omega|(simp;omega)
    intro v7 w7 F X C;have Z:=hid ((Ha.bw (zO _ _)).app5 (M,y,m) F X (oU C));clear F X C s0 s1 s2;go_wp2_with fail;go_roundw;case rel=>exact⟨k+1,J,oN,by rw [L.out];exact Z⟩
    case measure=>exact oE
   ·rw [show QaD M m t z=false from by rw [<- Bool.not_eq_true];exact fun h=>hA (Qco.1 h)];have HA:=hid hA;have v0:=t0;have v1:=t1;have v2:=t2;go_wp2_with fail;refine zR (S:=fun w'=>w'.cell? (Ua g (off+k*3))=Uq (Ud M)/\ w'.cell? (Ua g (off+k*3+1))=Uq (Ud y)/\ w'.cell? (Ua g (off+k*3+2))=Uq (Ud m)/\ w'.cell? (Ub w.heap.size)=Uq (Ud t)/\ w'.cell? (Ua w.heap.size 1)=Uq (Ud z)/\ w'.cell? (Ua w.heap.size 2)=Uq (Ud q)) ⟨s0,s1,s2,v0,v1,v2⟩ (fun qh=> ?_);refine tZ 0 29 ?_;refine tZ 1 30 ?_;refine tZ 2 31 ?_;refine tZ 3 32 ?_;refine tZ 4 33 ?_;refine cZ 5 ?_;intro K hK;go_simp;refine(QeY t z q M y m _ oM oM).mono ?_;rintro e R ⟨rfl,H⟩;have Hg:Bl w1 R:=(Below.refl _ w1).drew.trans H;have G:=hid (Ha.bw Hg);have z2:=Hg.size;have H1:=(Hg.cell (p:=(Ua g (off+k*3))) (show g<w1.heap.size by omega)).trans s0;have Hi:=(Hg.cell (p:=(Ua g (off+k*3+1))) (show g<w1.heap.size by omega)).trans s1;have Hj:=(Hg.cell (p:=(Ua g (off+k*3+2))) (show g<w1.heap.size by omega)).trans s2;obtain⟨H2,Hk,H3⟩:=G.q3;refine hK.out _ _ ⟨H1,Hi,Hj,H2,Hk,H3⟩ (fun qh=> ?_);clear hK K;try simp only [zP]
    refine zD ?_;clear qh H Hg s0 s1 s2 t0 t1 t2 v0 v1 v2 Ha;by_cases hB:Apt (t,z,q) (M,y,m)
    ·rw [show QaD t q M y=true from Qco.2 hB];have L:Hid (s (k+1)=(E,(t,z,q),A++[(M,y,m)])):=by
      refine hid ?_;rw [Ht.out];unfold QaE;simp only;rw [if_neg HA.out,if_pos hB]
     clear H2 Hk H3;go_wp2_with (at_builtin;refine Qar rfl _ _ 24 rfl (w.heap.size+1) 89 i0 _ 3 24 underlying24 hi Hq Hr Hs rfl oD _ _ _ rfl (World.ownsRow.alloc G.a _) (Ub R.heap.size) 1 1 [Ud M,Ud y,Ud m] rfl rfl ?m1 ?m2 ?m3 ?m4 ?m5 ?_);try (case m1=>exact QaB _ _ _ _ _)
     case m2=>first|exact⟨rfl,rfl,rfl⟩|(intro u P;simp at P;rcases P with rfl|rfl|rfl<;>rfl)
     case m3=>unfold maxLen;omega
     case m4=>omega
     case m5=>first|omega|(simp;omega)
     intro v7 w7 F X C;have Z:=hid ((G.bw (zO _ _)).app6 (M,y,m) F X (oU C));clear F X C H1 Hi Hj;go_wp2_with fail;go_roundw;case rel=>exact⟨k+1,J,oN,by rw [L.out];exact Z⟩
     case measure=>exact oE
    ·rw [show QaD t q M y=false from by rw [<- Bool.not_eq_true];exact fun h=>hB (Qco.1 h)];have L:Hid (s (k+1)=(E,(t,min y z,max m q),A)):=by
      refine hid ?_;rw [Ht.out];unfold QaE;simp only;rw [if_neg HA.out,if_neg hB]
     have Hw:=hid G.f1;have Ge:=hid G.f2;clear hB;have Hz:g≠w.heap.size:=oM;by_cases h1:y<z
     ·by_cases h2:q<m
      ·have d1:decide (y<z)=true:=(by simp;exact h1);have W:Hid (min y z=y):=hid oM;have d2:decide (q<m)=true:=(by simp;exact h2);have Hd:Hid (max m q=m):=hid oM;clear h1 h2;go_wp2_with fail;refine zR (S:=fun w'=>w'.cell? (Ua g (off+k*3+1))=Uq (Ud y)/\ w'.cell? (Ua w.heap.size 1)=Uq (Ud z)) ⟨Hi,Hk⟩ (fun qh=> ?_);refine tZ 0 42 ?_;refine tZ 1 43 ?_;refine tZ 2 44 ?_;refine tZ 3 45 ?_;refine tZ 4 46 ?_;refine tZ 5 47 ?_;refine tZ 6 48 ?_;refine tZ 7 49 ?_;refine zD ?_;clear qh;have f1:=Hw.out;obtain⟨O,o⟩:=zE ((R.setCell (Ua w.heap.size 1) (Ud y)).drew);have V:Hid (IL w O u5 u6 E t y q A):=o▸hid (G.set1 y).drew;have r2:O.cell? (Ua g (off+k*3+2))=Uq (Ud m):=o▸(UJ R (Ua w.heap.size 1) _ _ (fun e=>Hz e.symm)).trans Hj;go_wp2_with fail;try rw [o]
       try clear f1 o
       have t3:=V.c2;refine zR (S:=fun w'=>w'.cell? (Ua g (off+k*3+2))=Uq (Ud m)/\ w'.cell? (Ua w.heap.size 2)=Uq (Ud q)) ⟨r2,t3⟩ (fun qh=> ?_);refine tZ 0 56 ?_;refine tZ 1 57 ?_;refine tZ 2 58 ?_;refine tZ 3 59 ?_;refine tZ 4 60 ?_;refine tZ 5 61 ?_;refine tZ 6 62 ?_;refine tZ 7 63 ?_;refine zD ?_;clear qh;have f2:=V.f2;obtain⟨W4,Q⟩:=zE ((O.setCell (Ua w.heap.size 2) (Ud m)).drew);have T:Hid (IL w W4 u5 u6 E t y m A):=Q▸hid (V.set2 m).drew;go_wp2_with fail;try rw [Q]
       try clear f2 Q
       go_roundw;case rel=>exact⟨k+1,J,oN,by rw [L.out,W.out,Hd.out];exact T⟩
       case measure=>exact oE
      ·have d1:decide (y<z)=true:=(by simp;exact h1);have W:Hid (min y z=y):=hid oM;have d2:decide (q<m)=false:=oS;have Hd:Hid (max m q=q):=hid oM;clear h1 h2;go_wp2_with fail;refine zR (S:=fun w'=>w'.cell? (Ua g (off+k*3+1))=Uq (Ud y)/\ w'.cell? (Ua w.heap.size 1)=Uq (Ud z)) ⟨Hi,Hk⟩ (fun qh=> ?_);refine tZ 0 42 ?_;refine tZ 1 43 ?_;refine tZ 2 44 ?_;refine tZ 3 45 ?_;refine tZ 4 46 ?_;refine tZ 5 47 ?_;refine tZ 6 48 ?_;refine tZ 7 49 ?_;refine zD ?_;clear qh;have f1:=Hw.out;obtain⟨O,o⟩:=zE ((R.setCell (Ua w.heap.size 1) (Ud y)).drew);have V:Hid (IL w O u5 u6 E t y q A):=o▸hid (G.set1 y).drew;have r2:O.cell? (Ua g (off+k*3+2))=Uq (Ud m):=o▸(UJ R (Ua w.heap.size 1) _ _ (fun e=>Hz e.symm)).trans Hj;go_wp2_with fail;try rw [o]
       try clear f1 o
       have t3:=V.c2;refine zR (S:=fun w'=>w'.cell? (Ua g (off+k*3+2))=Uq (Ud m)/\ w'.cell? (Ua w.heap.size 2)=Uq (Ud q)) ⟨r2,t3⟩ (fun qh=> ?_);refine tZ 0 56 ?_;refine tZ 1 57 ?_;refine tZ 2 58 ?_;refine tZ 3 59 ?_;refine tZ 4 60 ?_;refine tZ 5 61 ?_;refine tZ 6 62 ?_;refine tZ 7 63 ?_;refine zD ?_;clear qh;obtain⟨W4,Q⟩:=zE O.drew;have T:Hid (IL w W4 u5 u6 E t y q A):=Q▸hid V.drew;go_wp2_with fail;try rw [Q]
       try clear Q
       go_roundw;case rel=>exact⟨k+1,J,oN,by rw [L.out,W.out,Hd.out];exact T⟩
       case measure=>exact oE
     ·by_cases h2:q<m
      ·have d1:decide (y<z)=false:=oS;have W:Hid (min y z=z):=hid oM;have d2:decide (q<m)=true:=(by simp;exact h2);have Hd:Hid (max m q=m):=hid oM;clear h1 h2;go_wp2_with fail;refine zR (S:=fun w'=>w'.cell? (Ua g (off+k*3+1))=Uq (Ud y)/\ w'.cell? (Ua w.heap.size 1)=Uq (Ud z)) ⟨Hi,Hk⟩ (fun qh=> ?_);refine tZ 0 42 ?_;refine tZ 1 43 ?_;refine tZ 2 44 ?_;refine tZ 3 45 ?_;refine tZ 4 46 ?_;refine tZ 5 47 ?_;refine tZ 6 48 ?_;refine tZ 7 49 ?_;refine zD ?_;clear qh;obtain⟨O,o⟩:=zE R.drew;have V:Hid (IL w O u5 u6 E t z q A):=o▸hid G.drew;have r2:O.cell? (Ua g (off+k*3+2))=Uq (Ud m):=o▸Hj;go_wp2_with fail;try rw [o]
       try clear o
       have t3:=V.c2;refine zR (S:=fun w'=>w'.cell? (Ua g (off+k*3+2))=Uq (Ud m)/\ w'.cell? (Ua w.heap.size 2)=Uq (Ud q)) ⟨r2,t3⟩ (fun qh=> ?_);refine tZ 0 56 ?_;refine tZ 1 57 ?_;refine tZ 2 58 ?_;refine tZ 3 59 ?_;refine tZ 4 60 ?_;refine tZ 5 61 ?_;refine tZ 6 62 ?_;refine tZ 7 63 ?_;refine zD ?_;clear qh;have f2:=V.f2;obtain⟨W4,Q⟩:=zE ((O.setCell (Ua w.heap.size 2) (Ud m)).drew);have T:Hid (IL w W4 u5 u6 E t z m A):=Q▸hid (V.set2 m).drew;go_wp2_with fail;try rw [Q]
       try clear f2 Q
       go_roundw;case rel=>exact⟨k+1,J,oN,by rw [L.out,W.out,Hd.out];exact T⟩
       case measure=>exact oE
      ·have d1:decide (y<z)=false:=oS;have W:Hid (min y z=z):=hid oM;have d2:decide (q<m)=false:=oS;have Hd:Hid (max m q=q):=hid oM;clear h1 h2;go_wp2_with fail;refine zR (S:=fun w'=>w'.cell? (Ua g (off+k*3+1))=Uq (Ud y)/\ w'.cell? (Ua w.heap.size 1)=Uq (Ud z)) ⟨Hi,Hk⟩ (fun qh=> ?_);refine tZ 0 42 ?_;refine tZ 1 43 ?_;refine tZ 2 44 ?_;refine tZ 3 45 ?_;refine tZ 4 46 ?_;refine tZ 5 47 ?_;refine tZ 6 48 ?_;refine tZ 7 49 ?_;refine zD ?_;clear qh;obtain⟨O,o⟩:=zE R.drew;have V:Hid (IL w O u5 u6 E t z q A):=o▸hid G.drew;have r2:O.cell? (Ua g (off+k*3+2))=Uq (Ud m):=o▸Hj;go_wp2_with fail;try rw [o]
       try clear o
       have t3:=V.c2;refine zR (S:=fun w'=>w'.cell? (Ua g (off+k*3+2))=Uq (Ud m)/\ w'.cell? (Ua w.heap.size 2)=Uq (Ud q)) ⟨r2,t3⟩ (fun qh=> ?_);refine tZ 0 56 ?_;refine tZ 1 57 ?_;refine tZ 2 58 ?_;refine tZ 3 59 ?_;refine tZ 4 60 ?_;refine tZ 5 61 ?_;refine tZ 6 62 ?_;refine tZ 7 63 ?_;refine zD ?_;clear qh;obtain⟨W4,Q⟩:=zE O.drew;have T:Hid (IL w W4 u5 u6 E t z q A):=Q▸hid V.drew;go_wp2_with fail;try rw [Q]
       try clear Q
       go_roundw;case rel=>exact⟨k+1,J,oN,by rw [L.out,W.out,Hd.out];exact T⟩
       case measure=>exact oE
  ·obtain rfl:k=n:=oM;have Hu:=Hx k zL;generalize Hp:s k=sk at*;obtain⟨E,⟨t,z,q⟩,A⟩:=sk;simp only at U Hu;obtain⟨c0,c1,N⟩:=U.q3;have zr:=U.sz;clear Hp He;go_wp2_with (at_builtin;refine Qar rfl _ _ 24 rfl (w.heap.size+1) 89 i0 _ 3 24 underlying24 hi Hq Hr Hs rfl oD _ _ _ rfl (World.ownsRow.alloc U.b _) (Ub wr.heap.size) 1 1 [Ud t,Ud z,Ud q] rfl rfl ?o1 ?o2 ?o3 ?o4 ?o5 ?_);try (case o1=>exact QaB _ _ _ _ _)
   case o2=>first|exact⟨rfl,rfl,rfl⟩|(intro u P;simp at P;rcases P with rfl|rfl|rfl<;>rfl)
   case o3=>unfold maxLen;omega
   case o4=>omega
   case o5=>first|omega|(simp;omega)
   intro v7 w7 F X C;have Z:=hid ((U.bw (zO _ _)).app5 (t,z,q) F X (oU C));clear F X C c0 c1 N U;have Hv:=Z.na;have H4:=hid Z.a;have Gh:=Z.sz;rcases Z.a.2 with ⟨e,_⟩|⟨g6,c6,Gc,e,_,_,Gg,Gd,_,_⟩
   ·rw [e] at Hv;exact absurd rfl Hv
   subst e;unfold maxLen at Gd;have H7:Hid (∀j u,(Qaf A)[j]? =Uq u ->w7.cell? (((Ub g6):Us).add j)=Uq u):=hid (World.ownsRow.cells H4 rfl);clear Hv;go_wp2_with (at_builtin;refine Qar rfl _ _ 24 rfl (w.heap.size+1) 89 i0 _ 3 24 underlying24 hi Hq Hr Hs rfl oD v7 (E++[(t,z,q)]).length (Qaf (E++[(t,z,q)])) rfl Z.b (Ub g6) A.length c6 (Qaf A) rfl (Qdk A) H7 (QeH A) ?r3 ?r4 ?r5 ?_);case r3=>unfold maxLen;simp;omega
   case r4=>simp;omega
   case r5=>omega
   intro v8 w8 Hb Hn Ho;have H6:Hid (Bl w w8):=hid (Z.bel.grown Hn oM (fun k B=>oH ((World.ownsRow.lt Z.b k B).1)));have H8:Hid (FR w8 w.heap.size v8 (E++[(t,z,q)]++A)):=by
    refine hid ?_;unfold FR;rw [Qbp,UB,show (E++[(t,z,q)]).length=E.length+1 from by simp];obtain⟨q1,q2⟩:=Hb;refine⟨q1,q2.imp id ?_⟩;rintro⟨g,cap,Gb,e,hg,r⟩;exact⟨g,cap,Gb,e,oM,r⟩
   clear Hb Hn Ho;go_wp2_with fail;go_ret;exact⟨v8,rfl,by rw [HE.out];exact H8,H6⟩
theorem QfL (a:Option Us)(c:Nat)(l:List Rn)(rr rf rt:Int)(w:Ur)(hn:l.length<=100000)(h:FS w a l)(hl:Qcy l)(hr:Rok (rr,rf,rt)):
  Cl 85 #[Uf a l.length c,Uo #[Ud rr,Ud rf,Ud rt]] w fun e w'=>∃v,e=Ui v/\ FR w' w.heap.size v (ins l (rr,rf,rt))/\ Bl w w':=Qln a c l rr rf rt w hn h (fun p hp=>(hl.2 p hp).bnd) hr.bnd
theorem QaH.size_le {w:Ur}{D:DataW Value}{G:Int ->Value}(h:QaH w bm n D G L):Maps.size D<=n:=h.own.size_le
def unL (R F T:Nat ->Int)(n:Nat)(R' F' T':Nat ->Int)(n':Nat):List Rn:=unF (flat R F T n) (flat R' F' T' n')
end Go.Proofs.YtmlmkaiibamabaaGreatDoor
