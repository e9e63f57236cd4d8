import Derived.Test.YtedpomikcaemgaaGreatDoorHsg01
import Derived.Shelf.SlSortCmp.WholeK
import Derived.Lib.SlicesCompact
import Derived.Laws.BitsAllLaws
import Derived.Lib.AppendStr
import Derived.Laws.IdiomStrings
import Derived.Laws.BytesArg
import Derived.Laws.Concat
set_option linter.unusedVariables false
set_option linter.unusedSimpArgs false
set_option maxRecDepth 100000
set_option maxHeartbeats 40000000
namespace Go.Proofs.YtedpomikcaemgaaGreatDoor
open Go.ChangeShapes Go.WideShapes Go.ChangeAt Go.RowKit Go.Maps Go.Proofs.Tryz
open Go.Value renaming slice → Uf, int → Ug, tuple → Ul, string → Um, bool → Un, agg → Uo
open Go.IntKind renaming i64 → Uh
open Go.Ending renaming returned → Ui
open Go.Obj renaming cells → Uj
open Option renaming none → Up, some → Uq
open Go renaming World → Ur, Addr → Us
open Nat renaming zero_le → Uv, le_trans → Ux, lt_of_lt_of_le → Ut, add_sub_cancel → Uz, zero_add → Uw, pow_succ → Va, le_refl → Uu, eq_zero_or_pos → Vb, add_zero → Vc
open Int renaming natCast_nonneg → UZ
open Go.World renaming cell?_setCell_same → UH, cell?_setCell_other → UI, frozen?_setCell → UG, setCell → UC, cell?_of_block → UB
open List renaming pairwise_iff_getElem → Vd, mem_singleton → UV, range → UT, getD → UR, ext_getElem? → Ve, getElem?_take_of_lt → Vf, getElem?_eq_none → US, length_append → Vg, length_cons → Vh, take_prefix → Vi, mem_of_getLast? → Vj, mem_append → Vk, getElem?_set_ne → UP, map_append → Vl, map_cons → Vm, mem_map → Vn, map_nil → Vo, length_singleton → Vp, range_succ → Vq, map_congr_left → Vr, sum_cons → Vs, mem_cons_self → Vt, getElem?_set_self → UQ
variable {B C b bm e g hi i j k lo m n off:Nat}{F R T f:Nat ->Int}{P:Program}{a:Act}{b' b0 u v v' v0 v1 v2 x':Value}{l:List Lf}{p q:List ByteArray}{s:ByteArray}{t t':TypeId}{w w' w1:Ur}{x:Lf}{y:Ky}{zs:List Int}
theorem QkS.bw{D:DataW Value}(h:QkS w bm k l D)(hb:Bl w w1):QkS w1 bm k l D:=
 ⟨h.own.kept ⟨hb.os,hb.tape,hb.output,hb.size,fun k hk _=>hb.block k hk⟩ (by simp:Uq bm≠Up),h.tidy,h.has',h.le,h.eq⟩
def Qox (R F T:Nat ->Int)(n:Nat)(l:List Lf):Prop:=l.length<=1000/\ QbU R F T n l l.length/\ Dis l l.length
theorem QhZ (a:Option Us)(c:Nat)(l:List Lf)(bm n:Nat)(M:DataW Value)(G:Int ->Value)(R F T:Nat ->Int)(w:Ur)(hn:l.length<=1048576)(hp:LBd l)(hi:∀i,LfI (gL l i))(h:QbK w a l)
  (hG:QaM w bm n M G (Lk R F T n)) (hs:∀r,Srt (Lk R F T n r)) (hl:∀r,(Lk R F T n r).length<=1000000):
  Cl 157 #[Uf a l.length c,.map (Uq bm)] w (Rt w (Un (yes (Qox R F T n l)))):=by
 have Gg:=@run_makeMap prog;obtain⟨Y,hY⟩:=zE (yes (Qox R F T n l));have HY:=hid hY;rw [hY];clear hY;have HL:=hid h;have HG:=hid hG;clear h hG;by_cases Hk:(1000:Int)<(l.length:Int)
 ·have d0:decide ((1000:Int)<(l.length:Int))=true:=oU Hk;have Q:Hid (Y=false):=hid (by rw [<- HY.out];exact Qaj (fun h=>oH h.1));go_enter func157,ntmps157;go_wp2_with fail;go_ret;exact⟨Qa8 Q.symm,zI⟩
 ·have d0:decide ((1000:Int)<(l.length:Int))=false:=oU Hk;go_enter func157,ntmps157;go_wp2_with fail;clear d0;have H5:=hid (QkS.made w l);have H1:Hid (Bl w (w.alloc (.map #[] 0))):=hid (zO _ _);go_loopw [14] (fun i wr=>∃k:Nat,k<=l.length/\ i=Ud k/\ Hid (Bl w wr)/\ (∃D,Hid (QkS wr w.heap.size k l D))/\ Hid (QbU R F T n l k)) (fun i _=>l.length - (intOf i).toNat);case atStart=>exact⟨0,Uv _,rfl,H1,⟨_,H5⟩,hid (fun i hi=>oM)⟩
  case round=>
   clear H5 H1 Gg;obtain⟨k,hk,rfl,V,⟨D,Hh⟩,HI⟩:=hrel;by_cases Hn:k<l.length
   ·rcases HL.out with h|⟨b,off,rfl,S,hc⟩
    ·omega
    obtain⟨pa,pc,c0,s,c1,c2,c3,c4⟩:=hc k Hn;have x0:=(V.cell (p:=(Ua b (off+k*5))) S).trans c0;have x1:=(V.cell (p:=(Ua b (off+k*5+1))) S).trans c1;have x2:=(V.cell (p:=(Ua b (off+k*5+2))) S).trans c2;have x3:=(V.cell (p:=(Ua b (off+k*5+3))) S).trans c3;have x4:=(V.cell (p:=(Ua b (off+k*5+4))) S).trans c4;have HS:=hid (s.bw V);have i1:(0:Int)<=(k:Int):=UZ _;have i2:(k:Int)<(l.length:Int):=oM;have Gc:=hid hc;have zr:w.heap.size<=wr.heap.size:=V.size;have C:=hi k;clear hc c0 c1 c2 c3 c4 s;obtain⟨y,hy⟩:=zE (gL l k);have Ho:=hp k;rw [hy] at HS x0 x1 x2 x3 x4 Ho C;have I:=hid hy;clear hy;obtain⟨p,O,r,q,v⟩:=y;dsimp only [LfI] at HS x0 x1 x2 x3 x4 Ho C;go_wp2_with fail;obtain⟨Z,Hm⟩:=zE (wr.alloc (Uj #[Uf pa p.length pc,Un O,Ud r,Ud q,Um v] 117));have b2:Bl wr Z:=Hm▸zO _ _;have B5:Bx5 Z wr.heap.size (Uf pa p.length pc) (Un O) (Ud r) (Ud q) (Um v):=(by rw [<- Hm];exact⟨oP,oP,oP,oP,oP,fun i=>oP,oP⟩);obtain⟨y0,y1,y2,y3,y4⟩:=B5.q5;have g:=B5.lt;have Hc:=hid b2;have m:=hid (V.trans (b2.mono V.size));have H6:=hid (HS.bw b2);have Ge:=hid (HG.bw m);rw [Hm];clear Hm b2 B5 x0 x1 x2 x3 x4 HS;have E:Hid (¬(Qc0 ⟨p,O,r,q,v⟩/\ QbD R F T r q q n=true/\ (0<k ->QaQ (gL l (k - 1)) ⟨p,O,r,q,v⟩<0)) ->Y=false):=hid (fun no=>by
     rw [<- HY.out];exact Qaj (fun h=>no (by have:=h.2.1 k Hn;rw [I.out] at this;exact this)))
    obtain⟨Y1,Hx⟩:=zE (yes (Qc0 ⟨p,O,r,q,v⟩));have Hl:=hid Hx;have H4:=hid (fun W(hB:Bl Z W)=>Hx▸Qp2 pa pc p O r q v W Ho (H6.bw hB));obtain⟨A,hA⟩:=zE (QbD R F T r q q n);have HA:=hid hA;have H3:Hid (∀W,Bl Z W ->Cl 178 #[.map (Uq bm),Uo #[Ud r,Ud q]] W (Rt W (Un A))):=hid (fun W hB=>by rw [<- hA,<- Qf5];exact Qqx (Ge.bw hB) r q C.1 (hs r) (hl r));clear Hx hA;by_cases H9:k=0
    ·have d2:decide ((0:Int)<(k:Int))=false:=oS;have d3:decide (0<k)=false:=oS;have Hd:Hid (0<k ->QaQ (gL l (k - 1)) ⟨p,O,r,q,v⟩<0):=hid (fun h=>oM);clear H9;have u:Hid (∀w',Bl Z w' ->(Bl Z w'/\ w'.cell? (Ub wr.heap.size)=Uq (Uf pa p.length pc)/\ w'.cell? (Ua wr.heap.size 1)=Uq (Un O)/\ w'.cell? (Ua wr.heap.size 2)=Uq (Ud r)/\ w'.cell? (Ua wr.heap.size 3)=Uq (Ud q)/\ w'.cell? (Ua wr.heap.size 4)=Uq (Um v))):=hid (fun w' hB=>⟨hB,(hB.cell (p:=(Ub wr.heap.size)) g).trans y0,(hB.cell (p:=(Ua wr.heap.size 1)) g).trans y1,(hB.cell (p:=(Ua wr.heap.size 2)) g).trans y2,(hB.cell (p:=(Ua wr.heap.size 3)) g).trans y3,(hB.cell (p:=(Ua wr.heap.size 4)) g).trans y4⟩);refine zS u (fun qh=> ?_);refine tZ 0 19 ?_;refine cZ 1 ?_;intro K z;go_simp;refine(H4 _ qh.1).mono ?_;rintro e w3 ⟨rfl,b3⟩;have Hi:=qh.1.trans (b3.mono qh.1.size);refine z.out _ _ (u _ Hi) (fun qh=> ?_);clear z K;try simp only [zP]
     cases Y1 with
     | false=>
      refine tZ 2 21 ?_;refine tZ 3 22 ?_;refine uZ 4 23 ?_;refine uZ 5 24 ?_;refine uZ 6 25 ?_;refine uZ 7 26 ?_;refine uZ 8 27 ?_;refine tZ 9 28 ?_;refine tZ 10 29 ?_;refine uZ 11 30 ?_;refine uZ 12 31 ?_;refine uZ 13 32 ?_;refine uZ 14 33 ?_;refine uZ 15 34 ?_;refine uZ 16 35 ?_;refine uZ 17 36 ?_;refine uZ 18 37 ?_;refine uZ 19 38 ?_;refine uZ 20 39 ?_;refine uZ 21 40 ?_;refine uZ 22 41 ?_;refine tZ 23 42 ?_;refine zD ?_;have Q:=hid (E (fun h=>by have:=Qal h.1;rw [Hl.out] at this;cases this));have U:=hid (m.trans (Hi.mono m.size));clear qh u E;go_wp2_with fail;go_ret;exact⟨Qa8 Q.symm,U⟩
     | true=>
      refine tZ 2 21 ?_;refine tZ 3 22 ?_;refine tZ 4 23 ?_;refine tZ 5 24 ?_;refine tZ 6 25 ?_;refine cZ 7 ?_;intro K z;go_simp;refine(H3 _ qh.1).mono ?_;rintro e w4 ⟨rfl,b4⟩;have J:=qh.1.trans (b4.mono qh.1.size);refine z.out _ _ (u _ J) (fun qh=> ?_);clear z K;try simp only [zP]
      cases A with
      | false=>
       refine tZ 8 27 ?_;refine tZ 9 28 ?_;refine tZ 10 29 ?_;refine uZ 11 30 ?_;refine uZ 12 31 ?_;refine uZ 13 32 ?_;refine uZ 14 33 ?_;refine uZ 15 34 ?_;refine uZ 16 35 ?_;refine uZ 17 36 ?_;refine uZ 18 37 ?_;refine uZ 19 38 ?_;refine uZ 20 39 ?_;refine uZ 21 40 ?_;refine uZ 22 41 ?_;refine tZ 23 42 ?_;refine zD ?_;have Q:=hid (E (fun h=>by have:=h.2.1;rw [HA.out] at this;cases this));have U:=hid (m.trans (J.mono m.size));clear qh u E;go_wp2_with fail;go_ret;exact⟨Qa8 Q.symm,U⟩
      | true=>
       refine tZ 8 27 ?_;refine tZ 9 28 ?_;refine tZ 10 29 ?_;refine tZ 11 30 ?_;refine tZ 12 31 ?_;refine tZ 13 32 ?_;refine uZ 14 33 ?_;refine uZ 15 34 ?_;refine uZ 16 35 ?_;refine uZ 17 36 ?_;refine uZ 18 37 ?_;refine uZ 19 38 ?_;refine uZ 20 39 ?_;refine uZ 21 40 ?_;refine tZ 22 41 ?_;refine tZ 23 42 ?_;refine zD ?_;have Hq:=hid J;have y2:=(J.cell (p:=(Ua wr.heap.size 2)) g).trans y2;have y3:=(J.cell (p:=(Ua wr.heap.size 3)) g).trans y3;obtain⟨kl,B⟩:=QdY C.1 C.2;have Hu:=hid B;have N:=Hh.bw (Hc.trans (J.mono Hc.size));have Ha:=N.own;have Hg:plainElem (H:=Value) prog 3 (Ud (k:Int))=Uq (.lit (.int Uh (k:Int)),[]):=plainElem_int underlying3 (wfI oM oM);have Hf:keyOf prog 115 (Uo #[Ud r,Ud q])=Uq kl:=B;have Hr:=hid N;clear qh u E N B;go_wp2_with (refine wpList_mapUpdate_own _ rfl _ _ _ 280 rfl 115 3 Qat underlying280 (plainElem prog 3) (w.heap.size) k D rfl Ha oL _ _ kl rfl rfl Hf (.lit (.int Uh (k:Int))) [] Hg ?_;intro w6 Hb He);have Hs:=hid (Hr.step (by rw [I.out];exact Hu) Hb);have Hj:=m.trans (Hq.mono m.size);have Hp:=hid (Hj.grown He Hj.size (fun t e=>oI e));have HN:Hid (QbU R F T n l (k+1)):=hid (HI.step (by rw [I.out];exact QcJ.1 Hl) (by rw [I.out];exact HA) (fun h=>by rw [I.out];exact Hd h));go_roundw;case rel=>exact⟨k+1,Hn,oN,Hp,⟨_,Hs⟩,HN⟩
       case measure=>exact oE
    ·obtain⟨j,hj⟩:∃j,k=j+1:=⟨k - 1,oM⟩;obtain⟨Ga,Gb,c0,s',c1,c2,c3,c4⟩:=Gc j oM;have L:=fun(o:Nat)=>m.cell (p:=(Ua b o)) S;have j0:=(L _).trans c0;have j1:=(L _).trans c1;have j2:=(L _).trans c2;have j3:=(L _).trans c3;have j4:=(L _).trans c4;have Hv:=hid (s'.bw m);have Hy:=hp j;obtain⟨y',H0⟩:=zE (gL l j);rw [H0] at j0 j1 j2 j3 j4 Hv Hy;have H2:=hid H0;obtain⟨p',Hw,r',L,v'⟩:=y';dsimp only at j0 j1 j2 j3 j4 Hv Hy;have zb:b<Z.heap.size:=oH m.size;have d2:decide ((0:Int)<(k:Int))=true:=oS;have d3:decide (0<k)=true:=oS;have Hz:(k:Int) - 1=(j:Int):=oM;have Gh:IntKind.i64.wrap (j:Int)=(j:Int):=(by rw [IntKind.wrap_i64];omega);have Gi:IntKind.i64.wrap ((k:Int) - 1)=(j:Int):=(by rw [Hz];exact Gh);have q1:(0:Int)<=(j:Int):=UZ _;have q2:(j:Int)<(l.length:Int):=oM;have Ht:=hid hj;obtain⟨X,hX⟩:=zE (QaQ ⟨p',Hw,r',L,v'⟩ ⟨p,O,r,q,v⟩);have H7:=hid hX;have Gd:=hid (fun W(hB:Bl Z W)=>hX▸Qfx Ga pa Gb pc p' p Hw O r' L r q v' v W Hy Ho (Hv.bw hB) (H6.bw hB));clear hX hj H9 c0 c1 c2 c3 c4 s' H0;have u:Hid (∀w',Bl Z w' ->(Bl Z w'/\ w'.cell? (Ub wr.heap.size)=Uq (Uf pa p.length pc)/\ w'.cell? (Ua wr.heap.size 1)=Uq (Un O)/\ w'.cell? (Ua wr.heap.size 2)=Uq (Ud r)/\ w'.cell? (Ua wr.heap.size 3)=Uq (Ud q)/\ w'.cell? (Ua wr.heap.size 4)=Uq (Um v)/\ w'.cell? (Ua b (off+j*5))=Uq (Uf Ga p'.length Gb)/\ w'.cell? (Ua b (off+j*5+1))=Uq (Un Hw)/\ w'.cell? (Ua b (off+j*5+2))=Uq (Ud r')/\ w'.cell? (Ua b (off+j*5+3))=Uq (Ud L)/\ w'.cell? (Ua b (off+j*5+4))=Uq (Um v'))):=hid (fun w' hB=>⟨hB,(hB.cell (p:=(Ub wr.heap.size)) g).trans y0,(hB.cell (p:=(Ua wr.heap.size 1)) g).trans y1,(hB.cell (p:=(Ua wr.heap.size 2)) g).trans y2,(hB.cell (p:=(Ua wr.heap.size 3)) g).trans y3,(hB.cell (p:=(Ua wr.heap.size 4)) g).trans y4,(hB.cell (p:=(Ua b (off+j*5))) zb).trans j0,(hB.cell (p:=(Ua b (off+j*5+1))) zb).trans j1,(hB.cell (p:=(Ua b (off+j*5+2))) zb).trans j2,(hB.cell (p:=(Ua b (off+j*5+3))) zb).trans j3,(hB.cell (p:=(Ua b (off+j*5+4))) zb).trans j4⟩);refine zS u (fun qh=> ?_);refine tZ 0 19 ?_;refine cZ 1 ?_;intro K z;go_simp;refine(H4 _ qh.1).mono ?_;rintro e w3 ⟨rfl,b3⟩;have Hi:=qh.1.trans (b3.mono qh.1.size);refine z.out _ _ (u _ Hi) (fun qh=> ?_);clear z K;try simp only [zP]
     cases Y1 with
     | false=>
      refine tZ 2 21 ?_;refine tZ 3 22 ?_;refine uZ 4 23 ?_;refine uZ 5 24 ?_;refine uZ 6 25 ?_;refine uZ 7 26 ?_;refine uZ 8 27 ?_;refine tZ 9 28 ?_;refine tZ 10 29 ?_;refine uZ 11 30 ?_;refine uZ 12 31 ?_;refine uZ 13 32 ?_;refine uZ 14 33 ?_;refine uZ 15 34 ?_;refine uZ 16 35 ?_;refine uZ 17 36 ?_;refine uZ 18 37 ?_;refine uZ 19 38 ?_;refine uZ 20 39 ?_;refine uZ 21 40 ?_;refine uZ 22 41 ?_;refine tZ 23 42 ?_;refine zD ?_;have Q:=hid (E (fun h=>by have:=Qal h.1;rw [Hl.out] at this;cases this));have U:=hid (m.trans (Hi.mono m.size));clear qh u E;go_wp2_with fail;go_ret;exact⟨Qa8 Q.symm,U⟩
     | true=>
      refine tZ 2 21 ?_;refine tZ 3 22 ?_;refine tZ 4 23 ?_;refine tZ 5 24 ?_;refine tZ 6 25 ?_;refine cZ 7 ?_;intro K z;go_simp;refine(H3 _ qh.1).mono ?_;rintro e w4 ⟨rfl,b4⟩;have J:=qh.1.trans (b4.mono qh.1.size);refine z.out _ _ (u _ J) (fun qh=> ?_);clear z K;try simp only [zP]
      cases A with
      | false=>
       refine tZ 8 27 ?_;refine tZ 9 28 ?_;refine tZ 10 29 ?_;refine uZ 11 30 ?_;refine uZ 12 31 ?_;refine uZ 13 32 ?_;refine uZ 14 33 ?_;refine uZ 15 34 ?_;refine uZ 16 35 ?_;refine uZ 17 36 ?_;refine uZ 18 37 ?_;refine uZ 19 38 ?_;refine uZ 20 39 ?_;refine uZ 21 40 ?_;refine uZ 22 41 ?_;refine tZ 23 42 ?_;refine zD ?_;have Q:=hid (E (fun h=>by have:=h.2.1;rw [HA.out] at this;cases this));have U:=hid (m.trans (J.mono m.size));clear qh u E;go_wp2_with fail;go_ret;exact⟨Qa8 Q.symm,U⟩
      | true=>
       refine tZ 8 27 ?_;refine tZ 9 28 ?_;refine tZ 10 29 ?_;refine tZ 11 30 ?_;refine tZ 12 31 ?_;refine tZ 13 32 ?_;refine tZ 14 33 ?_;refine tZ 15 34 ?_;refine tZ 16 35 ?_;refine tZ 17 36 ?_;refine tZ 18 37 ?_;refine tZ 19 38 ?_;refine cZ 20 ?_;intro K z;go_simp;refine(Gd _ qh.1).mono ?_;rintro e w5 ⟨rfl,b5⟩;have P:=qh.1.trans (b5.mono qh.1.size);refine z.out _ _ (u _ P) (fun qh=> ?_);clear z K;try simp only [zP]
       by_cases H8:(0:Int)<=X
       ·have d4:decide ((0:Int)<=X)=true:=oU H8;refine tZ 21 40 ?_;refine tZ 22 41 ?_;refine tZ 23 42 ?_;refine zD ?_;have Q:=hid (E (fun h=>by have e:=h.2.2 (oH Ht);rw [show k - 1=j by have:=Ht.out;omega,H2,H7.out] at e;omega));have U:=hid (m.trans (P.mono m.size));clear qh u E;go_wp2_with fail;go_ret;exact⟨Qa8 Q.symm,U⟩
       ·have d4:decide ((0:Int)<=X)=false:=oU H8;have Hd:Hid (0<k ->QaQ (gL l (k - 1)) ⟨p,O,r,q,v⟩<0):=hid (fun _=>by rw [show k - 1=j by have:=Ht.out;omega,H2,H7.out];omega);refine tZ 21 40 ?_;refine tZ 22 41 ?_;refine tZ 23 42 ?_;refine zD ?_;have Hq:=hid P;have y2:=(P.cell (p:=(Ua wr.heap.size 2)) g).trans y2;have y3:=(P.cell (p:=(Ua wr.heap.size 3)) g).trans y3;obtain⟨kl,B⟩:=QdY C.1 C.2;have Hu:=hid B;have N:=Hh.bw (Hc.trans (P.mono Hc.size));have Ha:=N.own;have Hg:plainElem (H:=Value) prog 3 (Ud (k:Int))=Uq (.lit (.int Uh (k:Int)),[]):=plainElem_int underlying3 (wfI oM oM);have Hf:keyOf prog 115 (Uo #[Ud r,Ud q])=Uq kl:=B;have Hr:=hid N;clear qh u E N B;go_wp2_with (refine wpList_mapUpdate_own _ rfl _ _ _ 280 rfl 115 3 Qat underlying280 (plainElem prog 3) (w.heap.size) k D rfl Ha oL _ _ kl rfl rfl Hf (.lit (.int Uh (k:Int))) [] Hg ?_;intro w6 Hb He);have Hs:=hid (Hr.step (by rw [I.out];exact Hu) Hb);have Hj:=m.trans (Hq.mono m.size);have Hp:=hid (Hj.grown He Hj.size (fun t e=>oI e));have HN:Hid (QbU R F T n l (k+1)):=hid (HI.step (by rw [I.out];exact QcJ.1 Hl) (by rw [I.out];exact HA) (fun h=>by rw [I.out];exact Hd h));go_roundw;case rel=>exact⟨k+1,Hn,oN,Hp,⟨_,Hs⟩,HN⟩
        case measure=>exact oE
   ·obtain rfl:k=l.length:=oM;have Ha:=Hh.own;have Gf:Hid (Y=((Maps.size D:Int)==(l.length:Int))):=hid (by
     rw [<- HY.out];by_cases e:Maps.size D=l.length
     ·rw [Qal ⟨oM,HI.out,fun i hi j hj=>Hh.eq.1 e i hi j hj⟩,e];simp
     ·rw [Qaj (fun h=>e (Hh.eq.2 (fun i hi j hj=>h.2.2 i hi j hj)))];symm;simp;omega)
    have U:=hid V;go_wp2_with (refine wpList_len_own _ rfl _ 280 rfl 115 3 underlying280 _ _ _ _ rfl Ha ?_);go_ret;exact⟨Qa8 Gf.symm,U⟩
theorem Qkp (a:Option Us)(c:Nat)(l:List Lf)(x:Option Us)(n d:Nat)(R F T:Nat ->Int)(w:Ur)(hn:l.length<=1048576)(hp:LBd l)(hi:∀i,LfI (gL l i))(hm:n<=1048576)(h:QbK w a l)(h':QaD w x n R F T):
  Cl 137 #[Uo #[Uf a l.length c,Uf x n d]] w fun e w'=>(∃M,e=Ui (Ul #[M,Un (yes (Qcn R F T n l))]))/\ Bl w w':=by
 obtain⟨W,k⟩:=zE (w.alloc (Uj #[Uf a l.length c,Uf x n d] 40));have q:Bl w W:=k▸zO _ _;have U:w.heap.size<W.heap.size:=k▸oP;have k0:W.cell? (Ub w.heap.size)=Uq (Uf a l.length c):=k▸oP;have Q:W.cell? (Ua w.heap.size 1)=Uq (Uf x n d):=k▸oP;have V:=hid (h.bw q);have s:=hid (h'.bw q);have g:=hid q;clear h h' q;obtain⟨Y,y⟩:=zE (yes (Qcn R F T n l));have u:=hid y;rw [y];clear y;cases hcx:QdC R F T n with
 | false=>
  have b:Hid (Y=false):=hid (by rw [<- u.out];exact Qaj (fun h=>by have:=h.1;rw [hcx] at this;cases this));have m:=hid (QlA x n d R F T W hm s hcx);have J:=b.out;clear hcx b u;subst J;go_enter func137,ntmps137;go_wp2_with fail;try rw [k]
  clear k;refine m.mono ?_;rintro e w1 ⟨rfl,j⟩;have L:=(j.cell (p:=(Ub w.heap.size)) U).trans k0;have v:=hid (Qaa g j);clear j m k0 Q;go_wp2_with fail;go_ret2;exact⟨⟨_,rfl⟩,v⟩
 | true=>
  have z:=Qax.1 hcx;have m:=hid (Qp9 x n d R F T W hm s hcx);have H:Hid (∀r,Srt (Lk R F T n r)):=hid (fun r=>(QbT n z.1 r).1);have Z:Hid (∀r,(Lk R F T n r).length<=1000000):=hid (fun r=>oJ (Qbz R F T n r) z.2);have o:Hid (Y=yes (Qox R F T n l)):=hid (by
   rw [<- u.out];by_cases e:Qox R F T n l
   ·rw [Qal e,Qal ⟨hcx,e.1,e.2.1,e.2.2⟩]
   ·rw [Qaj e,Qaj (fun h=>e ⟨h.2.1,h.2.2.1,h.2.2.2⟩)])
  clear z hcx;go_enter func137,ntmps137;go_wp2_with fail;try rw [k]
  clear k;refine m.mono ?_;rintro e w1 ⟨I,D,G,rfl,O,K,j⟩;have L:=(j.cell (p:=(Ub w.heap.size)) U).trans k0;have t:=hid (QhZ a c l I n D G R F T w1 hn hp hi (V.bw j) O H Z);have v:=hid (Qaa g j);clear j m k0 Q O K;go_wp2_with fail;refine t.mono ?_;rintro e w2 ⟨rfl,E⟩;have A:=hid (Qaa v E);rw [<- o.out];clear E t o;cases Y with
  | true=>
   go_wp2_with fail;go_ret2;exact⟨⟨_,rfl⟩,A⟩
  | false=>
   go_wp2_with fail;go_ret2;exact⟨⟨_,rfl⟩,A⟩
noncomputable def Mk (l:List Lf):Nat ->List Ky ->Dt ->Option ByteArray
 | 0=>fun _ _=>Up
 | k+1=>QkV (Mk l k) (Qad (gL l k).p (kd (gL l k).fl)) ((gL l k).r,(gL l k).q) (gL l k).v
def Way (x:Lf):List Ky:=Qad x.p (kd x.fl)
theorem QeL {l:List Lf}{p:List Ky}{d:Dt}:∀{k:Nat},Mk l k p d≠Up↔∃j,j<k/\ Way (gL l j)=p/\ ((gL l j).r,(gL l j).q)=d
 | 0=>⟨fun h=>absurd rfl h,fun⟨j,m,_⟩=>oM⟩
 | k+1=>by
  have g:=QeL (l:=l) (p:=p) (d:=d) (k:=k);simp only [Mk];by_cases e:p=Qad (gL l k).p (kd (gL l k).fl)
  ·rw [e,QbI,<- e];by_cases y:d=((gL l k).r,(gL l k).q)
   ·rw [y,Qaw];exact⟨fun _=>⟨k,oM,e.symm,rfl⟩,fun _ h=>by cases h⟩
   ·rw [Qao _ _ y,g];constructor
    ·rintro⟨j,m,r⟩;exact⟨j,oM,r⟩
    ·rintro⟨j,m,u,v⟩;by_cases z:j=k
     ·subst z;exact absurd v.symm y
     ·exact⟨j,oM,u,v⟩
  ·rw [Qbb _ _ _ e,g];constructor
   ·rintro⟨j,m,r⟩;exact⟨j,oM,r⟩
   ·rintro⟨j,m,u,v⟩;by_cases z:j=k
    ·subst z;exact absurd u.symm e
    ·exact⟨j,oM,u,v⟩
def NkI (l:List Lf)(k:Nat)(N:List Ky ->Option (Nat×Nat)):Prop:=∀z,(N z).isSome=true↔z=[] \/∃j,j<k/\ z <+:Way (gL l j)
theorem Qkq (a:Option Us)(c:Nat)(l:List Lf)(x:Option Us)(n d:Nat)(R F T:Nat ->Int)(w:Ur)(hn:l.length<=1048576)(hp:LBd l)(hi:∀i,LfI (gL l i))(hm:n<=1048576)(h:QbK w a l)(h':QaD w x n R F T)(hok:Qcn R F T n l):
  Cl 137 #[Uo #[Uf a l.length c,Uf x n d]] w fun e w'=>(∃j D G,e=Ui (Ul #[.map (Uq j),Un true])/\ QaM w' j n D G (Lk R F T n)/\ w.heap.size<=j)/\ Bl w w':=by
 obtain⟨W,k⟩:=zE (w.alloc (Uj #[Uf a l.length c,Uf x n d] 40));have m:Bl w W:=k▸zO _ _;have A:w.heap.size<W.heap.size:=k▸oP;have k0:W.cell? (Ub w.heap.size)=Uq (Uf a l.length c):=k▸oP;have J:W.cell? (Ua w.heap.size 1)=Uq (Uf x n d):=k▸oP;have U:=hid (h.bw m);have Y:=hid (h'.bw m);have E:=hid m;clear h h' m;have v:=hok.1;have z:=Qax.1 v;have o:=hid (Qp9 x n d R F T W hm Y v);have Z:Hid (∀r,Srt (Lk R F T n r)):=hid (fun r=>(QbT n z.1 r).1);have V:Hid (∀r,(Lk R F T n r).length<=1000000):=hid (fun r=>oJ (Qbz R F T n r) z.2);have t:Hid (yes (Qox R F T n l)=true):=hid (Qal ⟨hok.2.1,hok.2.2.1,hok.2.2.2⟩);have b:=hid A;clear z v hok;go_enter func137,ntmps137;go_wp2_with fail;try rw [k]
 clear k;refine o.mono ?_;rintro e w1 ⟨j,D,G,rfl,y,s,q⟩;have K:=(q.cell (p:=(Ub w.heap.size)) b).trans k0;have g:=hid (QhZ a c l j n D G R F T w1 hn hp hi (U.bw q) y Z V);have H:=hid (Qaa E q);have Q:=hid y;have M:=hid s;clear q o k0 J y s A;go_wp2_with fail;refine g.mono ?_;rintro e w2 ⟨rfl,u⟩;have I:=hid (Qaa H u);have O:=hid (Q.bw u);rw [t.out];clear u g t;go_wp2_with fail;go_ret2;exact⟨⟨j,D,G,rfl,O,Ux (Nat.le_of_lt b) M⟩,I⟩
structure Bx3 (w:Ur)(b:Nat)(v0 v1 v2:Value):Prop where
 c0:w.cell? (Ub b)=Uq v0
 c1:w.cell? (Ua b 1)=Uq v1
 c2:w.cell? (Ua b 2)=Uq v2
 f:∀i,w.frozen? (Ua b i)=false
 lt:b<w.heap.size
theorem Bx3.q2(h:Bx3 w b v0 v1 v2):w.cell? (Ub b)=Uq v0/\ w.cell? (Ua b 1)=Uq v1:=⟨h.c0,h.c1⟩
theorem Bx3.p2(h:Bx3 w b v0 v1 v2):w.cell? (Ub b)=Uq v0/\ w.cell? (Ua b 1)=Uq v1/\ ∀i,w.frozen? (Ua b i)=false:=⟨h.c0,h.c1,h.f⟩
theorem Bx3.q3(h:Bx3 w b v0 v1 v2):w.cell? (Ub b)=Uq v0/\ w.cell? (Ua b 1)=Uq v1/\ w.cell? (Ua b 2)=Uq v2:=⟨h.c0,h.c1,h.c2⟩
theorem Bx3.p3(h:Bx3 w b v0 v1 v2):w.cell? (Ub b)=Uq v0/\ w.cell? (Ua b 1)=Uq v1/\ w.cell? (Ua b 2)=Uq v2/\ ∀i,w.frozen? (Ua b i)=false:=⟨h.c0,h.c1,h.c2,h.f⟩
theorem Bx3.bw(h:Bx3 w b v0 v1 v2)(hb:Below B w w')(hB:b<B):Bx3 w' b v0 v1 v2:=
 ⟨(hb.cell (p:=(Ub b)) hB).trans h.c0,(hb.cell (p:=(Ua b 1)) hB).trans h.c1,(hb.cell (p:=(Ua b 2)) hB).trans h.c2,fun i=>(hb.frozen (p:=(Ua b i)) hB).trans (h.f i),Ut h.lt hb.size⟩
theorem Bx3.gt(h:Bx3 w b v0 v1 v2)(hg:Gt B w w'):Bx3 w' b v0 v1 v2:=
 ⟨hg.cell h.c0,hg.cell h.c1,hg.cell h.c2,fun i=>(hg.frozen (q:=(Ua b i)) h.c0 rfl).trans (h.f i),Ut h.lt hg.size⟩
theorem Bx3.made (w:Ur)(v0 v1 v2:Value)(t:TypeId):Bx3 (w.alloc (Uj #[v0,v1,v2] t)) w.heap.size v0 v1 v2:=⟨oP,oP,oP,fun i=>oP,oP⟩
theorem Bx3.set0(h:Bx3 w b v0 v1 v2)(u:Value):Bx3 (w.setCell (Ub b) u) b u v1 v2:=
 ⟨UH _ _ _ h.c0,by simp [UI,h.c1],by simp [UI,h.c2],fun i=>by rw [UG];exact h.f i,by simp [UC];exact h.lt⟩
theorem Bx3.set1(h:Bx3 w b v0 v1 v2)(u:Value):Bx3 (w.setCell (Ua b 1) u) b v0 u v2:=
 ⟨by simp [UI,h.c0],UH _ _ _ h.c1,by simp [UI,h.c2],fun i=>by rw [UG];exact h.f i,by simp [UC];exact h.lt⟩
theorem Bx3.set2(h:Bx3 w b v0 v1 v2)(u:Value):Bx3 (w.setCell (Ua b 2) u) b v0 v1 u:=
 ⟨by simp [UI,h.c0],by simp [UI,h.c1],UH _ _ _ h.c2,fun i=>by rw [UG];exact h.f i,by simp [UC];exact h.lt⟩
theorem Bx3.set(h:Bx3 w b v0 v1 v2)(u0 u1 u2:Value):Bx3 (((w.setCell (Ub b) u0).setCell (Ua b 1) u1).setCell (Ua b 2) u2) b u0 u1 u2:=((h.set0 u0).set1 u1).set2 u2
theorem NkI.step{N N':List Ky ->Option (Nat×Nat)}(h:NkI l k N)(h':∀z,(N' z).isSome=true↔(N z).isSome=true \/z <+:Way (gL l k)):NkI l (k+1) N':=fun z=>by
 rw [h' z,h z];constructor
 ·rintro((e|⟨j,q,e⟩)|e)
  ·exact .inl e
  ·exact .inr ⟨j,oM,e⟩
  ·exact .inr ⟨k,oM,e⟩
 ·rintro(e|⟨j,q,e⟩)
  ·exact .inl (.inl e)
  ·by_cases m:j=k
   ·subst m;exact .inr e
   ·exact .inl (.inr ⟨j,oM,e⟩)
theorem Qq4 (fl:Bool):(Lit.int Uh (kd fl)).wf=true:=by cases fl<;>decide
theorem Qev (a:Option Us)(c:Nat)(l:List Lf)(x:Option Us)(n d:Nat)(R F T:Nat ->Int)(w:Ur)(hn:l.length<=1048576)(hp:LBd l)(hi:∀i,LfI (gL l i))(hm:n<=1048576)(h:QbK w a l)(h':QaD w x n R F T)(hok:¬Qcn R F T n l):
  Cl 128 #[Uo #[Uf a l.length c,Uf x n d]] w (Rt w (Ul #[Uo #[.map Up,.map Up,.map Up],Un false])):=by
 obtain⟨W,k⟩:=zE ((w.alloc (Uj #[Uf a l.length c,Uf x n d] 40)).alloc (Uj #[.map Up,.map Up,.map Up] 176));have m:Bl w W:=k▸Qak _ _ _;have u:Bx3 W (w.heap.size+1) (.map Up) (.map Up) (.map Up):=by rw [<- k];simpa using Bx3.made (w.alloc (Uj #[Uf a l.length c,Uf x n d] 40)) (.map Up) (.map Up) (.map Up) 176
 have k0:W.cell? (Ub w.heap.size)=Uq (Uf a l.length c):=k▸oP;have o:W.cell? (Ua w.heap.size 1)=Uq (Uf x n d):=k▸oP;have q:=hid (Qkp a c l x n d R F T W hn hp hi hm (h.bw m) (h'.bw m));have z:=hid m;have y:=hid u;rw [Qaj hok] at q;clear h h' m u;go_enter func128,ntmps128;go_wp2_with fail;try rw [k]
 clear k;refine q.mono ?_;rintro e w1 ⟨⟨M,rfl⟩,r⟩;have j:=y.bw r y.lt;obtain⟨A,E,O⟩:=j.q3;have Q:=j.f 0;have U:=j.f 1;have V:=j.f 2;have t:=hid (Qaa z r);have g:=hid (j.set (.map Up) (.map Up) (.map Up));clear r q k0 o j;go_wp2_with fail;obtain⟨b,p,s⟩:=g.q3;refine zF (v:=Ul #[Uo #[.map Up,.map Up,.map Up],Un false]) (by simp [results,results128,go_sem,b,p,s]) ⟨rfl,?_⟩;exact((t.setCell oP _).setCell oP _).setCell oP _
theorem QaM.set{D:DataW Value}{G:Int ->Value}{L:Int ->List (Int×Int)}(h:QaM w bm n D G L)(q:Us)(u:Value)(hq:q.block<bm):QaM (w.setCell q u) bm n D G L:=by
 have j:w.grownBy (w.setCell q u) (Uq q.block):=⟨rfl,rfl,rfl,by simp [UC],fun k _ hk=>zH _ _ _ _ (fun e=>hk (by rw [e]))⟩;refine⟨h.own.kept j (fun e=>oI e),h.at',h.has',fun r=>(h.rows r).kept j ?_,h.apart⟩;cases e:(G r).ownBlock with
 | none=>exact .inl rfl
 | some g=>exact .inr (fun e2=>by have:=((h.rows r).lt g e).1;injection e2 with e2;omega)
theorem Qfl (a:Option Us)(c:Nat)(l:List Lf)(x:Option Us)(n d:Nat)(R F T:Nat ->Int)(w:Ur)(hn:l.length<=1048576)(hp:LBd l)(hi:∀i,LfI (gL l i))(hm:n<=1048576)(h:QbK w a l)(h':QaD w x n R F T)(hok:Qcn R F T n l):
  Cl 128 #[Uo #[Uf a l.length c,Uf x n d]] w fun e w'=>(∃x0 g D G N B,e=Ui (Ul #[Uo #[.map (Uq x0.1),.map (Uq x0.2),.map (Uq g)],Un true])/\ QaM w' g n D G (Lk R F T n)/\ w.heap.size<=g/\ w.heap.size<=B/\ g<B/\ Tre w' B N (Mk l l.length) (9*l.length)/\ N []=Uq x0/\ NkI l l.length N)/\ Bl w w':=by
 obtain⟨W,Y⟩:=zE ((w.alloc (Uj #[Uf a l.length c,Uf x n d] 40)).alloc (Uj #[.map Up,.map Up,.map Up] 176));have X:Bl w W:=Y▸Qak _ _ _;have B0:Bx3 W (w.heap.size+1) (.map Up) (.map Up) (.map Up):=by rw [<- Y];simpa using Bx3.made (w.alloc (Uj #[Uf a l.length c,Uf x n d] 40)) (.map Up) (.map Up) (.map Up) 176
 have k0:W.cell? (Ub w.heap.size)=Uq (Uf a l.length c):=Y▸oP;have k1:W.cell? (Ua w.heap.size 1)=Uq (Uf x n d):=Y▸oP;have HO:=hid (Qkq a c l x n d R F T W hn hp hi hm (h.bw X) (h'.bw X) hok);have Hx:=hid X;have I:=hid B0;have H3:=hid hok;have HL:=hid (h.bw X);have Ga:=hok.2.1;clear h h' X B0 hok;go_enter func128,ntmps128;go_wp2_with fail;try rw [Y]
 clear Y;refine HO.mono ?_;rintro e w1 ⟨⟨g,D,G,rfl,Hb,H9⟩,C⟩;have B1:=I.bw C I.lt;have H:=hid B1;have HZ:=hid (Qaa Hx C);have k2:=(C.cell (p:=(Ub w.heap.size)) (show w.heap.size<W.heap.size by have:=I.lt;omega)).trans k0;have Hm:=hid (HL.bw C);have Hl:=hid Hb;have Hc:=hid (show w.heap.size+1<g from by have:=I.lt;omega);clear C HO k0 k1 B1 Hb H9 HL I;go_wp2_with fail;refine(Qdx w1).mono ?_;rintro e w2 ⟨m,u,rfl,Hw,Hu,Hv,m1,m2,b2⟩;obtain⟨M,Z⟩:=zE (w2.alloc (Uj #[.map (Uq m),.map (Uq u)] 172));have Q:Bl w1 M:=Z▸b2.alloc b2.size _;have NB:Bx2 M w2.heap.size (.map (Uq m)) (.map (Uq u)):=Z▸Bx2.made _ _ _ _;have Hn:=hid NB;have T0:Tre M w1.heap.size (fun z=>if z=[] then Uq (m,u) else Up) (Mk l 0) 0:=by
  have e1:M.heap[m]? =w2.heap[m]? :=Z▸Below.heap_alloc _ _ _ m1.lt;have e2:M.heap[u]? =w2.heap[u]? :=Z▸Below.heap_alloc _ _ _ m2.lt;refine⟨fun p x hx=> ?_,fun p x hx=> ?_,fun p q x y hx A=> ?_,fun p x hx=> ?_,fun p hp=>rfl,fun p y hp=>oP⟩
  ·split at hx
   ·injection hx with hx;subst hx;exact(m1.same e1).ext (fun y=>oP)
   ·cases hx
  ·split at hx
   ·injection hx with hx;subst hx;exact m2.same e2
   ·cases hx
  ·split at hx
   ·rename_i ep;split at A
    ·rename_i eq;injection hx with hx;injection A with A;subst hx;subst A;exact⟨Hw,fun _=>by rw [ep,eq],fun _=>by rw [ep,eq]⟩
    ·cases A
   ·cases hx
  ·split at hx
   ·injection hx with hx;subst hx;exact⟨Hu,Hv⟩
   ·cases hx
 have Hp:=hid T0;have He:=hid (H.bw Q H.lt);have H6:=hid (Qaa HZ Q);have k3:=(Q.cell (p:=(Ub w.heap.size)) (show w.heap.size<w1.heap.size by have:=H.lt;omega)).trans k2;have H1:=hid (Hm.bw Q);have H8:=hid Q;have O:=hid (show w.heap.size<=w1.heap.size/\ w.heap.size+1<w1.heap.size/\ g<w1.heap.size/\ w1.heap.size<=M.heap.size from⟨HZ.size,H.lt,Hl.own.lt,Q.size⟩);clear m1 m2 b2 Q NB T0 Hw Hu Hv H Hm k2;go_wp2_with fail;try rw [Z]
 clear Z k3;go_loopw [21] (fun i wr=>∃k:Nat,k<=l.length/\ i=Ud k/\ Hid (Gt w1.heap.size M wr)/\ (∃N,Hid (Tre wr w1.heap.size N (Mk l k) (9*k))/\ Hid (N []=Uq (m,u))/\ Hid (NkI l k N))) (fun i _=>l.length - (intOf i).toNat);case atStart=>
  refine⟨0,Uv _,rfl,hid (Gt.refl _ _),_,Hp,hid (if_pos rfl),hid (fun z=> ?_)⟩;show ((if z=[] then Uq (m,u) else Up:Option (Nat×Nat)).isSome=true↔_);by_cases e:z=[]
  ·rw [if_pos e];exact⟨fun _=> .inl e,fun _=>rfl⟩
  ·rw [if_neg e];exact⟨fun h=>by simp at h,fun h=>by rcases h with h|⟨j,hj,_⟩;exact absurd h e;omega⟩
 case round=>
  clear Hp;obtain⟨k,hk,rfl,o,N,HT,HN,HI⟩:=hrel;by_cases Hj:k<l.length
  ·rcases (H1.gt o.out) with h|⟨b,off,rfl,hb,hc⟩
   ·omega
   obtain⟨pa,pc,x0,s,x1,x2,x3,x4⟩:=hc k Hj;have Hi:=H3.2.2.1 k Hj;have Hd:=hi k;have Hk:=hp k;have i1:(0:Int)<=(k:Int):=UZ _;have i2:(k:Int)<(l.length:Int):=oM;obtain⟨y,A⟩:=zE (gL l k);rw [A] at s x0 x1 x2 x3 x4 Hk Hd Hi;have HS:=hid s;have HE:=hid A;obtain⟨p,U,r,q,v⟩:=y;dsimp only [LfI] at HS x0 x1 x2 x3 x4 Hk Hd;have Ho:=hid Hi.1.1;have Ha:=hid (Hn.gt o);clear hc s A Hi;obtain⟨L,Ht⟩:=zE (wr.alloc (Uj #[Uf pa p.length pc,Un U,Ud r,Ud q,Um v] 117));have P:Bl wr L:=Ht▸zO _ _;have t:Bx5 L wr.heap.size (Uf pa p.length pc) (Un U) (Ud r) (Ud q) (Um v):=(by rw [<- Ht];exact⟨oP,oP,oP,oP,oP,fun i=>oP,oP⟩);have J:=Ha.bw P Ha.lt;obtain⟨y0,y1,y2,y3,y4⟩:=t.q5;obtain⟨n0,n1⟩:=J.q2;have H4:=hid (HS.bw P);have Hq:=hid (HT.bw P);have Hg:=hid (o.keep P);clear P t J HS HT o Ha;go_wp2_with fail;have Hf:Hid (∀w',Gt w1.heap.size L w' ->(Gt w1.heap.size L w'/\ w'.cell? (Ub w2.heap.size)=Uq (.map (Uq m))/\ w'.cell? (Ua w2.heap.size 1)=Uq (.map (Uq u))/\ w'.cell? (Ub wr.heap.size)=Uq (Uf pa p.length pc)/\ w'.cell? (Ua wr.heap.size 1)=Uq (Un U)/\ w'.cell? (Ua wr.heap.size 2)=Uq (Ud r)/\ w'.cell? (Ua wr.heap.size 3)=Uq (Ud q)/\ w'.cell? (Ua wr.heap.size 4)=Uq (Um v))):=hid (fun w' hB=>⟨hB,hB.cell n0,hB.cell n1,hB.cell y0,hB.cell y1,hB.cell y2,hB.cell y3,hB.cell y4⟩);refine zA Hf (Gt.of_below zI.drew) (fun qh=> ?_);refine tZ 0 25 ?_;refine tZ 1 26 ?_;refine tZ 2 27 ?_;refine tZ 3 28 ?_;refine tZ 5 30 ?_;refine tZ 6 31 ?_;refine tZ 7 32 ?_;refine tZ 8 33 ?_;refine tZ 9 34 ?_;refine cZ 4 ?_;intro K S;go_simp;refine(QfC _ U _ _ _ _).mono ?_;rintro e w5 ⟨rfl,V⟩;have E:Bl L w5:=⟨V.os,V.tape,V.output,V.size,V.block⟩;refine S.out _ _ (Hf _ (Gt.of_below E)) (fun qh=> ?_);clear S K;try simp only [zP]
   refine cZ 10 ?_;intro K S;go_simp;refine(Qrl 0 p pa pc (kd U) r q v w1.heap.size (9*k) N (Mk l k) (m,u) w5 Hk (fun i=> ?_) (Qq4 U) Hd.1 Hd.2 oM ?_ (H4.bw E) (Hq.bw E) HN ?_ (fun z x hz=> ?_)).mono ?_
   ·by_cases hi':i<p.length
    ·have:=(Ho.2.2 i hi').2;omega
    ·rw [Qfc oM];simp
   ·have h1:=O.2.2.2;have h2:=Hg.size;have h3:=E.size;omega
   ·have h1:=O.out;have h2:=Hg.size;have h3:=E.size;omega
   ·have h1:=Hq.lo z x hz;have h2:=O.2.1;exact⟨oM,oM⟩
   rintro e w6 ⟨rfl,g6,_,N',T6,Hs,Hr⟩;have Hy:=hid ((Hg.keep E).trans g6);have H5:=hid T6;have H0:=hid Hr;have H2:=hid Hs;refine S.out _ _ (Hf _ ((Gt.of_below E).trans g6)) (fun qh=> ?_);clear S K;try simp only [zP]
   refine zD ?_;clear qh V E g6 T6 Hs Hr;go_wp2_with fail;go_roundw;case rel=>
    have Gb:=Ho.2.1;refine⟨k+1,Hj,oN,Hy,N',hid ?_,H2,hid (HI.step ?_)⟩
    ·have e:Mk l (k+1)=QkV (Mk l k) (Qad p (kd U)) (r,q) v:=(by simp only [Mk];rw [HE.out]);rw [e];exact H5.mono oM
    ·rw [HE.out];exact H0
   case measure=>exact oE
  ·obtain rfl:k=l.length:=oM;have J:=Hn.gt o;obtain⟨n0,n1⟩:=J.q2;have t:=He.gt o;obtain⟨c0,c1,c2⟩:=t.q3;have f0:=t.f 0;have f1:=t.f 1;have f2:=t.f 2;have HC:=hid (t.set (.map (Uq m)) (.map (Uq u)) (.map (Uq g)));have Hh:Below w1.heap.size M wr:=o.bw O.2.2.2;have Hz:=hid (Hl.bw (H8.trans Hh));have H7:=hid (H6.trans (Hh.mono O.1));clear J t Hh;go_wp2_with fail;obtain⟨r0,r1,r2⟩:=HC.q3;refine zF (v:=Ul #[Uo #[.map (Uq m),.map (Uq u),.map (Uq g)],Un true]) (by simp [results,results128,go_sem,r0,r1,r2]) ⟨⟨(m,u),g,D,G,N,w1.heap.size,rfl,?_,oH Hc,O.1,O.2.2.1,?_,HN,HI⟩,?_⟩
   ·exact((Hz.set _ _ Hc.out).set _ _ Hc.out).set _ _ Hc.out
   ·exact((HT.set _ c0).set _ (He.gt o.out|>.set0 _).c1).set _ ((He.gt o.out|>.set0 _).set1 _).c2
   ·exact((H7.setCell oP _).setCell oP _).setCell oP _
theorem Qba{ops:Array Oper}{Q:Exit ->Act ->Ur ->Prop}{md:Region.Mode}{S:Ur ->Prop}{d d':Option Tmp}{fuel:Nat}{listed:Array Bool}
  (hd:ops[i]?.map (fun o=>o.dst)=Uq d) (hd':ops[j]?.map (fun o=>o.dst)=Uq d') (hr:Region.ready md ops listed=[i,j])
  (h:∀o,ops[i]? =Uq o ->o.dst=d ->∀K':Act ->Ur ->Prop,Shut (∀a w,S w ->(S w ->wpAnyH P md ops Q S fuel (listed.setIfInBounds i true) a w) ->K' a w) ->if Region.wanted o (yielded ops a.tmps)=true then Oper.wp P o a w K' Q else K' (a.put o.dst undef) w)
  (h':∀o,ops[j]? =Uq o ->o.dst=d' ->∀K':Act ->Ur ->Prop,Shut (∀a w,S w ->(S w ->wpAnyH P md ops Q S fuel (listed.setIfInBounds j true) a w) ->K' a w) ->if Region.wanted o (yielded ops a.tmps)=true then Oper.wp P o a w K' Q else K' (a.put o.dst undef) w):
  wpAnyH P md ops Q S (fuel+1) listed a w:=by
 obtain⟨o,k,q⟩:=Option.map_eq_some_iff.1 hd;obtain⟨u,m,r⟩:=Option.map_eq_some_iff.1 hd';exact wpAnyH_ready hr oP (AllReadyH.cons k (h o k q) (AllReadyH.cons m (h' u m r) AllReadyH.nil))
def mF (o:Option (Nat×Nat)):Option Nat:=o.map Prod.fst
def mS (o:Option (Nat×Nat)):Option Nat:=o.map Prod.snd
theorem QnU (o:Option (Nat×Nat)):Qbd o=Uo #[.map (mF o),.map (mS o)]:=by cases o<;>rfl
theorem Tre.look{c:Nat}{N:List Ky ->Option (Nat×Nat)}{M:List Ky ->Dt ->Option ByteArray}(h:Tre w B N M c)(p:List Ky)(y:Ky){kl:Lit}(hk:keyOf prog 230 (QaE y)=Uq kl):
  (Instr.lookup 169 (.map (mF (N p))) (QaE y) false).run prog w=.ok (Uo #[.map (mF (N (p++[y]))),.map (mS (N (p++[y])))]) w:=by
 rw [<- QnU];cases e:N p with
 | some x=>exact(h.kids p x e).look Qa4 underlying169 (QdT w) hk
 | none=>
  rw [h.up p y e];exact Maps.look_nil false Qa4 underlying169 (QdT w) hk
theorem toList_inj {t:ByteArray}(h:s.toList=t.toList):s=t:=by
 rw [ByteArray.toList_eq,ByteArray.toList_eq] at h;exact bytes_inj h
theorem Qeq:∀l:List UInt8,Op.bytesLess l l=false
 | []=>rfl
 | a::l=>by simp [Op.bytesLess,Qeq l]
theorem Qca {t:ByteArray}:QbM s t=0↔s=t:=by
 unfold QbM ltS eqS;constructor
 ·intro h;split at h
  ·cases h
  ·split at h
   ·rename_i e;exact toList_inj (oU e)
   ·cases h
 ·rintro rfl;rw [if_neg (by rw [Qeq];simp),if_pos oP]
theorem QhM:∀{p q:List ByteArray},QaN p q=0↔p=q
 | [],[]=>by simp [QaN]
 | [],_::_=>by simp [QaN]
 | _::_,[]=>by simp [QaN]
 | s::p,t::q=>by
  simp only [QaN];by_cases e:QbM s t=0
  ·rw [if_pos e,QhM];have:=Qca.1 e;subst this;simp
  ·rw [if_neg e];exact⟨fun h=>absurd h e,fun h=>by injection h with h1 h2;exact absurd (Qca.2 h1) e⟩
open Go.Sort Go.Lib Go.Shelf
structure QaH {α:Type}(f:α ->α ->Int):Prop where
 z:∀x y,f x y=0↔x=y
 neg:∀x y,f x y<0↔0<f y x
 tr:∀x y z,f x y<0 ->f y z<0 ->f x z<0
theorem QaH.irr {α:Type}{f:α ->α ->Int}(h:QaH f)(x:α):f x x=0:=(h.z x x).2 rfl
theorem QaH.swo {α:Type}{f:α ->α ->Int}(h:QaH f):SWO (ltOf f) where
 irrefl x:=by simp [ltOf,h.irr x]
 trans x y z h1 h2:=by simp only [ltOf,decide_eq_true_eq] at*;exact h.tr x y z h1 h2
 ntrans x y z h1 h2:=by
  simp only [ltOf,decide_eq_false_iff_not] at*;intro k;have j:0<=f x y:=oM;have m:0<=f y z:=oM;rcases Int.lt_or_eq_of_le j with j|j
  ·have:=h.tr y x z ((h.neg y x).2 j) k;omega
  ·have:=(h.z x y).1 j.symm;subst this;omega
theorem QaH.int:QaH QaV:=⟨fun x y=>QeS,fun x y=>by unfold QaV;split<;>split<;>(try split)<;>(try split)<;>omega,fun x y z h1 h2=>by rw [Qft] at*;omega⟩
theorem QaH.pair {α β:Type}{f:α ->α ->Int}{g:β ->β ->Int}(hf:QaH f)(hg:QaH g):QaH (fun x y:α×β=>orI (f x.1 y.1) (g x.2 y.2)):=by
 refine⟨fun x y=> ?_,fun x y=> ?_,fun x y z=> ?_⟩
 ·simp only [orI];by_cases e:f x.1 y.1=0
  ·rw [if_pos e,hg.z];exact⟨fun h=>Prod.ext ((hf.z _ _).1 e) h,fun h=>by rw [h]⟩
  ·rw [if_neg e];exact⟨fun h=>absurd h e,fun h=>by rw [h] at e;exact absurd (hf.irr _) e⟩
 ·simp only [orI];by_cases e:f x.1 y.1=0
  ·have r:f y.1 x.1=0:=(hf.z _ _).2 ((hf.z _ _).1 e).symm;rw [if_pos e,if_pos r,hg.neg]
  ·have r:f y.1 x.1≠0:=fun h=>e ((hf.z _ _).2 ((hf.z _ _).1 h).symm);rw [if_neg e,if_neg r,hf.neg]
 ·simp only [orI];intro q k;by_cases e:f x.1 y.1=0
  ·rw [if_pos e] at q;have:=(hf.z _ _).1 e;by_cases j:f y.1 z.1=0
   ·rw [if_pos j] at k;have m:f x.1 z.1=0:=(by rw [this];exact j);rw [if_pos m];exact hg.tr _ _ _ q k
   ·rw [if_neg j] at k;have m:f x.1 z.1≠0:=(by rw [this];exact j);rw [if_neg m,this];exact k
  ·rw [if_neg e] at q;by_cases j:f y.1 z.1=0
   ·have:=(hf.z _ _).1 j;have m:f x.1 z.1≠0:=this▸e;rw [if_neg m,<- this];exact q
   ·rw [if_neg j] at k;have u:=hf.tr _ _ _ q k;rw [if_neg oM];exact u
theorem Qib:∀x y:List UInt8,Op.bytesLess x y=false ->Op.bytesLess y x=false ->x=y
 | [],[],_,_=>rfl
 | [],_::_,h,_=>by simp [Op.bytesLess] at h
 | _::_,[],_,h=>by simp [Op.bytesLess] at h
 | a::x,b::y,h,h'=>by
  simp only [Op.bytesLess,Bool.or_eq_false_iff,decide_eq_false_iff_not,Bool.and_eq_false_iff] at h h';have e:a=b:=by
   have k:=h.1;have m:=h'.1;rcases Nat.lt_trichotomy a.toNat b.toNat with j|j|j
   ·exact absurd (UInt8.lt_iff_toNat_lt.2 j) k
   ·exact UInt8.toNat_inj.1 j
   ·exact absurd (UInt8.lt_iff_toNat_lt.2 j) m
  subst e;rw [Qib x y (oU h.2) (oU h'.2)]
theorem Qia:∀x y:List UInt8,Op.bytesLess x y=true ->Op.bytesLess y x=false
 | [],[],_=>rfl
 | [],_::_,_=>rfl
 | _::_,[],h=>by simp [Op.bytesLess] at h
 | a::x,b::y,h=>by
  simp only [Op.bytesLess,Bool.or_eq_true,decide_eq_true_eq,Bool.and_eq_true,beq_iff_eq] at h;simp only [Op.bytesLess,Bool.or_eq_false_iff,decide_eq_false_iff_not,Bool.and_eq_false_iff];rcases h with h|⟨rfl,h⟩
  ·have j:=UInt8.lt_iff_toNat_lt.1 h;refine⟨fun h2=>oH (UInt8.lt_iff_toNat_lt.1 h2),.inl ?_⟩;simp only [beq_eq_false_iff_ne];intro e;subst e;omega
  ·exact⟨fun h2=>oH (UInt8.lt_iff_toNat_lt.1 h2),.inr (Qia x y h)⟩
theorem Qfi:∀x y z:List UInt8,Op.bytesLess x y=true ->Op.bytesLess y z=true ->Op.bytesLess x z=true
 | _,_,[],_,h=>by cases ‹List UInt8›<;>simp [Op.bytesLess] at h
 | [],_,_::_,_,_=>rfl
 | _::_,[],_,h,_=>by simp [Op.bytesLess] at h
 | a::x,b::y,c::z,h,j=>by
  simp only [Op.bytesLess,Bool.or_eq_true,decide_eq_true_eq,Bool.and_eq_true,beq_iff_eq] at h j ⊢;rcases h with h|⟨rfl,h⟩
  ·rcases j with j|⟨rfl,j⟩
   ·exact .inl (UInt8.lt_iff_toNat_lt.2 (oJ (UInt8.lt_iff_toNat_lt.1 h) (UInt8.lt_iff_toNat_lt.1 j)))
   ·exact .inl h
  ·rcases j with j|⟨rfl,j⟩
   ·exact .inl j
   ·exact .inr ⟨rfl,Qfi x y z h j⟩
theorem Qfv {t:ByteArray}:QbM s t<0↔Op.bytesLess s.toList t.toList=true:=by
 unfold QbM ltS eqS;split
 ·rename_i h;exact⟨fun _=>h,fun _=>oD⟩
 ·rename_i h;split<;>exact⟨fun h2=>oM,fun h2=>absurd h2 h⟩
theorem QaH.str:QaH QbM:=by
 refine⟨fun x y=>Qca,fun x y=> ?_,fun x y z h1 h2=> ?_⟩
 ·rw [Qfv];constructor
  ·intro h;have:=Qia _ _ h;unfold QbM ltS eqS;rw [if_neg (by rw [this];simp),if_neg]
   ·decide
   ·intro e;rw [toList_inj (by simpa using e:y.toList=x.toList),Qeq] at h;cases h
  ·intro h;cases e:Op.bytesLess x.toList y.toList with
   | true=>rfl
   | false=>
    exfalso;cases e':Op.bytesLess y.toList x.toList with
    | true=>have:=Qfv.2 e';omega
    | false=>rw [Qca.2 (toList_inj (Qib _ _ e' e))] at h;omega
 ·rw [Qfv] at*;exact Qfi _ _ _ h1 h2
def Qb9 (x y:Ky):Int:=orI (QbM x.1 y.1) (QaV x.2 y.2)
def Qbg (x y:Dt):Int:=orI (QaV x.1 y.1) (QaV x.2 y.2)
theorem QaH.key:QaH Qb9:=QaH.str.pair QaH.int
theorem QaH.dot:QaH Qbg:=QaH.int.pair QaH.int
theorem QaH.uniq {α:Type}{f:α ->α ->Int}(h:QaH f):∀{l m:List α},l.Pairwise (fun x y=>f x y<0) ->m.Pairwise (fun x y=>f x y<0) ->(∀x,x∈l↔x∈m) ->l=m
 | [],[],_,_,_=>rfl
 | [],y::m,_,_,hm=>by have:=(hm y).2 oP;simp at this
 | x::l,[],_,_,hm=>by have:=(hm x).1 oP;simp at this
 | x::l,y::m,hl,hm',hm=>by
  have q:=List.pairwise_cons.1 hl;have r:=List.pairwise_cons.1 hm';have e:x=y:=by
   rcases List.mem_cons.1 ((hm x).1 oP) with e|e
   ·exact e
   ·rcases List.mem_cons.1 ((hm y).2 oP) with k|k
    ·exact k.symm
    ·have v:=r.1 x e;have g:=q.1 y k;have:=h.tr _ _ _ v g;rw [h.irr] at this;omega
  subst e;congr 1;refine h.uniq q.2 r.2 fun z=> ?_;have u:=hm z;simp only [List.mem_cons] at u;constructor
  ·intro j;rcases u.1 (.inr j) with e|e
   ·subst e;have:=q.1 _ j;rw [h.irr] at this;omega
   ·exact e
  ·intro j;rcases u.2 (.inr j) with e|e
   ·subst e;have:=r.1 _ j;rw [h.irr] at this;omega
   ·exact e
theorem QaH.rises {α:Type} [Inhabited α]{f:α ->α ->Int}(h:QaH f){d:Array α}(hs:SortedIn (ltOf f) 0 d.size d)(hn:d.toList.Nodup):d.toList.Pairwise (fun x y=>f x y<0):=by
 rw [Vd];intro i j hi m q;have k:=hs i j oM q (oU m);have hi':i<d.size:=oU hi;have g:j<d.size:=oU m;have r:d[i]! =d[i]:=getElem!_pos d i hi';have u:d[j]! =d[j]:=getElem!_pos d j g;rw [r,u] at k;simp only [ltOf,decide_eq_false_iff_not] at k;have t:d[i]≠d[j]:=by
  have:=(List.nodup_iff_pairwise_ne.1 hn);rw [Vd] at this;simpa using this i j hi m q
 have o:f d[i] d[j]≠0:=fun e=>t ((h.z _ _).1 e);have v:=h.neg (d[j]) (d[i]);have b:¬0<f d[i] d[j]:=fun e=>k (v.2 e);have:f d[i] d[j]<0:=oM;simpa using this
def Bw (w w':Ur):Prop:=Bl w w'/\ w.drawn<=w'.drawn
theorem Bw.grown(h:Bw w w'):∃q u,w'=grow (w.drewN q) u:=by
 obtain⟨y,z⟩:=h;refine⟨w'.drawn - w.drawn,w'.heap.extract w.heap.size w'.heap.size,?_⟩;obtain⟨p,E,t,u,out⟩:=w;obtain⟨g,M,o,s,A⟩:=w';obtain⟨j,k,m,v,r⟩:=y;simp only at j k m v r z;subst j;subst k;subst m;simp only [grow,World.drewN,World.mk.injEq,and_true,true_and];refine⟨?_,oM⟩;apply Array.ext_getElem?;intro i;rw [Array.getElem?_append];split
 ·rename_i hi;exact r i hi
 ·rename_i hi;rw [Array.getElem?_extract];by_cases b:i<g.size
  ·rw [if_pos oM];congr 1;omega
  ·rw [if_neg oM];exact Array.getElem?_eq_none oM
theorem Qda{kl:Lit}(h:keyOf prog 230 v=Uq kl):∃x,v=QaE x:=by
 unfold keyOf at h;rw [underlying230] at h;simp only [Qpx,Bool.true_and] at h;have p:0<prog.types.size:=of_decide_eq_true oK;obtain⟨m,o⟩:∃m,prog.types.size=m+1:=⟨prog.types.size - 1,oM⟩;rw [o] at h;have z:prog.cellsOf 230=2:=oK;have g:prog.cellsOf 3=1:=oK;have t:prog.cellsOf 9=1:=oK;cases v<;>simp [Value.formed,underlying230,z,Program.keyLits,underlying3,underlying9,g,t,Value.cells] at h;obtain⟨u,a,⟨i,h⟩,b⟩:=h;clear i b;obtain⟨y,j,rfl⟩:=Qjk u;clear u;cases y<;>simp at h;rename_i s;by_cases r:s.size<=maxLen
 ·cases j<;>simp [r] at h;rename_i k n;by_cases q:k=Uh/\ (Lit.int Uh n).wf=true
  ·exact⟨(s,n),by rw [q.1];rfl⟩
  ·rw [if_neg q] at h;simp at h
 ·cases j<;>simp [r] at h
theorem Qg2{kl:Lit}(h:keyOf prog 115 v=Uq kl):∃x,v=dtV x:=by
 unfold keyOf at h;rw [underlying115] at h;simp only [Qnp,Bool.true_and] at h;have b:0<prog.types.size:=of_decide_eq_true oK;obtain⟨m,t⟩:∃m,prog.types.size=m+1:=⟨prog.types.size - 1,oM⟩;rw [t] at h;have z:prog.cellsOf 115=2:=oK;have g:prog.cellsOf 3=1:=oK;cases v<;>simp [Value.formed,underlying115,z,Program.keyLits,underlying3,g,Value.cells] at h;obtain⟨r,a,⟨o,h⟩,i⟩:=h;clear o i;obtain⟨u,y,rfl⟩:=Qjk r;clear r;cases u<;>simp at h;rename_i k n;by_cases j:k=Uh/\ (Lit.int Uh n).wf=true
 ·rw [if_pos j] at h;cases y<;>simp at h;rename_i k' n';by_cases q:k'=Uh/\ (Lit.int Uh n').wf=true
  ·exact⟨(n,n'),by rw [j.1,q.1];rfl⟩
  ·rw [if_neg q] at h;simp at h
 ·rw [if_neg j] at h;simp at h
structure Qdq {α β:Type}(t:TypeId)(kv:α ->Value)(f:α ->Option β)(left:Lit ->Bool)(ss:List α):Prop where
 nd:ss.Nodup
 old:∀x∈ss,f x≠Up/\∀kl,keyOf prog t (kv x)=Uq kl ->left kl=false
 all:∀x,f x≠Up ->x∈ss \/∀kl,keyOf prog t (kv x)=Uq kl ->left kl=true
def Qc6 {α β:Type}(f:α ->Option β)(ss:List α):Prop:=ss.Nodup/\∀x,x∈ss↔f x≠Up
section
variable {α β : Type} {w : Ur} {t : TypeId} {kv : α -> Value} {vo : Option β -> Value} {b c : Nat} {f : α -> Option β} {D : DataW Value} {left : Lit -> Bool} {ss : List α}
theorem Qdq.start (h:FM w t kv vo b c f D):Qdq t kv f (has D) ([]:List α):=by
 refine⟨List.nodup_nil,fun x hx=>absurd hx oP,fun x hx=>Or.inr fun kl hk=> ?_⟩;rw [(h.at' x kl hk).1];cases e:f x with
 | none=>exact absurd e hx
 | some y=>rfl
theorem Qdq.step (hC:Qdq t kv f left ss)(h:FM w t kv vo b c f D)(K:Keyed prog t)(hi:∀x y,kv x=kv y ->x=y){x:α}{kl:Lit}{y:DataW Value}(hk:keyOf prog t (kv x)=Uq kl)(hl:left kl=true)(hat:∀zd,D.atKey kl zd=y):
  Qdq t kv f (fun z=>left z && !z.sameKey kl) (ss++[x]):=by
 have q:x ∉ ss:=fun hm=>by have:=(hC.old x hm).2 kl hk;rw [hl] at this;cases this
 have m:f x≠Up:=fun e=>by
  have k:=has_true_of_atKey hat;rw [(h.at' x kl hk).1,e] at k;cases k
 refine⟨?_,fun z j=> ?_,fun z j=> ?_⟩
 ·rw [List.nodup_append];exact⟨hC.nd,oP,fun a ha b hb=>by rw [UV] at hb;subst hb;exact fun e=>q (e▸ha)⟩
 ·rcases List.mem_append.1 j with j|j
  ·refine⟨(hC.old z j).1,fun kl' hk'=> ?_⟩;show (left kl' && !kl'.sameKey kl)=false;rw [(hC.old z j).2 kl' hk'];rfl
  ·rw [UV] at j;subst j;refine⟨m,fun kl' hk'=> ?_⟩;rw [hk] at hk';injection hk' with hk';subst hk';show (left kl && !kl.sameKey kl)=false;rw [WideAt.sameKey_self (K.key hk)];simp
 ·by_cases e:z=x
  ·subst e;exact .inl oP
  ·rcases hC.all z j with k|k
   ·exact .inl (List.mem_append.2 (.inl k))
   ·refine .inr fun kl' hk'=> ?_;show (left kl' && !kl'.sameKey kl)=true;rw [k kl' hk',sameKey_ne (fun e2=>e (hi _ _ (by subst e2;exact K.inj hk' hk)))];rfl
theorem Qdq.done (hC:Qdq t kv f left ss)(h:FM w t kv vo b c f D)(hl:∀j,left j=false):Qc6 f ss:=
 ⟨hC.nd,fun x=>⟨fun hx=>(hC.old x hx).1,fun hx=>by
  rcases hC.all x hx with k|k
  ·exact k
  ·obtain⟨j,m⟩:=h.ok x hx;have:=k j m;rw [hl j] at this;cases this⟩⟩
end
theorem QhL:∀p q:List ByteArray,QaN p q<0↔0<QaN q p
 | [],[]=>by simp [QaN]
 | [],_::_=>by simp [QaN]
 | _::_,[]=>by simp [QaN]
 | s::p,t::q=>by
  simp only [QaN];by_cases e:QbM s t=0
  ·have j:QbM t s=0:=Qca.2 (Qca.1 e).symm;rw [if_pos e,if_pos j];exact QhL p q
  ·have j:QbM t s≠0:=fun h=>e (Qca.2 (Qca.1 h).symm);rw [if_neg e,if_neg j];exact QaH.str.neg s t
theorem Qjo:∀p q r:List ByteArray,QaN p q<0 ->QaN q r<0 ->QaN p r<0
 | [],[],_,h,_=>by simp [QaN] at h
 | [],_::_,[],_,h=>by simp [QaN] at h
 | [],_::_,_::_,_,_=>by simp [QaN]
 | _::_,[],_,h,_=>by simp [QaN] at h
 | _::_,_::_,[],_,h=>by simp [QaN] at h
 | s::p,t::q,u::r,h,h'=>by
  simp only [QaN] at*;by_cases e:QbM s t=0
  ·rw [if_pos e] at h;have:=Qca.1 e;subst this;by_cases j:QbM s u=0
   ·rw [if_pos j] at h' ⊢;exact Qjo p q r h h'
   ·rw [if_neg j] at h' ⊢;exact h'
  ·rw [if_neg e] at h;by_cases j:QbM t u=0
   ·have:=Qca.1 j;subst this;rw [if_neg e];exact h
   ·rw [if_neg j] at h';have k:=QaH.str.tr s t u h h';rw [if_neg oM];exact k
theorem QaH.path:QaH QaN:=⟨fun _ _=>QhM,QhL,Qjo⟩
theorem Qjm {y z:Lf}(h:QaQ x y<0)(h':QaQ y z<0):QaQ x z<0:=
 (QaH.path.pair (QaH.int.pair QaH.dot)).tr (x.p,(kd x.fl,(x.r,x.q))) (y.p,(kd y.fl,(y.r,y.q))) (z.p,(kd z.fl,(z.r,z.q))) h h'
theorem QbU.lt(h:QbU R F T n l k):∀j,i<j ->j<k ->QaQ (gL l i) (gL l j)<0
 | 0,h1,_=>oM
 | j+1,h1,h2=>by
  have m:=(h (j+1) h2).2.2 oM;simp only [Uz] at m;by_cases e:i=j
  ·subst e;exact m
  ·exact Qjm (h.lt j oM oM) m
theorem QkR (p:List ByteArray):Qad p 3=(UT p.length).map fun i=>(gS p i,3):=by
 unfold Qad;congr 1;funext i;split<;>rfl
theorem Qj8(h:p <+:q)(hi:i<p.length):gS q i=gS p i:=by
 obtain⟨r,rfl⟩:=h;simp [gS,UR,List.getElem?_append,hi]
theorem Qme{k:Int}(h:p <+:q)(hl:p.length<q.length):(Qad q k).take p.length=Qad p 3:=by
 apply Ve;intro i;by_cases hi:i<p.length
 ·rw [Vf hi,Qbv oM,QkR,if_pos oM,Qj8 h hi];simp [hi]
 ·rw [List.getElem?_take_eq_none oM,US (by rw [QaS];omega)]
noncomputable def nx (p:List ByteArray)(x:Lf):Option Ky:=if yes (p <+:x.p/\ p.length<x.p.length)=true then Uq (Qas x.p (kd x.fl) p.length) else Up
theorem Qid:Qad p 3++[y] <+:Way x↔nx p x=Uq y:=by
 unfold nx Way;constructor
 ·intro h;have z:p.length+1<=x.p.length:=by have:=h.length_le;simpa [QaS] using this
  have j:=List.prefix_iff_eq_take.1 h;simp only [Vg,QaS,Vh,List.length_nil] at j;rw [Qd4 oM] at j;have m:=List.append_inj' j rfl;have v:p <+:x.p:=by
   have r:p=x.p.take p.length:=by
    refine Qm1 oS fun i hi=> ?_;have:=congrArg (fun l=>l[i]?) m.1;rw [Vf hi,Qbv hi,Qbv (k:=kd x.fl) (show i<x.p.length by omega)] at this;injection this with this;rw [(Prod.mk.inj this).1];simp [gS,UR,Vf hi]
   rw [r];exact Vi _ _
  rw [if_pos (Qal ⟨v,oM⟩)];have q:=m.2;simp only [List.cons.injEq,and_true] at q;rw [q];rfl
 ·intro h;by_cases e:p <+:x.p/\ p.length<x.p.length
  ·rw [if_pos (Qal e)] at h;injection h with h;have:=Qd4 (k:=kd x.fl) e.2;rw [Qme e.1 e.2] at this;have u:(gS x.p p.length,if p.length+1<x.p.length then 3 else kd x.fl)=y:=h;rw [u] at this;rw [<- this];exact Vi _ _
  ·rw [Qaj e] at h;simp at h
theorem QhK:∀(p a b:List ByteArray),QaN (p++a) (p++b)=QaN a b
 | [],_,_=>rfl
 | s::p,a,b=>by
  simp only [List.cons_append,QaN];rw [if_pos (Qca.2 rfl)];exact QhK p a b
theorem QbQ{a b:Lf}{z:Ky}(h:QaQ a b<0)(ha:nx p a=Uq y)(hb:nx p b=Uq z):Qb9 y z<=0:=by
 unfold nx at ha hb;by_cases m:p <+:a.p/\ p.length<a.p.length
 ·by_cases q:p <+:b.p/\ p.length<b.p.length
  ·rw [if_pos (Qal m)] at ha;rw [if_pos (Qal q)] at hb;injection ha with ha;injection hb with hb;obtain⟨⟨ra,g⟩,i⟩:=m;obtain⟨⟨j,o⟩,A⟩:=q;cases ra with
   | nil=>rw [<- g] at i;simp at i
   | cons s ra=>
    cases j with
    | nil=>rw [<- o] at A;simp at A
    | cons t j=>
     have M:y=(s,if ra=[] then kd a.fl else 3):=by
      rw [<- ha];unfold Qas;rw [<- g];have r:gS (p++s::ra) p.length=s:=(by simp [gS,UR]);rw [r];cases ra<;>simp
     have O:z=(t,if j=[] then kd b.fl else 3):=by
      rw [<- hb];unfold Qas;rw [<- o];have r:gS (p++t::j) p.length=t:=(by simp [gS,UR]);rw [r];cases j<;>simp
     unfold QaQ at h;rw [<- g,<- o,QhK] at h;rw [M,O];unfold Qb9;simp only [QaN] at h;by_cases k:QbM s t=0
     ·rw [if_pos k] at h;simp only [orI,k,if_true];have U:kd b.fl<=3:=(by cases b.fl<;>decide);have Q:kd a.fl<=3:=(by cases a.fl<;>decide);cases ra with
      | nil=>
       cases j with
       | nil=>
        simp only [if_true];simp only [QaN,orI,if_true] at h;by_cases E:QaV (kd a.fl) (kd b.fl)=0
        ·omega
        ·rw [if_neg E] at h;omega
       | cons u j=>
        simp only [if_true,reduceCtorEq,if_false];unfold QaV;split
        ·omega
        ·split<;>omega
      | cons u ra=>
       cases j with
       | nil=>simp [QaN,orI] at h
       | cons v j=>simp [QaV]
     ·rw [if_neg k] at h;simp only [orI,k,if_false] at h ⊢;omega
  ·rw [Qaj q] at hb;simp at hb
 ·rw [Qaj m] at ha;simp at ha
noncomputable def kS (l:List Lf)(p:List ByteArray):Nat ->List Ky
 | 0=>[]
 | k+1=>match nx p (gL l k) with
  | none=>kS l p k
  | some y=>if yes ((kS l p k).getLast? =Uq y)=true then kS l p k else kS l p k++[y]
theorem QcD(h:nx p (gL l k)=Up):kS l p (k+1)=kS l p k:=by simp only [kS,h]
theorem QcE(h:nx p (gL l k)=Uq y):kS l p (k+1)=if yes ((kS l p k).getLast? =Uq y)=true then kS l p k else kS l p k++[y]:=by simp only [kS,h]
theorem Qff (l:List Lf)(p:List ByteArray):∀k,(kS l p k).length<=k
 | 0=>by simp [kS]
 | k+1=>by
  have j:=Qff l p k;cases h:nx p (gL l k) with
  | none=>rw [QcD h];omega
  | some y=>rw [QcE h];split<;>simp<;>omega
theorem Qem {R F T:Nat ->Int}{n:Nat}{l:List Lf}(p:List ByteArray)(h:QbU R F T n l l.length):∀k,k<=l.length ->(kS l p k).Pairwise (fun x y=>Qb9 x y<0)/\∀y,y∈kS l p k↔∃j,j<k/\ nx p (gL l j)=Uq y
 | 0,_=>⟨List.Pairwise.nil,fun y=>by simp [kS]⟩
 | k+1,hk=>by
  obtain⟨r,i⟩:=Qem p h k oM;have t:∀y,(∃j,j<k+1/\ nx p (gL l j)=Uq y)↔y∈kS l p k \/nx p (gL l k)=Uq y:=fun y=>by
   rw [i];constructor
   ·rintro⟨j,v,e⟩;by_cases s:j=k
    ·subst s;exact .inr e
    ·exact .inl ⟨j,oM,e⟩
   ·rintro(⟨j,v,e⟩|e)
    ·exact⟨j,oM,e⟩
    ·exact⟨k,oM,e⟩
  cases hn:nx p (gL l k) with
  | none=>
   rw [QcD hn];refine⟨r,fun y=> ?_⟩;rw [t y,hn];simp
  | some z=>
   have g:∀y∈kS l p k,Qb9 y z<=0:=fun y hy=>by
    obtain⟨j,v,e⟩:=(i y).1 hy;exact QbQ (h.lt k v oM) e hn
   rw [QcE hn];by_cases e:(kS l p k).getLast? =Uq z
   ·rw [if_pos (Qal e)];refine⟨r,fun y=> ?_⟩;rw [t y,hn];constructor
    ·exact .inl
    ·rintro(m|m)
     ·exact m
     ·injection m with m;subst m;exact Vj e
   ·rw [if_neg (by rw [Qaj e];simp)];have q:z ∉ kS l p k:=fun q=>by
     obtain⟨b,u,E⟩:∃b u,kS l p k=b++[u]:=by
      refine⟨(kS l p k).dropLast,(kS l p k).getLast (List.ne_nil_of_mem q),(List.dropLast_concat_getLast _).symm⟩
     rw [E] at q g e r;simp at e;rcases List.mem_append.1 q with m|m
     ·have o:=(List.pairwise_append.1 r).2.2 z m u oP;have M:=g u oP;have A:=QaH.key.neg z u;have:0<Qb9 u z:=A.1 o;omega
     ·simp at m;exact e m.symm
    refine⟨List.pairwise_append.2 ⟨r,List.pairwise_singleton _ _,fun x hx y hy=> ?_⟩,fun y=> ?_⟩
    ·simp at hy;subst hy;have m:=g x hx;have o:Qb9 x y≠0:=fun e=>q ((QaH.key.z x y).1 e▸hx);omega
    ·rw [t y,hn];simp only [Vk,UV,Option.some.injEq];exact⟨fun h=>h.imp id Eq.symm,fun h=>h.imp id Eq.symm⟩
theorem QjO{N:List Ky ->Option (Nat×Nat)}{ts:List Ky}(h:QbU R F T n l l.length)(hI:NkI l l.length N)(h1:ts.Pairwise (fun x y=>Qb9 x y<0))(h2:∀x,x∈ts↔N (Qad p 3++[x])≠Up):ts=kS l p l.length:=by
 obtain⟨m,q⟩:=Qem p h l.length zL;refine QaH.key.uniq h1 m fun x=> ?_;rw [h2,q];have:=hI (Qad p 3++[x]);rw [Option.isSome_iff_ne_none] at this;rw [this];simp only [List.append_eq_nil_iff,List.cons_ne_self,and_false,false_or,reduceCtorEq];constructor
 ·rintro⟨j,k,e⟩;exact⟨j,k,Qid.1 e⟩
 ·rintro⟨j,k,e⟩;exact⟨j,k,Qid.2 e⟩
noncomputable def rV (l:List Lf)(p:List ByteArray):Nat ->List ByteArray
 | 0=>[]
 | k+1=>if yes ((gL l k).fl=false/\ (gL l k).p=p)=true then rV l p k++[(gL l k).v] else rV l p k
theorem QpD {l:List Lf}{p:List ByteArray}{s:ByteArray}:∀{k:Nat},s∈rV l p k↔∃j,j<k/\ (gL l j).fl=false/\ (gL l j).p=p/\ (gL l j).v=s
 | 0=>by simp [rV]
 | k+1=>by
  have h:=QpD (l:=l) (p:=p) (s:=s) (k:=k);simp only [rV];by_cases e:(gL l k).fl=false/\ (gL l k).p=p
  ·rw [if_pos (Qal e),Vk,h,UV];constructor
   ·rintro(⟨j,z,r⟩|r)
    ·exact⟨j,oM,r⟩
    ·exact⟨k,oM,e.1,e.2,r.symm⟩
   ·rintro⟨j,z,m,q,u⟩;by_cases y:j=k
    ·subst y;exact .inr u.symm
    ·exact .inl ⟨j,oM,m,q,u⟩
  ·rw [if_neg (by rw [Qaj e];simp),h];constructor
   ·rintro⟨j,z,r⟩;exact⟨j,oM,r⟩
   ·rintro⟨j,z,m,q,u⟩;by_cases y:j=k
    ·subst y;exact absurd ⟨m,q⟩ e
    ·exact⟨j,oM,m,q,u⟩
theorem Qjd {l:List Lf}{p:List Ky}{d:Dt}{s:ByteArray}:∀{k:Nat},Dis l k ->(Mk l k p d=Uq s↔∃j,j<k/\ Way (gL l j)=p/\ ((gL l j).r,(gL l j).q)=d/\ (gL l j).v=s)
 | 0,_=>⟨fun h=>by simp [Mk] at h,fun⟨j,m,_⟩=>oM⟩
 | k+1,hd=>by
  have o:=Qjd (l:=l) (p:=p) (d:=d) (s:=s) (k:=k) (fun i hi j m=>hd i oM j m);simp only [Mk];by_cases e:p=Qad (gL l k).p (kd (gL l k).fl)
  ·rw [e,QbI,<- e];by_cases t:d=((gL l k).r,(gL l k).q)
   ·rw [t,Qaw];constructor
    ·intro h;injection h with h;exact⟨k,oM,e.symm,rfl,h⟩
    ·rintro⟨j,m,z,u,g⟩;by_cases y:j=k
     ·subst y;rw [g]
     ·have:=hd k oM j oM;exact absurd ⟨congrArg Prod.fst u,congrArg Prod.snd u⟩ this
   ·rw [Qao _ _ t,o];constructor
    ·rintro⟨j,m,r⟩;exact⟨j,oM,r⟩
    ·rintro⟨j,m,z,u,g⟩;by_cases y:j=k
     ·subst y;exact absurd u.symm t
     ·exact⟨j,oM,z,u,g⟩
  ·rw [Qbb _ _ _ e,o];constructor
   ·rintro⟨j,m,r⟩;exact⟨j,oM,r⟩
   ·rintro⟨j,m,z,u,g⟩;by_cases y:j=k
    ·subst y;exact absurd z.symm e
    ·exact⟨j,oM,z,u,g⟩
def Seg (w:Ur)(a:Option Us)(n:Nat)(f:Nat ->Int):Prop:=
 n=0 \/∃b off,a=Uq (Ua b off)/\ b<w.heap.size/\∀i,i<n ->w.cell? (Ua b (off+i))=Uq (Ug .u8 (f i))
def Byt (f:Nat ->Int):Prop:=∀i,0<=f i/\ f i<256
theorem Seg.bw{a:Option Us}(h:Seg w a n f)(hb:Bl w w'):Seg w' a n f:=by
 rcases h with h|⟨b,off,rfl,j,k⟩
 ·exact .inl h
 ·exact .inr ⟨b,off,rfl,Ut j hb.size,fun i hi=>(hb.cell (p:=(Ua b (off+i))) j).trans (k i hi)⟩
theorem Tryz.infoByte:(prog.info? 5).map (fun i=>(i.zero,i.size,i.bytes))=Uq (Uq (Ug .u8 0),1,1):=oK
def Qb0 (f:Nat ->Int)(n:Nat):List Value:=(UT n).map fun i=> Ug .u8 (f i)
def mix (f:Nat ->Int)(k:Nat)(i:Nat):Int:=if i<k then f i else 0
theorem Qcr (f:Nat ->Int)(n i:Nat)(h:i<n):(Qb0 f n)[i]? =Uq (Ug .u8 (f i)):=by
 simp [Qb0,h]
theorem QgO (f:Nat ->Int)(n:Nat):(madeCells #[Ug .u8 0] n).toList=Qb0 (mix f 0) n:=by
 rw [toList_madeCells_one];apply Ve;intro j;by_cases k:j<n
 ·simp [Qb0,k,mix]
 ·simp [Qb0,k]
theorem Qi3 (f:Nat ->Int)(n k:Nat)(h:k<n):(Qb0 (mix f k) n).set k (Ug .u8 (f k))=Qb0 (mix f (k+1)) n:=by
 apply Ve;intro j;by_cases m:j<n
 ·by_cases q:k=j
  ·subst q;simp [Qb0,m,mix]
  ·rw [UP q,Qcr _ _ _ m,Qcr _ _ _ m];have:mix f k j=mix f (k+1) j:=(by unfold mix;split<;>split<;>first|rfl|omega);rw [this]
 ·rw [US (by simp [Qb0];omega),US (by simp [Qb0];omega)]
theorem Qof{cap:Nat}(h:w.ownsRow B 5 1 (Uf (Uc g) n cap) n (Qb0 (mix f n) n)):Seg w (Uc g) n f:=by
 refine .inr ⟨g,0,rfl,(h.lt g rfl).2,fun i hi=> ?_⟩;rw [Uw,h.cellAt i oM,Qcr _ _ _ hi];simp [mix,hi]
theorem QpK{a0:Option Us}{len0 cap0:Nat}{z0:List Int}
  (w0:(a0=Up/\ len0=0/\ cap0=0/\ z0=[]) \/
   ∃x,a0=Uq x/\ len0<=cap0/\ cap0<=maxLen/\ z0.length=cap0/\ (∀i,i<z0.length ->w.cell? (x.add i)=Uq (Ug .u8 (z0.getD i 0)))/\∀n∈z0,(Lit.int .u8 n).wf=true):
  Seg w a0 len0 (fun i=>z0.getD i 0)/\ Byt (fun i=>z0.getD i 0)/\ len0<=9223372036854775807:=by
 rcases w0 with ⟨rfl,rfl,rfl,rfl⟩|⟨⟨b,off,y⟩,rfl,z,r,g,k,v⟩
 ·exact⟨.inl rfl,fun i=>oP,oM⟩
 ·refine⟨?_,fun i=> ?_,by unfold maxLen at r;omega⟩
  ·by_cases q:len0=0
   ·exact .inl q
   ·have j:=k 0 oM;have u:y=Up:=(by simpa [Addr.add] using World.cell?_spot j);subst u;refine .inr ⟨b,off,rfl,block_lt_of_cell j,fun i hi=> ?_⟩;have h:=k i oM;by_cases m:i=0
    ·subst m;simpa [Addr.add] using h
    ·simpa [Addr.add,m] using h
  ·by_cases hi:i<z0.length
   ·have:=v (z0.getD i 0) (by simp [UR,hi]);have b:=bounds_u8 this;show 0<=z0.getD i 0/\ z0.getD i 0<256;omega
   ·simp [UR,hi]
def uvF:Nat ->Nat ->List Int
 | 0,v=>[(v:Int)]
 | k+1,v=>if v<128 then [(v:Int)] else((128+v%128:Nat):Int)::uvF k (v/128)
def Own (w:Ur)(B:Nat)(v:Value)(zs:List Int):Prop:=w.ownsRow B 5 1 v zs.length (zs.map (Value.int .u8))
theorem Qdo (k v:Nat)(h:v<128):uvF k v=[(v:Int)]:=by
 cases k<;>simp [uvF,h]
theorem QeH (k v:Nat)(h:¬v<128):uvF (k+1) v=((128+v%128:Nat):Int)::uvF k (v/128):=by
 simp [uvF,h]
theorem Qah (k:Nat):∀v,(uvF k v).length<=k+1/\ 0<(uvF k v).length:=by
 induction k with
 | zero=>intro v;simp [uvF]
 | succ k ih=>
  intro v;by_cases h:v<128
  ·rw [Qdo _ _ h];simp
  ·rw [QeH _ _ h];have:=ih (v/128);simp;omega
theorem QlZ (k:Nat):∀v,v<128^(k+1) ->∀z∈uvF k v,0<=z/\ z<256:=by
 induction k with
 | zero=>intro v h z j;simp [uvF] at j;subst j;simp at h;omega
 | succ k ih=>
  intro v h z j;by_cases m:v<128
  ·rw [Qdo _ _ m] at j;simp at j;subst j;omega
  ·rw [QeH _ _ m] at j;rcases List.mem_cons.1 j with j|j
   ·subst j;omega
   ·exact ih (v/128) (by rw [Va] at h;omega) z j
theorem Qmp (m:Nat)(h:m<18446744073709551616):bits BinOp.and IntKind.u64 (m:Int) 127=((m%128:Nat):Int):=by
 have:=u64_and_nat m 127 h oM;rw [show (127:Nat)=2^7 - 1 from rfl,Nat.and_two_pow_sub_one_eq_mod] at this;exact this
theorem QpA (a:Nat)(h:a<128):bits BinOp.or IntKind.u8 (a:Int) 128=((128+a:Nat):Int):=by
 have e:=u8_or_nat a 128 oM oM;have j:a|||128=128+a:=by
  have:=Nat.two_pow_add_eq_or_of_lt (i:=7) (b:=a) h 1;rw [Nat.or_comm];simpa using this.symm
 rw [j] at e;exact e
theorem Qku (w:Ur)(B:Nat)(z:Int)(hB:B<=w.heap.size):Own (w.alloc (Uj #[Ug .u8 z] 5)) B (Uf (Uc w.heap.size) 1 1) [z]:=by
 have:=World.ownsRow_lit (base:=B) (e:=5) (size:=1) w #[Ug .u8 z] 1 hB oL rfl;exact this
theorem QkY (B m0:Nat)(bv:Value)(zs0:List Int)(w:Ur)(hm:m0<18446744073709551616)(hB:B<=w.heap.size)(hl:zs0.length<=1000000000000)(ho:Own w B bv zs0):
  Cl 142 #[bv,Ug .u64 (m0:Int)] w fun e w'=>∃v,e=Ui v/\ Own w' B v (zs0++uvF 9 m0)/\ Below B w w'/\ w.heap.size<w'.heap.size:=by
 obtain⟨Y,hi,Q,U,V⟩:=info_parts Tryz.infoByte;go_enter func142,ntmps142;go_wp2_with fail;go_loopw [0,1] (fun b v wr=>∃(k m:Nat) (y:List Int),k<=9/\ m<128^(k+1)/\ m<18446744073709551616/\ v=Ug .u64 (m:Int)/\ Own wr B b y/\ Below B w wr/\ w.heap.size<=wr.heap.size/\ y.length+k<=zs0.length+9/\ y++uvF k m=zs0++uvF 9 m0) (fun _ v _=>(intOf v).toNat);case atStart=>exact⟨9,m0,zs0,Uu _,oM,hm,rfl,ho,Below.refl _ _,Uu _,Uu _,rfl⟩
 case round=>
  obtain⟨k,m,y,o,O,K,rfl,r,t,X,N,E⟩:=hrel;have i:Hid (y++uvF k m=zs0++uvF 9 m0):=E;have p:Hid (m<128^(k+1)):=O;clear E ho O;unfold Own at r;by_cases M:m<128
  ·go_wp2_with (at_builtin;refine wpList_append_own _ rfl _ _ 30 rfl B 5 Y (Ug .u8 0) 1 1 underlying30 hi Q U V rfl oD _ _ _ rfl (r.alloc _) (Ub wr.heap.size) 1 1 [Ug .u8 (m:Int)] rfl rfl ?c1 ?c2 ?c3 ?c4 ?c5 ?_);case c1=>exact cell_one_new _ _ _
   case c2=>intro u g;simp at g;subst g;rfl
   case c3=>unfold maxLen;omega
   case c4=>omega
   case c5=>simp;omega
   ·intro v' w1 z q _;have J:=t.size;have R:Own w1 B v' (zs0++uvF 9 m0):=by
     rw [<- i.out,Qdo k m M];unfold Own;rw [Vg,Vl];exact z
    have s:Below B w w1:=(t.alloc oM _).grown q oS (fun k o=>(r.lt k o).1);have A:=q.size;simp at A;clear z q r;go_wp2;go_ret;exact⟨v',rfl,R,s,oM⟩
  ·have H:=Qmp m K;have I:bits BinOp.or IntKind.u8 ((m:Int)%128) 128=128+(m:Int)%128:=by
    have:=QpA (m%128) oM;simpa using this
   go_wp2_with (at_builtin;refine wpList_append_own _ rfl _ _ 30 rfl B 5 Y (Ug .u8 0) 1 1 underlying30 hi Q U V rfl oD _ _ _ rfl (r.alloc _) (Ub wr.heap.size) 1 1 [Ug .u8 (128+(m:Int)%128)] rfl rfl ?d1 ?d2 ?d3 ?d4 ?d5 ?_);case d1=>exact cell_one_new _ _ _
   case d2=>intro u g;simp at g;subst g;rfl
   case d3=>unfold maxLen;omega
   case d4=>omega
   case d5=>simp;omega
   ·intro v' w1 z q _;have L:1<=k:=by
     have:=p.out;rcases Vb k with rfl|h
     ·simp at this;omega
     ·exact h
    obtain⟨j,rfl⟩:∃j,k=j+1:=⟨k - 1,oM⟩;have J:=t.size;have R:Own w1 B v' (y++[128+(m:Int)%128]):=by
     unfold Own;rw [Vg,Vl];exact z
    have Z:Hid (y++[128+(m:Int)%128]++uvF j (m/128)=zs0++uvF 9 m0):=by
     have:=i.out;rw [QeH j m M] at this;show _=_;rw [<- this];simp
    have G:Hid (m/128<128^(j+1)):=by
     have:=p.out;rw [Va] at this;show _<_;omega
    have s:Below B w w1:=(t.alloc oM _).grown q oS (fun k o=>(r.lt k o).1);have A:=q.size;simp at A;clear z q r i p I H;go_wp2;go_roundw;case rel=>exact⟨j,m/128,_,oM,G,oM,oN,R,s,oM,oS,Z⟩
    case measure=>exact oE
theorem Own.kept(h:Own w B v zs)(hb:Below C w w1)(hc:∀k,v.ownBlock=Uq k ->k<C):Own w1 B v zs:=by
 obtain⟨q,j⟩:=h;refine⟨q,?_⟩;rcases j with j|⟨g,cap,m,rfl,u,y,r⟩
 ·exact .inl j
 ·exact .inr ⟨g,cap,m,rfl,u,by rw [hb.block g (hc g rfl)];exact y,r⟩
theorem Own.weak(h:Own w B v zs)(hc:C<=B):Own w C v zs:=by
 obtain⟨m,j⟩:=h;refine⟨m,?_⟩;rcases j with j|⟨g,cap,k,rfl,q,r⟩
 ·exact .inl j
 ·exact .inr ⟨g,cap,k,rfl,Ux hc q,r⟩
theorem Own.shape(h:Own w B v zs)(hz:zs≠[]):
  ∃g cap,v=Uf (Uc g) zs.length cap/\ B<=g/\ g<w.heap.size/\ zs.length<=cap/\ cap<=maxLen/\
   (∀j u,(zs.map (Value.int .u8))[j]? =Uq u ->w.cell? (((Ub g):Us).add j)=Uq u)/\ Seg w (Uc g) zs.length (fun i=>zs.getD i 0):=by
 have k:=h;obtain⟨b,m⟩:=h;rcases m with ⟨_,m⟩|⟨g,cap,o,rfl,y,p,t,z,r⟩
 ·exact absurd (List.eq_nil_of_length_eq_zero m) hz
 ·have q:=(k.lt g rfl).2;refine⟨g,cap,rfl,y,q,t,z,k.cells rfl,.inr ⟨g,0,rfl,q,fun i hi=> ?_⟩⟩;rw [Uw,World.ownsRow.cellAt k i oM];simp [hi,UR]
theorem QmO (k:Nat):∀(m:Nat) (w:Ur),k<=9 ->Hid (m<128^(k+1)) ->m<18446744073709551616 ->
  Cl 136 #[Ug .u64 (m:Int)] w fun e w'=>∃v,e=Ui v/\ Own w' w.heap.size v (uvF k m)/\ Bl w w'/\ w.heap.size<w'.heap.size:=by
 obtain⟨I,hi,Z,G,H⟩:=info_parts Tryz.infoByte;have z:∀(k m:Nat) (w:Ur),m<128 ->Cl 136 #[Ug .u64 (m:Int)] w fun e w'=>∃v,e=Ui v/\ Own w' w.heap.size v (uvF k m)/\ Bl w w'/\ w.heap.size<w'.heap.size:=by
  intro k m w q;have r:Hid (uvF k m=[(m:Int)]):=Qdo k m q;go_enter func136,ntmps136;go_wp2_with fail;go_ret;refine⟨_,rfl,?_,(Below.refl _ _).alloc (Uu _) _,oP⟩;rw [r.out];exact Qku w _ _ (Uu _)
 induction k with
 | zero=>intro m w _ q _;exact z 0 m w (oH q)
 | succ k ih=>
  intro m w j E q;by_cases A:m<128
  ·exact z (k+1) m w A
  ·have r:Hid (uvF (k+1) m=((128+m%128:Nat):Int)::uvF k (m/128)):=QeH k m A;have t:=Qah k (m/128);have U:Hid (m/128<128^(k+1)):=by
    have:=E.out;rw [Va] at this;show _<_;omega
   have i:=ih (m/128) (w.alloc (Uj #[Ug .u8 (128+(m:Int)%128)] 5)) oM U oM;have h:=hid i;clear i ih z E;go_enter func136,ntmps136;go_wp2_with fail;rw [show ((m:Int)/128)=((m/128:Nat):Int) from by omega];refine h.mono ?_;rintro e w1 ⟨v,rfl,M,b,Y⟩;obtain⟨g,cap,rfl,K,L,_,_,p,_⟩:=M.shape (by intro e;rw [e] at t;simp at t);have s:w1.ownsRow w.heap.size 5 1 (Uf (Uc w.heap.size) 1 1) 1 [Ug .u8 (128+(m:Int)%128)]:=
    (Qku w w.heap.size (128+(m:Int)%128) (Uu _)).kept b (fun k j=>by simp [Value.ownBlock] at j;simp;omega)
   have N:w.heap.size+1<w1.heap.size:=(by have:=Y;simp at this;exact this);have O:∀u∈(uvF k (m/128)).map (Value.int .u8),u.oneCell'=true:=ints_oneCell .u8 _;have o:=hid p;clear p h M;go_wp2_with (at_builtin;refine wpList_append_own _ rfl _ _ 30 rfl w.heap.size 5 I (Ug .u8 0) 1 1 underlying30 hi Z G H rfl oD _ _ _ rfl s (Ub g) (uvF k (m/128)).length cap ((uvF k (m/128)).map (Value.int .u8)) rfl oP o O ?c3 ?c4 ?c5 ?_);case c3=>unfold maxLen;omega
   case c4=>omega
   case c5=>omega
   ·intro v' w2 Q y _;have R:Own w2 w.heap.size v' (uvF (k+1) m):=by
     rw [r.out];unfold Own;rw [Vh,Vm,Nat.add_comm];exact Q
    have V:Bl w w2:=((((Below.refl _ _).alloc (Uu _) _).trans (b.mono oP))).grown y oM (fun k j=>by simp [Value.ownBlock] at j;omega);have J:=y.size;clear Q y s o O;go_wp2_with fail;go_ret;exact⟨v',rfl,R,V,oM⟩
def mk8 (k0:Nat)(i:Nat):Int:=((k0+i:Nat):Int)%256
def QaP (s:ByteArray):List Int:=s.data.toList.map fun b=>(b.toNat:Int)
theorem Qa9 (s:ByteArray):(QaP s).length=s.size:=by
 rw [QaP,List.length_map,Array.length_toList];rfl
theorem Qdl (s:ByteArray):(QaP s).map (Value.int .u8)=Lib.strCells s:=by
 simp [QaP,Lib.strCells,List.map_map,Function.comp_def]
theorem QgG (s:ByteArray):∀z∈QaP s,0<=z/\ z<256:=by
 intro z j;simp only [QaP,Vn] at j;obtain⟨b,_,rfl⟩:=j;have:=b.toNat_lt;omega
theorem Qi2 (s:ByteArray)(w:Ur):∃cap w',(convert 9 30 (Um s)).run prog w=.ok (Uf (Uc w.heap.size) s.size cap) w'/\ Bl w w'/\ w.heap.size<w'.heap.size/\
  ∀j u,(Lib.strCells s)[j]? =Uq u ->w'.cell? (((Ub w.heap.size):Us).add j)=Uq u:=by
 refine⟨_,_,run_bytes_of_string (P:=prog) w 9 30 5 s underlying9 underlying30 underlying5,?_,?_,?_⟩
 ·exact(Below.refl _ _).drew.alloc (Uu _) _
 ·simp
 ·intro j u k;have v:j<s.size:=by
   have:=(List.getElem?_eq_some_iff.1 k).1;rw [Lib.strCells_length] at this;exact this
  have r:∀(C:Array Value) (m:Nat×Nat),(w.drew.alloc (.cells C 5 m)).cell? (Ua w.heap.size j)=C[j]? :=by
   intro C m;exact cell_of_row _ _ _ _ _ _ (heap_alloc_new w.drew _)
  have e:(((Ub w.heap.size):Us).add j)=(Ua w.heap.size j):=by
   by_cases q:j=0
   ·subst q;rfl
   ·simp [Addr.add,q]
  rw [e,r];simp only [bytesRow];rw [Array.getElem?_append_left (by simp;exact v)];simp only [Lib.strCells] at k;rw [<- k];simp
def Qae (s:ByteArray):List Int:=uvF 9 s.size++QaP s
theorem Qiv (s:ByteArray)(w:Ur)(hs:s.size<=1048576):
  Cl 126 #[Um s] w fun e w'=>∃v,e=Ui v/\ Own w' w.heap.size v (Qae s)/\ Bl w w'/\ w.heap.size<w'.heap.size:=by
 obtain⟨V,hi,O,Q,U⟩:=info_parts Tryz.infoByte;have Y:=Qah 9 s.size;go_enter func126,ntmps126;go_wp2_with fail;refine(QmO 9 s.size _ (Uu _) (hid oM) oM).mono ?_;rintro e w1 ⟨v1,rfl,j,E,G⟩;obtain⟨cap,w2,M,y,H,z⟩:=Qi2 s w1;have h:w2.ownsRow w.heap.size 5 1 v1 (uvF 9 s.size).length ((uvF 9 s.size).map (Value.int .u8)):=j.kept y (fun k hk=>(j.lt k hk).2);have t:∀k,v1.ownBlock=Uq k ->w.heap.size<=k:=fun k hk=>(j.lt k hk).1;have r:=hid z;have p:=hid t;have o:=Lib.strCells_oneCell s;have g:=Lib.strCells_length s;have u:=hid o;have q:=hid g;clear z j o g t;go_wp2_with (at_builtin;refine wpList_append_own _ rfl _ _ 30 rfl w.heap.size 5 V (Ug .u8 0) 1 1 underlying30 hi O Q U rfl oD _ _ _ rfl h (Ub w1.heap.size) s.size cap (Lib.strCells s) rfl (by rw [q.out];omega) r u ?c3 ?c4 ?c5 ?_);case c3=>unfold maxLen;omega
 case c4=>omega
 case c5=>omega
 ·intro v' b i m _;have R:Own b w.heap.size v' (Qae s):=by
   unfold Own Qae;rw [Vg,Vl,Qa9,Qdl];exact i
  have A:Bl w b:=(E.trans (y.mono oM)).grown m oM p;have Z:=m.size;clear i m h r u q M;go_wp2_with fail;go_ret;exact⟨v',rfl,R,A,oM⟩
noncomputable def dsK (l:List Lf)(p:List ByteArray)(y:Ky):Nat ->List Lf
 | 0=>[]
 | k+1=>if yes (nx p (gL l k)=Uq y)=true then dsK l p y k++[gL l k] else dsK l p y k
theorem Qb7(h:nx p (gL l k)=Uq y):dsK l p y (k+1)=dsK l p y k++[gL l k]:=by simp only [dsK];rw [if_pos (Qal h)]
theorem QbV(h:nx p (gL l k)≠Uq y):dsK l p y (k+1)=dsK l p y k:=by simp only [dsK];rw [if_neg (by rw [Qaj h];simp)]
theorem QaZ {l:List Lf}{p:List ByteArray}{y:Ky}{x:Lf}:∀{k:Nat},x∈dsK l p y k↔∃j,j<k/\ nx p (gL l j)=Uq y/\ gL l j=x
 | 0=>by simp [dsK]
 | k+1=>by
  have v:=QaZ (l:=l) (p:=p) (y:=y) (x:=x) (k:=k);by_cases h:nx p (gL l k)=Uq y
  ·rw [Qb7 h,Vk,UV,v];constructor
   ·rintro(⟨j,u,e⟩|rfl)
    ·exact⟨j,oM,e⟩
    ·exact⟨k,oM,h,rfl⟩
   ·rintro⟨j,u,m,q⟩;by_cases r:j=k
    ·subst r;exact .inr q.symm
    ·exact .inl ⟨j,oM,m,q⟩
  ·rw [QbV h,v];constructor
   ·rintro⟨j,u,e⟩;exact⟨j,oM,e⟩
   ·rintro⟨j,u,m,q⟩;by_cases r:j=k
    ·subst r;exact absurd m h
    ·exact⟨j,oM,m,q⟩
theorem QgS (l:List Lf)(p:List ByteArray)(y:Ky):∀k,(dsK l p y k).length<=k
 | 0=>by simp [dsK]
 | k+1=>by
  have j:=QgS l p y k;by_cases h:nx p (gL l k)=Uq y
  ·rw [Qb7 h];simp;exact j
  ·rw [QbV h];omega
def lfB (k:Int)(x:Lf):List Int:=uvF 9 x.r.toNat++(uvF 9 x.q.toNat++if k=1 then Qae x.v else [])
def mB (ls:List Lf)(k:Int):List Int:=uvF 9 ls.length++ls.flatMap (lfB k)
noncomputable def tB (l:List Lf):Nat ->List ByteArray ->List Int
 | 0,_=>[]
 | f+1,p=>uvF 9 (kS l p l.length).length++(kS l p l.length).flatMap fun y=>Qae y.1++([y.2]++if y.2=3 then tB l f (p++[y.1]) else mB (dsK l p y l.length) y.2)
noncomputable def kB (l:List Lf)(f:Nat)(p:List ByteArray)(y:Ky):List Int:=Qae y.1++([y.2]++if y.2=3 then tB l f (p++[y.1]) else mB (dsK l p y l.length) y.2)
theorem QfV (l:List Lf)(f:Nat)(p:List ByteArray):tB l (f+1) p=uvF 9 (kS l p l.length).length++(kS l p l.length).flatMap (kB l f p):=rfl
theorem Qbh:nx p x=Uq y↔(p <+:x.p/\ p.length<x.p.length)/\ Qas x.p (kd x.fl) p.length=y:=by
 unfold nx;by_cases h:p <+:x.p/\ p.length<x.p.length
 ·rw [if_pos (Qal h)];simp [h]
 ·rw [if_neg (by rw [Qaj h];simp)];simp [h]
theorem QfG:nx p x≠Up↔p <+:x.p/\ p.length<x.p.length:=by
 unfold nx;by_cases h:p <+:x.p/\ p.length<x.p.length
 ·rw [if_pos (Qal h)];simp [h]
 ·rw [if_neg (by rw [Qaj h];simp)];simp [h]
theorem Qhi (b:Bool):kd b=1 \/kd b=2:=by cases b<;>simp [kd]
theorem Qif:p++[s] <+:q↔(p <+:q/\ p.length<q.length)/\ gS q p.length=s:=by
 constructor
 ·rintro⟨r,rfl⟩;refine⟨⟨⟨s::r,oP⟩,oP⟩,?_⟩;simp [gS,UR]
 ·rintro⟨⟨⟨r,rfl⟩,h⟩,e⟩;cases r with
  | nil=>simp at h
  | cons t r=>
   simp [gS,UR] at e;subst e;exact⟨r,oP⟩
theorem Qdc:nx p x=Uq (s,3)↔nx (p++[s]) x≠Up:=by
 rw [Qbh,QfG,Qif];unfold Qas;constructor
 ·rintro⟨h,e⟩;have q:=congrArg Prod.fst e;have j:=congrArg Prod.snd e;dsimp only at q j;by_cases m:p.length+1<x.p.length
  ·exact⟨⟨h,q⟩,oU m⟩
  ·rw [if_neg m] at j;rcases Qhi x.fl with k|k<;>rw [k] at j<;>exact absurd j oD
 ·rintro⟨⟨h,e⟩,m⟩;refine⟨h,?_⟩;rw [if_pos (oU m),e]
theorem Qhs(hy:y.2≠3):nx p x=Uq y↔Way x=Qad p 3++[y]:=by
 rw [<- Qid];constructor
 ·intro h;have k:=Qid.1 h;rw [Qbh] at k;obtain⟨⟨_,m⟩,e⟩:=k;have j:=congrArg Prod.snd e;unfold Qas at j;dsimp only at j;have q:¬p.length+1<x.p.length:=fun hh=>by rw [if_pos hh] at j;exact hy j.symm
  refine(h.eq_of_length ?_).symm;simp [Way,QaS];omega
 ·intro h;rw [h];exact List.prefix_refl _
theorem Qb3(hy:y.2≠3)(h:nx p x=Uq y):x.p=p++[y.1]/\ kd x.fl=y.2:=by
 rw [Qbh] at h;obtain⟨⟨r,m⟩,e⟩:=h;have k:=congrArg Prod.fst e;have j:=congrArg Prod.snd e;unfold Qas at k j;dsimp only at k j;have q:¬p.length+1<x.p.length:=fun hh=>by rw [if_pos hh] at j;exact hy j.symm
 rw [if_neg q] at j;exact⟨((Qif.2 ⟨⟨r,m⟩,k⟩).eq_of_length oS).symm,j⟩
theorem QjP {a b:Bool}(h:kd a=kd b):a=b:=by cases a<;>cases b<;>simp [kd] at h ⊢
theorem QeW {R F T:Nat ->Int}{n:Nat}{l:List Lf}{p:List ByteArray}{y:Ky}(h:QbU R F T n l l.length)(hy:y.2≠3):∀k,k<=l.length ->((dsK l p y k).map fun x=>((x.r,x.q):Dt)).Pairwise (fun x y=>Qbg x y<0)
 | 0,_=>by simp [dsK]
 | k+1,hk=>by
  have u:=QeW (p:=p) h hy k oM;by_cases e:nx p (gL l k)=Uq y
  ·rw [Qb7 e,Vl];refine List.pairwise_append.2 ⟨u,oP,fun a ha b hb=> ?_⟩;simp only [Vm,Vo,UV] at hb;subst hb;obtain⟨x,g,rfl⟩:=List.mem_map.1 ha;obtain⟨j,z,v,rfl⟩:=QaZ.1 g;have m:=h.lt (i:=j) k z oM;obtain⟨s,t⟩:=Qb3 hy v;obtain⟨A,o⟩:=Qb3 hy e;unfold QaQ at m;rw [s,A,t,o,QhM.2 rfl,show QaV y.2 y.2=0 from QaH.int.irr _] at m;simpa [orI,Qms,Qbg] using m
  ·rw [QbV e];exact u
theorem Qgq{ts:List Dt}(h:QbU R F T n l l.length)(hy:y.2≠3)(h1:ts.Pairwise (fun x y=>Qbg x y<0))(h2:∀d,d∈ts↔Mk l l.length (Qad p 3++[y]) d≠Up):ts=(dsK l p y l.length).map fun x=>((x.r,x.q):Dt):=by
 refine QaH.dot.uniq h1 (QeW h hy _ zL) fun d=> ?_;rw [h2,QeL,Vn];constructor
 ·rintro⟨j,m,k,u⟩;exact⟨gL l j,QaZ.2 ⟨j,m,(Qhs hy).2 k,rfl⟩,u⟩
 ·rintro⟨x,v,e⟩;obtain⟨j,m,k,rfl⟩:=QaZ.1 v;exact⟨j,m,(Qhs hy).1 k,e⟩
theorem Qg7(hy:y.2≠3)(hd:Dis l l.length)(hx:x∈dsK l p y l.length):Mk l l.length (Qad p 3++[y]) (x.r,x.q)=Uq x.v:=by
 obtain⟨j,m,k,rfl⟩:=QaZ.1 hx;exact(Qjd hd).2 ⟨j,m,(Qhs hy).1 k,rfl,rfl⟩
theorem QfW (p:List ByteArray)(s:ByteArray):Qad (p++[s]) 3=Qad p 3++[(s,3)]:=by
 rw [QkR,QkR,Vg,Vp,Vq,Vl];congr 1
 ·refine Vr fun i hi=> ?_;rw [Qj8 (List.prefix_append p [s]) (oU hi)]
 ·simp [gS,UR]
noncomputable def uK (l:List Lf)(p:List ByteArray):Nat ->Nat
 | 0=>0
 | k+1=>uK l p k+(if yes (nx p (gL l k)≠Up)=true then 1 else 0)
theorem QpZ (l:List Lf)(p:List ByteArray):∀k,uK l p k<=k
 | 0=>Uu _
 | k+1=>by have:=QpZ l p k;simp only [uK];split<;>omega
theorem QkJ (f:Ky ->Nat)(z:Ky):∀ys:List Ky,ys.Nodup ->(ys.map fun y=>f y+if y=z then 1 else 0).sum<=(ys.map f).sum+(if yes (z∈ys)=true then 1 else 0)
 | [],_=>oP
 | a::r,h=>by
  have j:=QkJ f z r (List.nodup_cons.1 h).2;have k:=(List.nodup_cons.1 h).1;simp only [Vm,Vs];by_cases e:a=z
  ·subst e;rw [Qaj k] at j;rw [Qal (Vt),if_pos rfl,if_pos rfl];simp at j;omega
  ·rw [if_neg e];have:(z∈a::r)=(z∈r):=(by simp [show z≠a from fun h=>e h.symm]);rw [this];omega
theorem QmT (l:List Lf)(p:List ByteArray)(ys:List Ky)(hn:ys.Nodup):∀k,(ys.map fun y=>(dsK l p y k).length).sum<=uK l p k
 | 0=>by
  have:(ys.map fun y=>(dsK l p y 0).length)=ys.map fun _=>0:=by simp [dsK]
  have z0:∀ys:List Ky,(ys.map fun _=>0).sum=0:=fun ys=>by
   induction ys with
   | nil=>rfl
   | cons a r m=>simp only [Vm,Vs,m]
  rw [this,z0];exact Uv _
 | k+1=>by
  have m:=QmT l p ys hn k;cases h:nx p (gL l k) with
  | none=>
   have e:(ys.map fun y=>(dsK l p y (k+1)).length)=ys.map fun y=>(dsK l p y k).length:=Vr fun y _=>by rw [QbV (by rw [h];simp)]
   rw [e];simp only [uK];omega
  | some z=>
   have e:(ys.map fun y=>(dsK l p y (k+1)).length)=ys.map fun y=>(dsK l p y k).length+if y=z then 1 else 0:=Vr fun y _=>by
    by_cases j:y=z
    ·subst j;rw [Qb7 h,if_pos rfl];simp
    ·rw [QbV (by rw [h];simpa using fun e=>j e.symm),if_neg j];omega
   have u:=QkJ (fun y=>(dsK l p y k).length) z ys hn;have q:uK l p (k+1)=uK l p k+1:=(by simp only [uK];rw [if_pos (Qal (by rw [h];simp))]);rw [e,q];have v:(if yes (z∈ys)=true then 1 else 0)<=1:=(by split<;>omega);omega
theorem Qna (l:List Lf)(p:List ByteArray)(s:ByteArray):∀k,uK l (p++[s]) k=(dsK l p (s,3) k).length
 | 0=>rfl
 | k+1=>by
  have j:=Qna l p s k;by_cases h:nx p (gL l k)=Uq (s,3)
  ·rw [Qb7 h];simp only [uK];rw [if_pos (Qal (Qdc.1 h)),j];simp
  ·rw [QbV h];simp only [uK];rw [if_neg (by rw [Qaj (fun hh=>h (Qdc.2 hh))];simp),j];rfl
theorem Qcu {α:Type}(f:α ->List Int)(g:α ->Nat)(C:Nat):∀ys:List α,(∀y∈ys,(f y).length<=C*g y) ->(ys.flatMap f).length<=C*(ys.map g).sum
 | [],_=>oP
 | a::r,h=>by
  have k:=Qcu f g C r (fun y hy=>h y (List.mem_cons_of_mem _ hy));have j:=h a (Vt);simp only [List.flatMap_cons,Vg,Vm,Vs,Nat.mul_add];omega
theorem QaL (s:ByteArray):(Qae s).length<=10+s.size:=by
 have:=(Qah 9 s.size).1;simp only [Qae,Vg,Qa9];omega
theorem Qp5 {ls:List Lf}(k:Int)(h:∀x∈ls,x.v.size<=200):(mB ls k).length<=10+230*ls.length:=by
 have t:=(Qah 9 ls.length).1;have j:=Qcu (lfB k) (fun _=>1) 230 ls (fun x hx=>by
  have u:=(Qah 9 x.r.toNat).1;have y:=(Qah 9 x.q.toNat).1;have z:=QaL x.v;have g:=h x hx;unfold lfB;simp only [Vg];split
  ·omega
  ·simp;omega)
 have m:∀ls:List Lf,(ls.map fun _=>1).sum=ls.length:=fun ls=>by
  induction ls with
  | nil=>rfl
  | cons a r ih=>simp only [Vm,Vs,ih,Vh];omega
 rw [m] at j;unfold mB;simp only [Vg];omega
theorem Qeu(hx:Qc0 x)(h:nx p x=Uq y):y.1.size<=40:=by
 rw [Qbh] at h;obtain⟨⟨_,k⟩,e⟩:=h;have j:=congrArg Prod.fst e;unfold Qas at j;dsimp only at j;rw [<- j];exact(hx.1.2.2 _ k).2
theorem QmX {R F T:Nat ->Int}{n:Nat}{l:List Lf}(h:QbU R F T n l l.length):∀f p,(tB l f p).length<=10+(400+100*f)*uK l p l.length
 | 0,p=>by simp [tB]
 | f+1,p=>by
  have u:=QmX h f;obtain⟨v,z⟩:=Qem p h l.length zL;have r:(kS l p l.length).Nodup:=v.imp fun{a b} hab e=>by subst e;rw [QaH.key.irr] at hab;omega
  have t:=(Qah 9 (kS l p l.length).length).1;have o:=Qcu (kB l f p) (fun y=>(dsK l p y l.length).length) (500+100*f) (kS l p l.length) (fun y hy=>by
   obtain⟨j,m,e⟩:=(z y).1 hy;have M:1<=(dsK l p y l.length).length:=List.length_pos_of_mem (QaZ.2 ⟨j,m,e,rfl⟩);have O:=QaL y.1;have Q:=Qeu (h j m).1 e;have g:(if y.2=3 then tB l f (p++[y.1]) else mB (dsK l p y l.length) y.2).length<=10+(400+100*f)*(dsK l p y l.length).length:=by
    by_cases k:y.2=3
    ·rw [if_pos k];have:=u (p++[y.1]);rw [Qna,show (y.1,(3:Int))=y by rw [<- k]] at this;exact this
    ·rw [if_neg k];have:=Qp5 (ls:=dsK l p y l.length) y.2 (fun x hx=>by
      obtain⟨i,hi,_,rfl⟩:=QaZ.1 hx;exact(h i hi).1.2.1)
     have A:230*(dsK l p y l.length).length<=(400+100*f)*(dsK l p y l.length).length:=Nat.mul_le_mul_right _ oM;omega
   unfold kB;simp only [Vg,Vp];have E:(500+100*f)*(dsK l p y l.length).length=(400+100*f)*(dsK l p y l.length).length+100*(dsK l p y l.length).length:=(by rw [<- Nat.add_mul];congr 1;omega);omega)
  have q:=QmT l p _ r l.length;have s:(500+100*f)*((kS l p l.length).map fun y=>(dsK l p y l.length).length).sum<=(500+100*f)*uK l p l.length:=Nat.mul_le_mul_left _ q;rw [QfV,Vg,show 400+100*(f+1)=500+100*f by omega];omega
def Iv (l:List Lf)(p:List ByteArray)(i e:Nat):Prop:=(∀j,j<l.length ->(nx p (gL l j)≠Up↔i<=j/\ j<e))/\ i<=e/\ e<=l.length
theorem Iv.start(h:Iv l p i e):∀k,k<=i ->kS l p k=[]
 | 0,_=>rfl
 | k+1,hk=>by
  rw [QcD]
  ·exact h.start k oM
  ·have:=h.1 k (oH h.2);cases e1:nx p (gL l k) with
   | none=>rfl
   | some y=>rw [e1] at this;have:=this.1 oP;omega
theorem Iv.stop(h:Iv l p i e):∀k,e<=k ->k<=l.length ->kS l p k=kS l p e:=by
 intro k m q;induction k with
 | zero=>rw [show e=0 by omega]
 | succ k ih=>
  by_cases j:e=k+1
  ·rw [j]
  ·rw [QcD,ih oM oM];have:=h.1 k oM;cases e1:nx p (gL l k) with
   | none=>rfl
   | some y=>rw [e1] at this;have:=this.1 oP;omega
section
variable {R F T : Nat -> Int} {n : Nat} {l : List Lf} {p : List ByteArray} {i e j g : Nat} {y : Ky}
theorem Qf2 (hy:y ∉ kS l p j)(hg:∀t,t<g ->nx p (gL l (j+t))=Uq y):∀t,t<g ->kS l p (j+(t+1))=kS l p j++[y]
 | 0,h=>by
  show kS l p (j+1)=_;have k:=hg 0 h;rw [Vc] at k;rw [QcE k,if_neg (by rw [Qaj (fun e=>hy (Vj e))];simp)]
 | t+1,h=>by
  have m:=Qf2 hy hg t oM;show kS l p (j+(t+1)+1)=_;rw [QcE (hg (t+1) h),m,if_pos (Qal oP)]
theorem Qlq (hl:QbU R F T n l l.length)(hI:Iv l p i e)(hj:i<=j)(hy:y ∉ kS l p j)(h1:1<=g)(hge:j+g<=e)(hg:∀t,t<g ->nx p (gL l (j+t))=Uq y)(hs:j+g<e ->nx p (gL l (j+g))≠Uq y):
  ∀t,t<l.length ->(nx p (gL l t)=Uq y↔j<=t/\ t<j+g):=fun t ht=>by
 have M:=hI.2.2;constructor
 ·intro k;obtain⟨_,u⟩:=Qem p hl j oM;refine⟨Nat.le_of_not_lt fun h=>hy ((u y).2 ⟨t,h,k⟩),Nat.lt_of_not_le fun h=> ?_⟩;have O:=(hI.1 t ht).1 (by rw [k];simp);have m:=hs oM;cases ez:nx p (gL l (j+g)) with
  | none=>have:=(hI.1 (j+g) oM).2 oM;exact this ez
  | some z=>
   have r:z≠y:=fun e=>m (by rw [ez,e]);have v:=QbQ (hl.lt (i:=j+(g - 1)) (j+g) oM oM) (hg (g - 1) oM) ez;have o:Qb9 y z≠0:=fun e=>r ((QaH.key.z y z).1 e).symm;by_cases q:t=j+g
   ·subst q;exact m k
   ·have b:=QbQ (hl.lt (i:=j+g) t oM ht) ez k;have s:=(QaH.key.neg y z).1 oM;omega
 ·rintro⟨A,E⟩;have:=hg (t - j) oM;rwa [show j+(t - j)=t by omega] at this
theorem Qlp (hl:QbU R F T n l l.length)(hI:Iv l p i e)(hy:y ∉ kS l p j)(h1:1<=g)(hge:j+g<=e)(hg:∀t,t<g ->nx p (gL l (j+t))=Uq y)(hs:j+g<e ->nx p (gL l (j+g))≠Uq y){z:Ky}(hlt:j+g<e)(hz:nx p (gL l (j+g))=Uq z):z ∉ kS l p (j+g):=fun k=>by
 have E:=hI.2.2;have q:=Qf2 hy hg (g - 1) oM;rw [show j+(g - 1+1)=j+g by omega] at q;rw [q,Vk,UV] at k;have r:z≠y:=fun e=>hs hlt (by rw [hz,e]);rcases k with k|k
 ·obtain⟨_,h⟩:=Qem p hl j oM;obtain⟨t,v,u⟩:=(h z).1 k;have m:=hg 0 oM;rw [Vc] at m;have o:=QbQ (hl.lt (i:=t) j v oM) u m;have b:=QbQ (hl.lt (i:=j) (j+g) oM oM) m hz;have s:Qb9 z y≠0:=fun e=>r ((QaH.key.z z y).1 e);have A:=(QaH.key.neg z y).1 oM;omega
 ·exact r k
theorem Qlo (ho:∀t,t<l.length ->(nx p (gL l t)=Uq y↔j<=t/\ t<j+g))(hge:j+g<=l.length):dsK l p y l.length=(UT g).map fun t=>gL l (j+t):=by
 have q:∀k,k<=l.length ->dsK l p y k=(UT (min (k - j) g)).map fun t=>gL l (j+t):=by
  intro k;induction k with
  | zero=>intro _;simp [dsK]
  | succ k m=>
   intro u;have m:=m oM;by_cases h:nx p (gL l k)=Uq y
   ·have:=(ho k oM).1 h;rw [Qb7 h,m,show min (k+1 - j) g=(k - j)+1 by omega,show min (k - j) g=k - j by omega,Vq,Vl];simp [show j+(k - j)=k by omega]
   ·have r:¬(j<=k/\ k<j+g):=fun hh=>h ((ho k oM).2 hh);rw [QbV h,m];congr 2;omega
 rw [q _ zL,show min (l.length - j) g=g by omega]
theorem Qnx {s:ByteArray}(ho:∀t,t<l.length ->(nx p (gL l t)=Uq (s,3)↔j<=t/\ t<j+g))(hge:j+g<=l.length):Iv l (p++[s]) j (j+g):=
 ⟨fun t ht=>by rw [<- Qdc,ho t ht],oM,hge⟩
end
def mk3 (k0 c:Nat)(i:Nat):Int:=((k0+3*i+c:Nat):Int)
theorem Ql7 (B g n cap:Nat)(k0:Nat)(ys:List Value)(w:Ur)(hk0:k0<=9000000000000)(hn1:n<=1000000000)(ho:w.ownsRow B 123 3 (Uf (Uc g) n cap) n ys):
  Cl 93 #[Uf (Uc g) n cap,Ud (k0:Int)] w fun e w'=>e=Ui (Ud ((k0+3*n:Nat):Int))/\ Below B w w'/\ w'.heap.size=w.heap.size/\ QaD w' (Uc g) n (mk3 k0 0) (mk3 k0 1) (mk3 k0 2)/\ (∀b,b≠g ->w'.heap[b]? =w.heap[b]?):=by
 go_enter func93,ntmps93;go_wp2_with fail;go_loopw [1,5] (fun k i wr=>∃(j m:Nat),j<=n/\ m=k0+3*j/\ i=Ud (j:Int)/\ k=Ud (m:Int)/\ Hid (Below B w wr)/\ Hid (wr.heap.size=w.heap.size)/\ Hid (∀b,b≠g ->wr.heap[b]? =w.heap[b]?)/\∃xs:List Value,Hid (wr.ownsRow B 123 3 (Uf (Uc g) n cap) n xs)/\ Hid (∀t,t<j ->xs[t*3]? =Uq (Ud (mk3 k0 0 t))/\ xs[t*3+1]? =Uq (Ud (mk3 k0 1 t))/\ xs[t*3+2]? =Uq (Ud (mk3 k0 2 t)))) (fun _ i _=>n - (intOf i).toNat);case atStart=>exact⟨0,k0,Uv _,rfl,rfl,rfl,hid (Below.refl _ _),hid rfl,hid (fun _ _=>rfl),_,hid ho,hid (fun t G=>oM)⟩
 case round=>
  clear ho;obtain⟨j,m,L,v,rfl,rfl,h,A,o,xs,q,E⟩:=hrel;by_cases Z:j<n
  ·have I:=q.frozenAt (j*3);have J:=q.frozenAt (j*3+1);have K:=q.frozenAt (j*3+2);obtain⟨F,X⟩:=QaA q (j*3) oM;obtain⟨P,C⟩:=QaA q (j*3+1) oM;obtain⟨R,D⟩:=QaA q (j*3+2) oM;have Y:=q.1;have u:=hid (((q.stored (j*3) (Ud (m:Int))).1.stored (j*3+1) (Ud ((m:Int)+1))).1.stored (j*3+2) (Ud ((m:Int)+1+1))).1;have U:Hid (∀t,t<j+1 ->(((xs.set (j*3) (Ud (m:Int))).set (j*3+1) (Ud ((m:Int)+1))).set (j*3+2) (Ud ((m:Int)+1+1)))[t*3]? =Uq (Ud (mk3 k0 0 t))/\ (((xs.set (j*3) (Ud (m:Int))).set (j*3+1) (Ud ((m:Int)+1))).set (j*3+2) (Ud ((m:Int)+1+1)))[t*3+1]? =Uq (Ud (mk3 k0 1 t))/\ (((xs.set (j*3) (Ud (m:Int))).set (j*3+1) (Ud ((m:Int)+1))).set (j*3+2) (Ud ((m:Int)+1+1)))[t*3+2]? =Uq (Ud (mk3 k0 2 t))):=by
    intro t G;by_cases H:t=j
    ·subst H;refine⟨?_,?_,?_⟩
     ·rw [UP oM,UP oM,UQ oM];unfold mk3;congr 2;omega
     ·rw [UP oM,UQ oS];unfold mk3;congr 2;omega
     ·rw [UQ oS];unfold mk3;congr 2;omega
    ·obtain⟨x0,y,z⟩:=E t oM;refine⟨?_,?_,?_⟩
     ·rw [UP oM,UP oM,UP oM];exact x0
     ·rw [UP oM,UP oM,UP oM];exact y
     ·rw [UP oM,UP oM,UP oM];exact z
   have r:=(q.lt g rfl).1;have M:=hid (((h.setCell (p:=(Ua g (j*3))) r (Ud (m:Int))).setCell (p:=(Ua g (j*3+1))) r (Ud ((m:Int)+1))).setCell (p:=(Ua g (j*3+2))) r (Ud ((m:Int)+1+1)));have V:Hid ((((wr.setCell (Ua g (j*3)) (Ud (m:Int))).setCell (Ua g (j*3+1)) (Ud ((m:Int)+1))).setCell (Ua g (j*3+2)) (Ud ((m:Int)+1+1))).heap.size=w.heap.size):=(by show _=_;rw [<- A.out];simp [UC]);have Q:Hid (∀b,b≠g ->(((wr.setCell (Ua g (j*3)) (Ud (m:Int))).setCell (Ua g (j*3+1)) (Ud ((m:Int)+1))).setCell (Ua g (j*3+2)) (Ud ((m:Int)+1+1))).heap[b]? =w.heap[b]?):=fun b hb=>(Below.heap_setCell _ _ _ _ hb).trans ((Below.heap_setCell _ _ _ _ hb).trans ((Below.heap_setCell _ _ _ _ hb).trans (o b hb)));clear Y r;have N:m<=9000000000000+3000000000:=oM;have O:=hid v;clear v;go_wp2_with fail;go_roundw;case rel=>exact⟨j+1,m+3,Z,oH O,oN,oN,M,V,Q,_,u,U⟩
   case measure=>exact oE
  ·obtain rfl:j=n:=oM;have s:QaD wr (Uc g) j (mk3 k0 0) (mk3 k0 1) (mk3 k0 2):=.inr ⟨g,0,rfl,(q.lt g rfl).2,fun i hi=>by
    obtain⟨x0,y,z⟩:=E i hi;rw [Uw,q.cellAt _ oM,q.cellAt _ oM,q.cellAt _ oM];exact⟨x0,y,z⟩⟩
   have u:=hid s;clear s;subst v;go_wp2_with fail;go_ret;exact⟨oP,h,A,u,o⟩
theorem Qes (B g n cap:Nat)(k0:Nat)(ys:List Value)(w:Ur)(hB:B<=w.heap.size)(hk0:k0<=9000000000000)(hn1:n<=1000000000)(ho:w.ownsRow B 123 3 (Uf (Uc g) n cap) n ys):
  Cl 58 #[Uo #[Uf (Uc g) n cap],Ud (k0:Int)] w fun e w'=>e=Ui (Ud ((k0+3*n:Nat):Int))/\ Below B w w'/\ QaD w' (Uc g) n (mk3 k0 0) (mk3 k0 1) (mk3 k0 2)/\ w.heap.size<=w'.heap.size/\ (∀b,b<w.heap.size ->b≠g ->w'.heap[b]? =w.heap[b]?):=by
 have k:Hid (Bl w (w.alloc (Uj #[Uf (Uc g) n cap] 38))):=(Below.refl _ _).alloc (Uu _) _;go_enter func58,ntmps58;go_wp2_with fail;refine(Ql7 B g n cap k0 ys _ hk0 hn1 (ho.alloc _)).mono ?_;rintro e w1 ⟨rfl,m,r,q,j⟩;have h:w1.cell? (Ub w.heap.size)=Uq (Uf (Uc g) n cap):=by
  have t:=(ho.lt g rfl).2;rw [UB (j w.heap.size oM)];simp
 have u:=hid m;have z:=hid r;have y:=hid q;have v:=hid j;clear m r q j;go_wp2_with fail;go_ret;refine⟨oP,?_,y,?_,fun b hb hg=>(v b hg).trans (k.block b hb)⟩
 ·exact(k.mono hB).trans u
 ·have:=z.out;simp at this;omega
def Qjs:Nat ->Nat ->ByteArray ->ByteArray
 | 0,_,s=>s
 | n+1,k,s=>if k=0 then s else Qjs n (k/10) (strOfNums [48+(k:Int)%10]++s)
def mkT (k:Nat):ByteArray:=if k=0 then⟨#[109,48]⟩ else⟨#[109]⟩++Qjs k k ByteArray.empty
theorem Qju:Qjs n 0 s=s:=by cases n<;>simp [Qjs]
theorem Qjt(hk:0<k)(hn:k<=n):Qjs n k s=Qjs (n - 1) (k/10) (strOfNums [48+(k:Int)%10]++s):=by
 obtain⟨m,rfl⟩:∃m,n=m+1:=⟨n - 1,oM⟩;simp only [Qjs,Uz];rw [if_neg oM]
theorem Qch (k:Nat)(w:Ur)(hk:k<=10000000000000):
  Cl 92 #[Ud (k:Int)] w (Rt w (Um (mkT k))):=by
 by_cases h:k=0
 ·subst h;go_enter func92,ntmps92;go_wp2_with fail;go_ret;exact⟨rfl,zI⟩
 ·have Q:decide ((k:Int)<=0)=false:=oS;have U:decide (k<=0)=false:=oS;go_enter func92,ntmps92;go_wp2_with fail;go_loopw [0,3] (fun q s wr=>∃(j n:Nat) (t:ByteArray),j<=n/\ j<=k/\ q=Ud (j:Int)/\ s=Um t/\ Hid (Qjs k k ByteArray.empty=Qjs n j t)/\ t.size+n<=10000000000000+1/\ Hid (Bl w wr)) (fun q _ _=>(intOf q).toNat);case atStart=>exact⟨k,k,ByteArray.empty,Uu _,Uu _,rfl,rfl,hid rfl,oS,hid zI⟩
  case round=>
   obtain⟨j,n,t,M,V,rfl,rfl,z,H,r⟩:=hrel;by_cases O:0<j
   ·have I:decide (0<(j:Int))=true:=oS;have J:decide (0<j)=true:=oS;have E:=run_convert_bytes_arg (P:=prog) (wr.alloc (Uj #[Ug .u8 (48+(j:Int)%10)] 5)) 30 5 underlying30 underlying5 wr.heap.size 0 1 1 [48+(j:Int)%10] rfl (fun i hi=>by(obtain rfl:i=0:=oM);simp) 9 underlying9;have y:=strOfNums_size [48+(j:Int)%10];have u:Hid (Qjs k k ByteArray.empty=Qjs (n - 1) (j/10) (strOfNums [48+(j:Int)%10]++t)):=hid (by rw [z.out,Qjt O M]);obtain⟨D,g⟩:=zE (strOfNums [48+(j:Int)%10]);rw [g] at E y u;have G:D.size=1:=y;obtain⟨m,v⟩:=zE (j/10);have Z:IntKind.i64.wrap ((j:Int).tdiv 10)=(m:Int):=(by rw [IntKind.wrap_i64,Int.tdiv_eq_ediv_of_nonneg oM];omega);rw [v] at u;have Y:m<j:=oM;have b:=hid v;clear v;have A:=fun w=>run_string_add_sum (P:=prog) (w:=w) D t oM;have o:=hid (r.alloc r.size (Uj #[Ug .u8 (48+(j:Int)%10)] 5));clear g y;go_wp2_with fail;go_roundw;case rel=>exact⟨m,n - 1,D++t,oM,oM,by have:=b.out;congr 1;omega,rfl,u,by rw [ByteArray.size_append];omega,o⟩
    case measure=>exact oE
   ·obtain rfl:j=0:=oM;have p:Hid (mkT k=⟨#[109]⟩++t):=hid (by unfold mkT;rw [if_neg h,z.out,Qju]);have A:=fun w=>run_string_add_sum (P:=prog) (w:=w) ⟨#[109]⟩ t (by have:(⟨#[109]⟩:ByteArray).size=1:=rfl;omega);go_wp2_with fail;go_ret;exact⟨by rw [p.out];rfl,r⟩
theorem QcX{cur:Array Value}{f:Nat×Nat}(h:w.heap[g]? =Uq (.cells cur t f)):(w.setCell (Ua g i) u).heap[g]? =Uq (.cells (cur.setIfInBounds i u) t f):=by
 simp [UC,Array.getElem?_modify,h]
def Wr (w:Ur)(g:Nat)(t:TypeId)(n:Nat)(C:Nat ->Value):Prop:=∃cur,w.heap[g]? =Uq (.cells cur t (0,0))/\ n<=cur.size/\∀i,i<n ->cur[i]? =Uq (C i)
theorem Wr.cell{C:Nat ->Value}(h:Wr w g t n C)(hi:i<n):w.cell? (Ua g i)=Uq (C i):=by
 obtain⟨m,j,q,k⟩:=h;simp [World.cell?,j,k i hi]
theorem Wr.frozen{C:Nat ->Value}(h:Wr w g t n C)(i:Nat):w.frozen? (Ua g i)=false:=by
 obtain⟨k,j,m,q⟩:=h;simp [World.frozen?,j]
theorem Wr.set{C:Nat ->Value}(h:Wr w g t n C)(i:Nat)(u:Value):Wr (w.setCell (Ua g i) u) g t n (fun j=>if j=i then u else C j):=by
 obtain⟨k,m,q,r⟩:=h;refine⟨_,QcX m,oU q,fun j hj=> ?_⟩;rw [Array.getElem?_setIfInBounds];by_cases e:i=j
 ·subst e;rw [if_pos rfl,if_pos oM];simp
 ·rw [if_neg e];show k[j]? =Uq (if j=i then u else C j);rw [if_neg (Ne.symm e)];exact r j hj
theorem Wr.same{C:Nat ->Value}(h:Wr w g t n C)(e:w'.heap[g]? =w.heap[g]?):Wr w' g t n C:=by
 obtain⟨j,k,r⟩:=h;exact⟨j,e.trans k,r⟩
theorem Wr.ext{C C':Nat ->Value}(h:Wr w g t n C)(e:∀i,i<n ->C i=C' i):Wr w g t n C':=by
 obtain⟨j,k,m,q⟩:=h;exact⟨j,k,m,fun i hi=>by rw [<- e i hi];exact q i hi⟩
theorem Wr.lt{C:Nat ->Value}(h:Wr w g t n C):g<w.heap.size:=by
 obtain⟨k,j,_⟩:=h;exact(Array.getElem?_eq_some_iff.1 j).1
theorem PMk.wr(h:PMk w g n):∃C,Wr w g 9 n C:=by
 obtain⟨j,k,m⟩:=h;exact⟨fun i=>j.getD i default,j,k,m,fun i hi=>by simp [Array.getD,show i<j.size by omega]⟩
theorem Wr.pmk{C:Nat ->Value}(h:Wr w g 9 n C):PMk w g n:=by
 obtain⟨j,k,m,_⟩:=h;exact⟨j,k,m⟩
theorem PMk.any(h:PMk w g n):PMk (w.setCell (Ua b i) u) g n:=by
 by_cases e:b=g
 ·subst e;obtain⟨m,j,k⟩:=h;exact⟨_,QcX j,oU k⟩
 ·exact h.set _ _ (Ne.symm e)
theorem Qi7(h:w.grownBy w' (Uq g))(i:Nat)(u:Value):w.grownBy (w'.setCell (Ua g i) u) (Uq g):=
 ⟨h.os,h.tape,h.output,by simpa [UC] using h.size,fun k hk hne=>(zH _ _ _ _ (fun e=>hne (by rw [e]))).trans (h.block k hk hne)⟩
theorem Qgu(h:w.grownBy w1 (Uq g))(hb:Bl w1 w'):w.grownBy w' (Uq g):=
 ⟨hb.os.trans h.os,hb.tape.trans h.tape,hb.output.trans h.output,Ux h.size hb.size,fun k hk hne=>(hb.block k (Ut hk h.size)).trans (h.block k hk hne)⟩
theorem QgX(r:Option Nat):w.grownBy w r:=⟨rfl,rfl,rfl,Uu _,fun _ _ _=>rfl⟩
theorem Qet (g n c k0:Nat)(C:Nat ->Value)(w:Ur)(hk:k0+n<=10000000000000)(h:Wr w g 9 n C):
  Cl 91 #[Uf (Uc g) n c,Ud (k0:Int)] w fun e w'=>e=Ui (Ud ((k0+n:Nat):Int))/\ w.grownBy w' (Uq g)/\ Wr w' g 9 n (fun i=> Um (mkT (k0+i)))/\∀g' n',PMk w g' n' ->PMk w' g' n':=by
 have G:=hid h;clear h;go_enter func91,ntmps91;go_wp2_with fail;go_loopw [1,5] (fun q i wr=>∃(j m:Nat),j<=n/\ m=k0+j/\ i=Ud (j:Int)/\ q=Ud (m:Int)/\ Hid (w.grownBy wr (Uq g))/\ Hid (Wr wr g 9 n (fun t=>if t<j then Um (mkT (k0+t)) else C t))/\ Hid (∀g' n',PMk w g' n' ->PMk wr g' n')) (fun _ i _=>n - (intOf i).toNat);case atStart=>exact⟨0,k0,Uv _,rfl,rfl,rfl,hid (QgX _),hid (G.ext fun i _=>oP),hid (fun _ _ h=>h)⟩
 case round=>
  obtain⟨j,m,L,y,rfl,rfl,p,r,A⟩:=hrel;by_cases Q:j<n
  ·have X:(0:Int)<=(j:Int):=UZ _;have B:(j:Int)<(n:Int):=oM;have o:=hid (Qch m wr oM);have k:=hid y;obtain⟨s,b⟩:=zE (mkT m);rw [b] at o;have Z:=hid b;clear b y;go_wp2_with fail;refine o.mono ?_;rintro e w1 ⟨rfl,v⟩;have u:=r.same (v.block g r.lt);have E:=u.cell Q;have K:=u.frozen j;rw [if_neg oM] at E;have V:=hid (Qi7 (Qgu p v) j (Um s));have z:=hid (u.set j (Um s));have Y:Hid (∀g' n',PMk w g' n' ->PMk (w1.setCell (Ua g j) (Um s)) g' n'):=hid (fun g' n' h=>by
    have I:=A g' n' h;obtain⟨H,O,J⟩:=I;exact PMk.any ⟨H,(v.block g' (Array.getElem?_eq_some_iff.1 O).1).trans O,J⟩)
   have N:(m:Int)+1<=9223372036854775807:=oH k;clear v o u;obtain⟨v0,U⟩:=zE (C j);rw [U] at E;clear U;go_wp2_with fail;go_roundw;case rel=>
    refine⟨j+1,m+1,Q,oH k,oN,oN,V,hid (z.ext fun i hi=> ?_),Y⟩;by_cases e:i=j
    ·subst e;rw [if_pos rfl,if_pos oM,<- Z.out,k.out]
    ·rw [if_neg e];by_cases M:i<j
     ·rw [if_pos M,if_pos oM]
     ·rw [if_neg M,if_neg oM]
   case measure=>exact oE
  ·obtain rfl:j=n:=oM;have z:=hid (r.ext (C':=fun i=> Um (mkT (k0+i))) fun i hi=>if_pos hi);have k:=hid y;clear y r;go_wp2_with fail;go_ret;exact⟨by rw [<- k.out];rfl,p,z,A⟩
structure Btw (lo hi:Nat)(w w':Ur):Prop where
 os:w'.os=w.os
 tape:w'.tape=w.tape
 output:w'.output=w.output
 size:w.heap.size<=w'.heap.size
 block:∀g,g<w.heap.size ->(g<lo \/hi<=g) ->w'.heap[g]? =w.heap[g]?
theorem Btw.refl (lo hi:Nat)(w:Ur):Btw lo hi w w:=⟨rfl,rfl,rfl,Uu _,fun _ _ _=>rfl⟩
theorem Btw.trans{a b c:Ur}(h:Btw lo hi a b)(k:Btw lo hi b c):Btw lo hi a c:=
 ⟨k.os.trans h.os,k.tape.trans h.tape,k.output.trans h.output,Ux h.size k.size,fun g hg ho=>(k.block g (Ut hg h.size) ho).trans (h.block g hg ho)⟩
theorem Btw.of(h:w.grownBy w' (Uq g))(h1:lo<=g)(h2:g<hi):Btw lo hi w w':=
 ⟨h.os,h.tape,h.output,h.size,fun k hk ho=>h.block k hk (fun e=>oI e)⟩
theorem Btw.bw(h:Bl w w'):Btw lo hi w w':=⟨h.os,h.tape,h.output,h.size,fun k hk _=>h.block k hk⟩
theorem Btw.set(h:Btw lo hi w w')(q:Us)(u:Value)(h1:lo<=q.block)(h2:q.block<hi):Btw lo hi w (w'.setCell q u):=
 ⟨h.os,h.tape,h.output,by simpa [UC] using h.size,fun g hg ho=>(zH _ _ _ _ oM).trans (h.block g hg ho)⟩
theorem Btw.low(h:Btw lo hi w w')(hl:lo<=w.heap.size):Below lo w w':=⟨h.os,h.tape,h.output,h.size,fun g hg=>h.block g oM (.inl hg)⟩
structure LTo (w:Ur)(lo hi b:Nat)(l:List Lf)(j:Nat):Prop where
 wr:∃C,Wr w b 117 (l.length*5) C
 paths:∀i,j<=i ->i<l.length ->∃g,w.cell? (Ua b (i*5))=Uq (Uf (Uc g) (gL l i).p.length (gL l i).p.length)/\ g≠b/\ lo<=g/\ g<hi
 str:∀i,j<=i ->i<l.length ->∀g n c,w.cell? (Ua b (i*5))=Uq (Uf (Uc g) n c) ->PMk w g (gL l i).p.length
theorem LMk.to(h:LMk w lo hi b l):LTo w lo hi b l 0:=by
 obtain⟨o,⟨j,y,z⟩,v⟩:=h;refine⟨⟨fun i=>j.getD i default,j,y,z,fun i hi=>by simp [Array.getD,show i<j.size by omega]⟩,fun i _ hi'=> ?_,fun i _ hi' g n c hc=> ?_⟩
 ·obtain⟨g,k,m,q,r,u⟩:=v i hi';exact⟨g,k,m,q,r⟩
 ·obtain⟨t,k,m,q,r,u⟩:=v i hi';rw [k] at hc;simp at hc;obtain⟨rfl,_⟩:=hc;exact u
theorem LTo.btw(h:LTo w lo hi b l j):LTo w lo hi b l (j+1):=⟨h.wr,fun i hi=>h.paths i oM,fun i hi=>h.str i oM⟩
theorem LTo.set{o:Nat}(h:LTo w lo hi b l j)(u:Value)(ho:o<j*5):LTo (w.setCell (Ua b o) u) lo hi b l j:=by
 obtain⟨C,k⟩:=h.wr;have q:∀i,j<=i ->(w.setCell (Ua b o) u).cell? (Ua b (i*5))=w.cell? (Ua b (i*5)):=fun i hi=>by
  have:o≠i*5:=oM;simp [UI,this]
 refine⟨⟨_,k.set o u⟩,fun i h1 h2=> ?_,fun i h1 h2 g n c hc=> ?_⟩
 ·rw [q i h1];exact h.paths i h1 h2
 ·rw [q i h1] at hc;exact(h.str i h1 h2 g n c hc).any
theorem LTo.grown(h:LTo w lo hi b l j)(hg:w.grownBy w' (Uq g))(hb:g≠b)(hp:∀g' n',PMk w g' n' ->PMk w' g' n'):LTo w' lo hi b l j:=by
 obtain⟨C,k⟩:=h.wr;have e:w'.heap[b]? =w.heap[b]? :=hg.block b k.lt (fun e=>hb (by injection e with e;exact e.symm));have q:∀i,w'.cell? (Ua b (i*5))=w.cell? (Ua b (i*5)):=fun i=>UB (a:=(Ua b (i*5))) e;refine⟨⟨C,k.same e⟩,fun i h1 h2=> ?_,fun i h1 h2 g n c hc=> ?_⟩
 ·rw [q i];exact h.paths i h1 h2
 ·rw [q i] at hc;exact hp _ _ (h.str i h1 h2 g n c hc)
theorem LTo.bw(h:LTo w lo hi b l j)(hb:Bl w w'):LTo w' lo hi b l j:=by
 obtain⟨C,m⟩:=h.wr;have e:=hb.block b m.lt;have q:∀i,w'.cell? (Ua b (i*5))=w.cell? (Ua b (i*5)):=fun i=>UB (a:=(Ua b (i*5))) e;refine⟨⟨C,m.same e⟩,fun i h1 h2=> ?_,fun i h1 h2 g n c hc=> ?_⟩
 ·rw [q i];exact h.paths i h1 h2
 ·rw [q i] at hc;obtain⟨r,k,u⟩:=h.str i h1 h2 g n c hc;exact⟨r,(hb.block g (Array.getElem?_eq_some_iff.1 k).1).trans k,u⟩
theorem QiI (lo hi b c k0:Nat)(l:List Lf)(w:Ur)(hk:k0<=4000000000000)(hn:l.length<=1048576)(hp:∀i,(gL l i).p.length<=1048576)(hb:lo<=b/\ b<hi)(h:LTo w lo hi b l 0):
  Cl 57 #[Uf (Uc b) l.length c,Ud (k0:Int)] w fun e w'=>(∃k1:Nat,k1<=k0+2000000000000/\ e=Ui (Ud (k1:Int)))/\ Btw lo hi w w'/\∀(q:Nat) (cur:Array Value),w.heap[q]? =Uq (Obj.cells cur 123 (0,0)) ->w'.heap[q]? =w.heap[q]? :=by
 have HW:=hid h;have u:=hid hb;clear h hb;go_enter func57,ntmps57;go_wp2_with fail;go_loopw [1,5] (fun q i wr=>∃(j m:Nat),j<=l.length/\ m<=k0+j*1048580/\ i=Ud (j:Int)/\ q=Ud (m:Int)/\ Hid (Btw lo hi w wr)/\ Hid (LTo wr lo hi b l j)/\ Hid (∀(q:Nat) (cur:Array Value),w.heap[q]? =Uq (Obj.cells cur 123 (0,0)) ->wr.heap[q]? =w.heap[q]?)) (fun _ i _=>l.length - (intOf i).toNat);case atStart=>exact⟨0,k0,Uv _,oM,rfl,rfl,hid (Btw.refl _ _ _),HW,hid (fun _ _ _=>rfl)⟩
 case round=>
  obtain⟨j,m,hj,hm,rfl,rfl,U,z,V⟩:=hrel;by_cases I:j<l.length
  ·have i1:(0:Int)<=(j:Int):=UZ _;have i2:(j:Int)<(l.length:Int):=oM;obtain⟨g,G,g2,g3,g4⟩:=z.paths j zL I;obtain⟨PC,M⟩:=(z.str j zL I _ _ _ G).wr;have Hh:=hp j;obtain⟨L,Hd⟩:=zE ((gL l j).p.length);rw [Hd] at G M Hh;have P:=hid (Qet g L L m PC wr oM M);have Hg:Hid (∀(q:Nat) (cur:Array Value),w.heap[q]? =Uq (Obj.cells cur 123 (0,0)) ->q≠g):=hid (fun q cur h e=>by
    subst e;obtain⟨Ha,r,_⟩:=M;rw [V _ _ h,h] at r;injection r with r;injection r with _ h2;exact absurd h2 oD)
   clear M Hd;go_wp2_with fail;refine P.mono ?_;rintro e w1 ⟨rfl,O,Hi,He⟩;have R:Hid (∀(q:Nat) (cur:Array Value),w.heap[q]? =Uq (Obj.cells cur 123 (0,0)) ->w1.heap[q]? =w.heap[q]?):=hid (fun q cur h=>(O.block q (Ut (Array.getElem?_eq_some_iff.1 h).1 U.size) (fun e=>Hg.out q cur h (by injection e))).trans (V q cur h));have s:=z.btw.grown O g2 He;have S:Hid (∀(q:Nat) (cur:Array Value),w.heap[q]? =Uq (Obj.cells cur 123 (0,0)) ->q≠b):=hid (fun q cur h e=>by
    subst e;obtain⟨C',Ha,r,_⟩:=s.wr;rw [R _ _ h,h] at r;injection r with r;injection r with _ h2;exact absurd h2 oD)
   have N:=hid (U.trans (Btw.of O g3 g4));obtain⟨C,y⟩:=s.wr;have D:=hid s;obtain⟨k,Hc⟩:=zE (m+L);have Hj:k<=k0+j*1048580+1048576:=oM;have c1:=y.cell (i:=j*5+1) oM;have c2:=y.cell (i:=j*5+2) oM;have c3:=y.cell (i:=j*5+3) oM;have f1:=y.frozen (j*5+1);have f2:=y.frozen (j*5+2);have f3:=y.frozen (j*5+3);rw [Hc];clear y s O Hi He P Hc G z;go_wp2_with fail;obtain⟨A,t⟩:=zE (((w1.setCell (Ua b (j*5+1)) (Un ((k:Int)%3==0))).setCell (Ua b (j*5+2)) (Ud ((k:Int)+1))).setCell (Ua b (j*5+2+1)) (Ud ((k:Int)+1+1)));rw [t];have T:LTo A lo hi b l (j+1):=t▸((D.set _ oM).set _ oM).set _ oM;have Q:Btw lo hi w A:=t▸((N.set _ _ u.1 u.2).set _ _ u.1 u.2).set _ _ u.1 u.2;have W:∀(q:Nat) (cur:Array Value),w.heap[q]? =Uq (Obj.cells cur 123 (0,0)) ->A.heap[q]? =w.heap[q]? :=fun q cur h=>by
    have J:=S q cur h;rw [<- t,zH _ _ _ _ J,zH _ _ _ _ J,zH _ _ _ _ J];exact R q cur h
   have Z:=Qch (k+3) A oM;have e3:((k+3:Nat):Int)=(k:Int)+1+1+1:=oM;rw [e3] at Z;clear t c1 c2 c3 f1 f2 f3 D N e3;refine Z.mono ?_;rintro e w4 ⟨rfl,E⟩;have Y:=T.bw E;have Hf:Hid (∀(q:Nat) (cur:Array Value),w.heap[q]? =Uq (Obj.cells cur 123 (0,0)) ->∀v,(w4.setCell (Ua b (j*5+4)) v).heap[q]? =w.heap[q]?):=hid (fun q cur h v=>by
    rw [zH _ _ _ _ (S q cur h),E.block q (Ut (Array.getElem?_eq_some_iff.1 h).1 Q.size)];exact W q cur h)
   have X:=hid (Q.trans (Btw.bw E));obtain⟨C4,H⟩:=Y.wr;have c4:=H.cell (i:=j*5+4) oM;have f4:=H.frozen (j*5+4);have F:=hid (Y.set (o:=j*5+4) (Um (mkT (k+3))) oM);have B:=hid (X.set (Ua b (j*5+4)) (Um (mkT (k+3))) u.1 u.2);obtain⟨t4,K⟩:=zE (mkT (k+3));rw [K] at F B;rw [K];clear H Y T Q W E X Z K;go_wp2_with fail;go_roundw;case rel=>exact⟨j+1,k+4,I,oM,oN,oN,B,F,hid (fun q cur h=>Hf.out q cur h _)⟩
   case measure=>exact oE
  ·obtain rfl:j=l.length:=oM;clear z;go_wp2_with fail;go_ret;exact⟨⟨m,oM,rfl⟩,U,V⟩
theorem Qfj (lo hi b g n k0:Nat)(l:List Lf)(ys:List Value)(w:Ur)(hk:k0<=4000000000000)(hn:l.length<=1048576)(hp:∀i,(gL l i).p.length<=1048576)(hm:n<=1048576)(hh:hi<=w.heap.size)(hg:lo<=g/\ g<hi)(h:LMk w lo hi b l)(ho:w.ownsRow lo 123 3 (Uf (Uc g) n n) n ys):
  Cl 35 #[Uo #[Uf (Uc b) l.length l.length,Uf (Uc g) n n],Ud (k0:Int)] w fun e w'=>(∃k1:Nat,k1<=k0+3000000000000/\ e=Ui (Ud (k1:Int)))/\ Btw lo hi w w':=by
 obtain⟨W,j⟩:=zE (w.alloc (Uj #[Uf (Uc b) l.length l.length,Uf (Uc g) n n] 40));have u:Bl w W:=j▸zO _ _;have z0:w.heap.size<W.heap.size:=j▸oP;have X:W.cell? (Ub w.heap.size)=Uq (Uf (Uc b) l.length l.length):=j▸oP;have Z:W.cell? (Ua w.heap.size 1)=Uq (Uf (Uc g) n n):=j▸oP;have s:=hid (QiI lo hi b l.length k0 l W oM hn hp h.1 (h.to.bw u));have A:=hid (Qbp ho u (fun k hk=>by simp [Value.ownBlock] at hk;omega));have I:=hid (Btw.bw (lo:=lo) (hi:=hi) u);clear h ho u;go_enter func35,ntmps35;go_wp2_with fail;try rw [j]
 clear j;refine s.mono ?_;rintro e w1 ⟨⟨m,D,rfl⟩,z,y⟩;have K:=(UB (a:=(Ua w.heap.size 1)) (z.block w.heap.size z0 (.inr hh))).trans Z;have E:Hid (∃ys,w1.ownsRow lo 123 3 (Uf (Uc g) n n) n ys):=hid (by
  obtain⟨B,t⟩:=A.out;refine⟨ys,B,?_⟩;rcases t with ⟨t,_⟩|⟨O,cap,M,e,L,Q,r⟩
  ·cases t
  ·exact .inr ⟨O,cap,M,e,L,(y O M Q).trans Q,r⟩)
 have o:=hid (I.trans z);clear z y s A X Z;go_wp2_with fail;obtain⟨C,H⟩:=E.out;refine(Qes lo g n n m C w1 (oH o.size) oM oM H).mono ?_;rintro e w2 ⟨rfl,v,_,Y,U⟩;have J:=hid (o.trans (⟨v.os,v.tape,v.output,Y,fun q y ho=>U q y oM⟩:Btw lo hi w1 w2));obtain⟨G,V⟩:=zE (m+3*n);rw [V];have N:G<=k0+3000000000000:=oM;clear v Y U H E V K;go_wp2_with fail;go_ret;exact⟨⟨G,N,rfl⟩,J⟩
def LAt (w:Ur)(b off:Nat)(l:List Lf)(i m:Nat):Prop:=b<w.heap.size/\∀t,t<m ->∃qa qc,w.cell? (Ua b (off+t*5))=Uq (Uf qa (gL l (i+t)).p.length qc)/\ QaI w qa (gL l (i+t)).p/\ w.cell? (Ua b (off+t*5+1))=Uq (Un (gL l (i+t)).fl)/\ w.cell? (Ua b (off+t*5+2))=Uq (Ud (gL l (i+t)).r)/\ w.cell? (Ua b (off+t*5+3))=Uq (Ud (gL l (i+t)).q)/\ w.cell? (Ua b (off+t*5+4))=Uq (Um (gL l (i+t)).v)
theorem LAt.bw(h:LAt w b off l i m)(hb:Bl w w'):LAt w' b off l i m:=
 ⟨Ut h.1 hb.size,fun t ht=>by
  obtain⟨y,z,j,k,q,r,u,v⟩:=h.2 t ht;exact⟨y,z,(hb.cell (p:=(Ua b _)) h.1).trans j,k.bw hb,(hb.cell (p:=(Ua b _)) h.1).trans q,(hb.cell (p:=(Ua b _)) h.1).trans r,(hb.cell (p:=(Ua b _)) h.1).trans u,(hb.cell (p:=(Ua b _)) h.1).trans v⟩⟩
theorem LAt.take(h:LAt w b off l i m)(hk:k<=m):LAt w b off l i k:=⟨h.1,fun t ht=>h.2 t oM⟩
theorem LAt.drop(h:LAt w b off l i m)(hk:k<=m):LAt w b (off+k*5) l (i+k) (m - k):=⟨h.1,fun t ht=>by
 have:=h.2 (k+t) oM;rw [show off+(k+t)*5=off+k*5+t*5 by omega,show i+(k+t)=i+k+t by omega] at this;exact this⟩
def kAt (d n:Nat)(fl:Bool):Int:=if d+1<n then 3 else kd fl
theorem Qhm (pa:Option Us)(n pc:Nat)(fl:Bool)(r q:Int)(v:ByteArray)(d:Nat)(w:Ur)(hn:n<=1048576)(hd:d<=1000):
  Cl 125 #[Uo #[Uf pa n pc,Un fl,Ud r,Ud q,Um v],Ud (d:Int)] w (Rt w (Ud (kAt d n fl))):=by
 have k:=hid (zO w (Uj #[Uf pa n pc,Un fl,Ud r,Ud q,Um v] 117));by_cases h:d+1<n
 ·have m:(d:Int)+1<(n:Int):=oM;have j:Hid (kAt d n fl=3):=hid (if_pos h);go_enter func125,ntmps125;go_wp2_with fail;go_ret;exact⟨by rw [j.out];rfl,k⟩
 ·have m:¬(d:Int)+1<(n:Int):=oM;cases fl with
  | true=>
   have j:Hid (kAt d n true=2):=hid (if_neg h);go_enter func125,ntmps125;go_wp2_with fail;go_ret;exact⟨by rw [j.out];rfl,k⟩
  | false=>
   have j:Hid (kAt d n false=1):=hid (if_neg h);go_enter func125,ntmps125;go_wp2_with fail;go_ret;exact⟨by rw [j.out];rfl,k⟩
theorem Ql1 (l:List Lf)(b off i m c d:Nat)(w:Ur)(hm:1<=m)(hm2:m<=1048576)(hd:d<=1000)(hp:∀t,t<m ->d<(gL l (i+t)).p.length/\ (gL l (i+t)).p.length<=1048576)(h:LAt w b off l i m):
  Cl 124 #[Uf (Uq (Ua b off)) m c,Ud (d:Int)] w fun e w'=>(∃g:Nat,e=Ui (Ud (g:Int))/\ 1<=g/\ g<=m/\ (∀t,t<g ->Qas (gL l (i+t)).p (kd (gL l (i+t)).fl) d=Qas (gL l i).p (kd (gL l i).fl) d)/\ (g<m ->Qas (gL l (i+g)).p (kd (gL l (i+g)).fl) d≠Qas (gL l i).p (kd (gL l i).fl) d))/\ Bl w w':=by
 have HL:=hid h;have HP:=hid hp;clear h hp;go_enter func124,ntmps124;go_wp2_with fail;go_loopw [5] (fun i' wr=>∃k:Nat,k<=m/\ i'=Ud k/\ Hid (∀t,t<k ->Qas (gL l (i+t)).p (kd (gL l (i+t)).fl) d=Qas (gL l i).p (kd (gL l i).fl) d)/\ Hid (Bl w wr)) (fun i' _=>m - (intOf i').toNat);case atStart=>exact⟨0,Uv _,rfl,hid (fun t ht=>oM),hid zI⟩
 case round=>
  obtain⟨k,hk,rfl,T,u⟩:=hrel;by_cases Hd:k<m
  ·have Z:=HL.bw u;obtain⟨qa,kc,Q,hs,G,H,I,J⟩:=Z.2 k Hd;obtain⟨qz,zc,r,gs,o,A,E,M⟩:=Z.2 0 oM;have B:=HP k Hd;have Y:=HP 0 oM;simp only [Vc,Nat.zero_mul] at r gs o A E M Y;rcases hs with hs|⟨C,ko,rfl,Hs,Hl⟩
   ·omega
   rcases gs with gs|⟨F,zo,rfl,Ht,Ho⟩
   ·omega
   have U:=Hl d B.1;have O:=Ho d Y.1;have Ha:Hid (k=0 ->gL l (i+k)=gL l i):=hid (fun e=>by rw [e,Vc]);have q:Hid (Qas (gL l (i+k)).p (kd (gL l (i+k)).fl) d=Qas (gL l i).p (kd (gL l i).fl) d↔gS (gL l (i+k)).p d=gS (gL l i).p d/\ kAt d (gL l (i+k)).p.length (gL l (i+k)).fl=kAt d (gL l i).p.length (gL l i).fl):=hid (by unfold Qas kAt;exact Prod.mk.injEq _ _ _ _▸Iff.rfl);have Hb:Hid (Qas (gL l (i+k)).p (kd (gL l (i+k)).fl) d≠Qas (gL l i).p (kd (gL l i).fl) d ->1<=k):=hid (fun hne=>by
    rcases Vb k with e|e
    ·exact absurd (by rw [Ha e]) hne
    ·exact e)
   have Hi:Hid (∀v,Qas (gL l (i+k)).p (kd (gL l (i+k)).fl) d≠Qas (gL l i).p (kd (gL l i).fl) d ->v=k ->(1<=v/\ v<=m/\ (∀t,t<v ->Qas (gL l (i+t)).p (kd (gL l (i+t)).fl) d=Qas (gL l i).p (kd (gL l i).fl) d)/\ (v<m ->Qas (gL l (i+v)).p (kd (gL l (i+v)).fl) d≠Qas (gL l i).p (kd (gL l i).fl) d))):=hid (fun v h e=>by subst e;exact⟨Hb h,hk,T,fun _=>h⟩);have Hp:Hid (Qas (gL l (i+k)).p (kd (gL l (i+k)).fl) d=Qas (gL l i).p (kd (gL l i).fl) d ->∀t,t<k+1 ->Qas (gL l (i+t)).p (kd (gL l (i+t)).fl) d=Qas (gL l i).p (kd (gL l i).fl) d):=hid (fun h t ht=>by
    by_cases e:t=k
    ·subst e;exact h
    ·exact T t oM)
   obtain⟨X,hX⟩:=zE ((Qas (gL l (i+k)).p (kd (gL l (i+k)).fl) d=Qas (gL l i).p (kd (gL l i).fl) d));have W:=hid hX;rw [hX] at q;clear Hl Ho;obtain⟨yk,Hm⟩:=zE (gL l (i+k));obtain⟨yz,Hn⟩:=zE (gL l i);rw [Hm] at Q G H I J U B q;rw [Hn] at r o A E M O Y q;clear Hm Hn;obtain⟨kp,kf,kr,kq,kv⟩:=yk;obtain⟨zp,zf,zr,zq,zv⟩:=yz;dsimp only at Q G H I J U B r o A E M O Y q;clear hX;obtain⟨s,He⟩:=zE (gS kp d);obtain⟨z,Hf⟩:=zE (gS zp d);obtain⟨D,Hc⟩:=zE kp.length;obtain⟨P,Hg⟩:=zE zp.length;rw [He,Hf,Hc,Hg] at q;rw [He] at U;rw [Hf] at O;rw [Hc] at Q B;rw [Hg] at r Y;have i1:(0:Int)<=(k:Int):=UZ _;have i2:(k:Int)<(m:Int):=oM;have i3:(0:Int)<=(d:Int):=UZ _;have i4:(d:Int)<(D:Int):=oM;have i5:(d:Int)<(P:Int):=oM;have i6:(0:Int)<(m:Int):=oM;have i7:0<m:=oM;have j:b<wr.heap.size:=Z.1;clear He Hf Hc Hg Z;have dk:decide ((k:Int)<(m:Int))=true:=oS;have Hr:decide (k<m)=true:=oS;go_wp2_with fail;cases hsz:(s.toList==z.toList) with
   | false=>
    have y:Hid (¬X):=hid (fun h=>by rw [(q.1 h).1] at hsz;simp at hsz);go_quiet (fail);have R:=hid (QaY u nq);go_wp2_with fail;go_ret;exact⟨⟨k,rfl,Hi k (fun h=>y.out (by rw [<- W.out];exact h)) rfl⟩,R⟩
   | true=>
    have Hq:Hid (s=z):=hid (toList_inj (oU hsz));have S:Hid (∀w',Bl wr w' ->(Bl wr w'/\ w'.cell? (Ua b (off+k*5))=Uq (Uf (Uq (Ua C ko)) D kc)/\ w'.cell? (Ua b (off+k*5+1))=Uq (Un kf)/\ w'.cell? (Ua b (off+k*5+2))=Uq (Ud kr)/\ w'.cell? (Ua b (off+k*5+3))=Uq (Ud kq)/\ w'.cell? (Ua b (off+k*5+4))=Uq (Um kv)/\ w'.cell? (Ua C (ko+d))=Uq (Um s)/\ w'.cell? (Ua b off)=Uq (Uf (Uq (Ua F zo)) P zc)/\ w'.cell? (Ua b (off+1))=Uq (Un zf)/\ w'.cell? (Ua b (off+2))=Uq (Ud zr)/\ w'.cell? (Ua b (off+3))=Uq (Ud zq)/\ w'.cell? (Ua b (off+4))=Uq (Um zv)/\ w'.cell? (Ua F (zo+d))=Uq (Um z))):=hid (fun w' hB=>⟨hB,(hB.cell (p:=(Ua b _)) j).trans Q,(hB.cell (p:=(Ua b _)) j).trans G,(hB.cell (p:=(Ua b _)) j).trans H,(hB.cell (p:=(Ua b _)) j).trans I,(hB.cell (p:=(Ua b _)) j).trans J,(hB.cell (p:=(Ua C _)) Hs).trans U,(hB.cell (p:=(Ua b _)) j).trans r,(hB.cell (p:=(Ua b _)) j).trans o,(hB.cell (p:=(Ua b _)) j).trans A,(hB.cell (p:=(Ua b _)) j).trans E,(hB.cell (p:=(Ua b _)) j).trans M,(hB.cell (p:=(Ua F _)) Ht).trans O⟩);clear Q G H I J U r o A E M O;refine zS S (fun qh=> ?_);refine tZ 0 6 ?_;refine tZ 1 7 ?_;refine tZ 2 8 ?_;refine tZ 3 9 ?_;refine tZ 4 10 ?_;refine tZ 5 11 ?_;refine tZ 6 12 ?_;refine tZ 7 13 ?_;refine tZ 8 14 ?_;refine tZ 9 15 ?_;refine tZ 10 16 ?_;refine tZ 11 17 ?_;refine tZ 12 18 ?_;refine tZ 13 19 ?_;refine tZ 14 20 ?_;refine tZ 15 21 ?_;refine tZ 16 22 ?_;refine tZ 17 23 ?_;refine tZ 18 24 ?_;refine tZ 19 25 ?_;refine tZ 20 26 ?_;refine tZ 21 27 ?_;refine tZ 22 28 ?_;refine tZ 23 29 ?_;refine tZ 24 30 ?_;refine tZ 25 31 ?_;refine tZ 26 32 ?_;refine tZ 27 33 ?_;refine tZ 29 35 ?_;refine tZ 30 36 ?_;refine tZ 31 37 ?_;refine tZ 32 38 ?_;refine cZ 28 ?_;intro K V;go_simp;refine(Qhm (Uq (Ua C ko)) D kc kf kr kq kv d _ oM hd).mono ?_;rintro e w1 ⟨rfl,b1⟩;have L:=Qaa qh.1 b1;refine V.out _ _ (S _ L) (fun qh=> ?_);clear V K;try simp only [zP]
    refine cZ 33 ?_;intro K V;go_simp;refine(Qhm (Uq (Ua F zo)) P zc zf zr zq zv d _ oM hd).mono ?_;rintro e w2 ⟨rfl,b2⟩;have N:=Qaa L b2;refine V.out _ _ (S _ N) (fun qh=> ?_);clear V K;try simp only [zP]
    have Hh:=hid (u.trans (N.mono u.size));obtain⟨K1,Hj⟩:=zE (kAt d D kf);obtain⟨K2,Hk⟩:=zE (kAt d P zf);rw [Hj,Hk] at q ⊢;clear Hj Hk b1 b2;cases hkk:(K1==K2) with
    | false=>
     refine tZ 34 40 ?_;refine tZ 35 41 ?_;refine zD ?_;have y:Hid (¬X):=hid (fun h=>by rw [(q.1 h).2] at hkk;simp at hkk);clear qh L N;go_wp2_with fail;go_ret;exact⟨⟨k,rfl,Hi k (fun h=>y.out (by rw [<- W.out];exact h)) rfl⟩,Hh⟩
    | true=>
     refine tZ 34 40 ?_;refine tZ 35 41 ?_;refine zD ?_;have y:Hid X:=hid (q.2 ⟨Hq,oU hkk⟩);clear qh L N;go_wp2_with fail;go_roundw;case rel=>exact⟨k+1,Hd,oN,hid (Hp (by rw [W.out];exact y)),Hh⟩
     case measure=>exact oE
  ·obtain rfl:k=m:=oM;have dk:decide ((k:Int)<(k:Int))=false:=oP;have Hr:decide (k<k)=false:=oP;go_wp2_with fail;go_quiet (fail);have R:=hid (QaY u nq);go_wp2_with fail;go_ret;exact⟨⟨k,rfl,hm,Uu _,T,fun h=>oM⟩,R⟩
theorem Qam{ops:Array Oper}{rest:List Oper}{o:Oper}{Q:Exit ->Act ->Ur ->Prop}(hgd:o.guard=Up)(s x:Operand)(t:TypeId)
  (ho:o.op=.call {callee:=.builtin .append,args:=#[s,x],argTypes:=#[t,t]})
  (base:Nat) (e:TypeId) (i:TypeInfo) (z:Value) (size bytes:Nat) (ht:P.underlying t=Uq (.slice e)) (hi:P.info? e=Uq i) (hz:i.zero=Uq z)
  (hsize:i.size=size) (hby:i.bytes=bytes) (hzs:z.cells.size=size) (hsz:0<size)
  (v:Value) (n:Nat) (xs:List Value) (hs:a.eval s=v) (hown:w.ownsRow base e size v n xs)
  (ad:Us) (m c:Nat) (news:List Value) (hx:a.eval x=Uf (Uq ad) m c) (hl:news.length=m*size) (hnews:∀j u,news[j]? =Uq u ->w.cell? (ad.add j)=Uq u) (h1:∀u∈news,u.oneCell'=true)
  (h63:n+m<=maxLen) (hbytes:(n+m)*bytes<=140737488355328) (hbase:base<=w.heap.size)
  (h:∀v' w',w'.ownsRow base e size v' (n+m) (xs++news) ->w.grownBy w' v.ownBlock ->(v'.ownBlock=v.ownBlock \/v'.ownBlock=Uq w.heap.size) ->wpList P ops Q rest (a.put o.dst v') w'):wpList P ops Q (o::rest) a w:=
 wpList_plain hgd fun _ hK=>Qcm s x t ho base e i z size bytes ht hi hz hsize hby hzs hsz v n xs hs hown ad m c news hx hl hnews h1 h63 hbytes hbase fun v' w' h2 h3 h4=>hK _ _ (h v' w' h2 h3 h4)
structure Gr (w w':Ur)(b0 b:Value):Prop where
 g:w.grownBy w' b0.ownBlock
 l:b.ownBlock=b0.ownBlock \/∃k,b.ownBlock=Uq k/\ w.heap.size<=k
theorem Gr.refl (w:Ur)(b:Value):Gr w w b b:=⟨⟨rfl,rfl,rfl,Uu _,fun _ _ _=>rfl⟩,.inl rfl⟩
theorem Gr.trans {w2:Ur}{b1 b2:Value}(h1:Gr w w1 b0 b1)(h2:Gr w1 w2 b1 b2):Gr w w2 b0 b2:=by
 refine⟨h1.g.andThen h2.g (fun j hj=> ?_),?_⟩
 ·rcases h1.l with e|⟨k,e,m⟩
  ·exact .inr (e▸hj)
  ·rw [e] at hj;injection hj with hj;exact .inl oM
 ·rcases h2.l with e|⟨k,e,m⟩
  ·rw [e];exact h1.l
  ·exact .inr ⟨k,e,Ux h1.g.size m⟩
theorem Gr.alloc{b:Value}(h:Gr w w1 b0 b)(o:Obj):Gr w (w1.alloc o) b0 b:=
 h.trans ⟨World.grownBy_alloc w1 o _,.inl rfl⟩
theorem Gr.app{b:Value}(h:w.grownBy w1 b.ownBlock)(hl:b'.ownBlock=b.ownBlock \/b'.ownBlock=Uq w.heap.size):Gr w w1 b b':=
 ⟨h,hl.imp id (fun e=>⟨_,e,Uu _⟩)⟩
theorem Gr.bw{b:Value}(h:Gr w w1 b b')(hB:B<=w.heap.size)(hb:∀k,b.ownBlock=Uq k ->B<=k):Below B w w1:=
 (Below.refl B w).grown h.g hB hb
theorem Gr.of_below{b:Value}(h:Bl w w1):Gr w w1 b b:=
 ⟨⟨h.os,h.tape,h.output,h.size,fun k hk _=>h.block k hk⟩,.inl rfl⟩
theorem QaU (B m0:Nat)(bv:Value)(zs0:List Int)(w:Ur)(hm:m0<18446744073709551616)(hB:B<=w.heap.size)(hl:zs0.length<=1000000000000)(ho:Own w B bv zs0):
  Cl 142 #[bv,Ug .u64 (m0:Int)] w fun e w'=>∃v,e=Ui v/\ Own w' B v (zs0++uvF 9 m0)/\ Gr w w' bv v/\ w.heap.size<w'.heap.size:=by
 obtain⟨Z,hi,U,V,Y⟩:=info_parts Tryz.infoByte;go_enter func142,ntmps142;go_wp2_with fail;go_loopw [0,1] (fun b v wr=>∃(k m:Nat) (r:List Int),k<=9/\ m<128^(k+1)/\ m<18446744073709551616/\ v=Ug .u64 (m:Int)/\ Own wr B b r/\ Gr w wr bv b/\ w.heap.size<=wr.heap.size/\ r.length+k<=zs0.length+9/\ r++uvF k m=zs0++uvF 9 m0) (fun _ v _=>(intOf v).toNat);case atStart=>exact⟨9,m0,zs0,Uu _,oM,hm,rfl,ho,Gr.refl _ _,Uu _,Uu _,rfl⟩
 case round=>
  obtain⟨k,m,r,L,Q,K,rfl,z,E,C,X,M⟩:=hrel;have i:Hid (r++uvF k m=zs0++uvF 9 m0):=M;have p:Hid (m<128^(k+1)):=Q;have o:=hid E;clear M ho Q E;unfold Own at z;by_cases O:m<128
  ·go_wp2_with (at_builtin;refine Qam rfl _ _ 30 rfl B 5 Z (Ug .u8 0) 1 1 underlying30 hi U V Y rfl oD _ _ _ rfl (z.alloc _) (Ub wr.heap.size) 1 1 [Ug .u8 (m:Int)] rfl rfl ?c1 ?c2 ?c3 ?c4 ?c5 ?_);case c1=>exact cell_one_new _ _ _
   case c2=>intro u t;simp at t;subst t;rfl
   case c3=>unfold maxLen;omega
   case c4=>omega
   case c5=>simp;omega
   ·intro v' w1 g q y;have R:Own w1 B v' (zs0++uvF 9 m0):=by
     rw [<- i.out,Qdo k m O];unfold Own;rw [Vg,Vl];exact g
    have s:=hid ((o.alloc _).trans (Gr.app (b':=v') q (oU y)));have A:=q.size;simp at A;clear g q z y o;go_wp2;go_ret;exact⟨v',rfl,R,s,oM⟩
  ·have I:=Qmp m K;have J:bits BinOp.or IntKind.u8 ((m:Int)%128) 128=128+(m:Int)%128:=by
    have:=QpA (m%128) oM;simpa using this
   go_wp2_with (at_builtin;refine Qam rfl _ _ 30 rfl B 5 Z (Ug .u8 0) 1 1 underlying30 hi U V Y rfl oD _ _ _ rfl (z.alloc _) (Ub wr.heap.size) 1 1 [Ug .u8 (128+(m:Int)%128)] rfl rfl ?d1 ?d2 ?d3 ?d4 ?d5 ?_);case d1=>exact cell_one_new _ _ _
   case d2=>intro u t;simp at t;subst t;rfl
   case d3=>unfold maxLen;omega
   case d4=>omega
   case d5=>simp;omega
   ·intro v' w1 g q y;have N:1<=k:=by
     have:=p.out;rcases Vb k with rfl|h
     ·simp at this;omega
     ·exact h
    obtain⟨j,rfl⟩:∃j,k=j+1:=⟨k - 1,oM⟩;have R:Own w1 B v' (r++[128+(m:Int)%128]):=by
     unfold Own;rw [Vg,Vl];exact g
    have G:Hid (r++[128+(m:Int)%128]++uvF j (m/128)=zs0++uvF 9 m0):=by
     have:=i.out;rw [QeH j m O] at this;show _=_;rw [<- this];simp
    have H:Hid (m/128<128^(j+1)):=by
     have:=p.out;rw [Va] at this;show _<_;omega
    have s:=hid ((o.alloc _).trans (Gr.app (b':=v') q (oU y)));have A:=q.size;simp at A;clear g q z i p J I y o;go_wp2;go_roundw;case rel=>exact⟨j,m/128,_,oM,H,oM,oN,R,s,oM,oS,G⟩
    case measure=>exact oE
theorem Qcl{o:Oper}{K:Act ->Ur ->Prop}{Q:Exit ->Act ->Ur ->Prop}(s x:Operand)(t u:TypeId)(ho:o.op=.call {callee:=.builtin .append,args:=#[s,x],argTypes:=#[t,u]})(hr:(Builtin.append_ #[t,u] t' #[v,x']).run P w=.ok v' w')(hs:a.eval s=v)(hx:a.eval x=x')(ht:o.type=t')(h:K (a.put o.dst v') w'):Oper.wp P o a w K Q:=by
 subst ht;unfold Oper.wp execOp;simp only [ho,resolve,invoke,builtin,Sem.run_bind,Sem.run_pure,Result.andThen_ok,List.map_toArray,Vm,Vo,hs,hx,hr];exact h
theorem Qac{ops:Array Oper}{rest:List Oper}{o:Oper}{Q:Exit ->Act ->Ur ->Prop}(hgd:o.guard=Up)(s x:Operand)(t u:TypeId)(ho:o.op=.call {callee:=.builtin .append,args:=#[s,x],argTypes:=#[t,u]})(hr:(Builtin.append_ #[t,u] t' #[v,x']).run P w=.ok v' w')(hs:a.eval s=v)(hx:a.eval x=x')(ht:o.type=t')(h:wpList P ops Q rest (a.put o.dst v') w'):wpList P ops Q (o::rest) a w:=by
 refine wpList_plain hgd fun K hK=> ?_;exact Qcl s x t u ho hr hs hx ht (hK _ _ h)
theorem QpS (B:Nat)(v:Value)(zs:List Int)(s:ByteArray)(w:Ur)(ho:Own w B v zs)(hB:B<=w.heap.size)(hl:zs.length<=10000000000)(hs:s.size<=1048576):
  ∃v' w',(Builtin.append_ #[30,9] 30 #[v,Um s]).run prog w=.ok v' w'/\ Own w' B v' (zs++QaP s)/\ Gr w w' v v':=by
 obtain⟨r,hi,u,q,y⟩:=info_parts Tryz.infoByte;have k:w.ownsRow B 5 1 v zs.length (zs.map (Value.int .u8)):=ho;obtain⟨v',w',m,o,i,O⟩:=Lib.run_append_own_string (P:=prog) w B 30 9 30 5 r underlying30 underlying9 hi u q y v zs.length _ k s oL oM hB;refine⟨v',w',m,?_,i,?_⟩
 ·unfold Own;simp only [Vg,Vl,Qa9,Qdl];exact o
 ·rcases k.2 with ⟨rfl,t⟩|⟨g,cap,z,rfl,h,A,U,Q,p,V⟩
  ·have E:w.ownsRow w.heap.size 5 1 Ue zs.length (zs.map (Value.int .u8)):=⟨k.1,.inl ⟨rfl,t⟩⟩;obtain⟨v2,w2,j,b,_,_⟩:=Lib.run_append_own_string (P:=prog) w w.heap.size 30 9 30 5 r underlying30 underlying9 hi u q y _ zs.length _ E s oL oM zL;rw [m] at j;injection j with e1 e2;subst e1;subst e2;rcases b.2 with ⟨rfl,_⟩|⟨g,cap,z,rfl,h,_⟩
   ·exact .inl rfl
   ·exact .inr ⟨g,rfl,h⟩
  ·by_cases M:zs.length+s.size<=cap
   ·have j:=Lib.run_append_room_string (P:=prog) w 30 9 30 5 r underlying30 underlying9 hi q g zs.length cap z A s M (by rw [p];omega);rw [m] at j;injection j with e1 e2;subst e1;exact .inl rfl
   ·have j:=Lib.run_append_grow_string (P:=prog) w 30 9 30 5 r (Ug .u8 0) underlying30 underlying9 hi u (Ub g) zs.length cap _ (by rw [q];simp) (k.cells (g:=g) rfl) s oM oM (by rw [y];exact growslice_fits oM oM);rw [m] at j;injection j with e1 e2;subst e1;exact .inr ⟨_,rfl,Uu _⟩
theorem QcQ (B:Nat)(v:Value)(zs ns:List Int)(a:Us)(m c:Nat)(w:Ur)(ho:Own w B v zs)(hm:ns.length=m)(hn:∀i u,(ns.map (Value.int .u8))[i]? =Uq u ->w.cell? (a.add i)=Uq u)(hB:B<=w.heap.size)(hl:zs.length+m<=10000000000):
  ∃v' w',(Builtin.append_ #[30,30] 30 #[v,Uf (Uq a) m c]).run prog w=.ok v' w'/\ Own w' B v' (zs++ns)/\ Gr w w' v v':=by
 obtain⟨o,hi,h,g,t⟩:=info_parts Tryz.infoByte;have r:w.ownsRow B 5 1 v zs.length (zs.map (Value.int .u8)):=ho;obtain⟨v',w',y,j,k,b,q⟩:=run_append_own_at (P:=prog) w B 30 30 5 o (Ug .u8 0) 1 1 underlying30 hi h g t rfl oD v zs.length _ r a m c (ns.map (Value.int .u8)) (by simp [hm]) hn (fun u hu=>by obtain⟨z,_,rfl⟩:=List.mem_map.1 hu;rfl) oL oM hB;refine⟨v',w',y,?_,Gr.app k q⟩;unfold Own;rw [Vg,Vl,hm];exact j
structure LvB (l:List Lf):Prop where
 rep:∀i,i<l.length ->0<=(gL l i).r/\ (gL l i).r<8
 seq:∀i,i<l.length ->0<=(gL l i).q/\ (gL l i).q<=1000000000
 val:∀i,i<l.length ->(gL l i).v.size<=200
 len:l.length<=1000
 dis:Dis l l.length
end Go.Proofs.YtedpomikcaemgaaGreatDoor
