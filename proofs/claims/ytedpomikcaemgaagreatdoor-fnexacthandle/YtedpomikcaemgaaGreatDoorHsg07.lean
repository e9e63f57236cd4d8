import Derived.Test.YtedpomikcaemgaaGreatDoorHsg06
import Derived.Maps.RangeWalk
import Derived.Lib.SlMapMerge
import Derived.RegionTactic
import Derived.ChangeAlike
set_option linter.unusedVariables false
set_option linter.unusedSimpArgs false
set_option maxRecDepth 100000
set_option maxHeartbeats 40000000
namespace Go.Proofs.YtedpomikcaemgaaGreatDoor
open Go.ChangeShapes Go.WideShapes Go.ChangeAt Go.RowKit Go.Maps Go.Sort Go.Proofs.Tryz
open Go.Value renaming slice → Uf, int → Ug, pointer → Uk, tuple → Ul, string → Um, bool → Un, agg → Uo
open Go.IntKind renaming i64 → Uh
open Go.Ending renaming returned → Ui
open Go.Obj renaming cells → Uj
open Option renaming none → Up, some → Uq
open Go renaming World → Ur, Addr → Us
open List renaming length_append → Vg, mem_cons_self → Vt, take_add_one → VP, getD → UR, flatMap_append → Vw, length_map → YC, take_length → VQ, append_assoc → Vu, map_append → Vl, map_cons → Vm, append_nil → VC, mem_cons_of_mem → VT, flatMap_map → Vx, mem_cons → YD, map_congr_left → Vr, getElem_mem → UW, flatMap_cons → Vz, foldl_cons → YE, filter_append → YF, cons_append → VJ, pairwise_cons → YG, prefix_append → YH, exists_mem_of_ne_nil → YI, getElem_of_mem → YJ, nil_append → VI, prefix_refl → Vv, foldl_append → YK, append_cancel_left → YL, sum_cons → Vs, nodup_nil → VM
open Go.World renaming cell?_of_block → UB, ownsMap_made → UO, grownBy_alloc → Ym, frozen?_of_block → Ys, cell?_setCell_same → UH, cell?_setCell_far → UF, frozen? → Yq, setCell → UC, cell?_setCell_other → UI, cell?_alloc_past → YM, cell?_alloc_at → UJ, frozen?_alloc_at → UK
open Nat renaming lt_of_lt_of_le → Ut, zero_le → Uv, le_refl → Uu, add_assoc → Uy, le_trans → Ux, le_of_lt → YN, le_succ → UA
open Option renaming bind_some → YB, some → YO
open Int renaming toNat_natCast → Yw, natCast_nonneg → UZ
variable {B bm c i k m n r tb ub x':Nat}{F R T f:Nat ->Int}{J J' acc l la lb ls:List Lf}{L:Int ->List (Int×Int)}{a b x:Lf}{d:Dt}{left:Int}{p:List ByteArray}{q z:List Ky}{s:ByteArray}{v:Value}{w' w1:Ur}{x0:Nat×Nat}{y:Ky}
theorem QeN (l:List (Int×Int))(q:Int×Int)(z:Int):(Qan (l++[q])).set (l.length*2+1) (Ud z)=Qan (l++[(q.1,z)]):=by
 rw [Qa6,Qa6,List.set_append_right _ _ (by rw [Qbl];omega),Qbl,show l.length*2+1 - l.length*2=1 from by omega];rfl
theorem Qcp (B:Nat)(rv:Value)(l:List (Int×Int))(f t:Int)(w:Ur)(hB:B<=w.heap.size)(hl:l.length<=1000000)(ho:SR w B rv l)(hlo:∀q∈l,0<=q.2/\ q.2<=1000000000):
  Cl 226 #[rv,Uo #[Ud f,Ud t]] w fun e w'=>∃v,e=Ui v/\ SR w' B v (QgM l (f,t))/\ Gr w w' rv v:=by
 obtain⟨D,hi,N,X,C⟩:=info_parts Tryz.infoSpan;obtain⟨k,r⟩:=zE (w.alloc (Uj #[Ud f,Ud t] 255));have x0:k.cell? (Ub w.heap.size)=Uq (Ud f):=r▸oP;have i:k.cell? (Ua w.heap.size 1)=Uq (Ud t):=r▸oP;have Hc:Hid (k.heap.size=w.heap.size+1):=r▸hid oP;have L:Hid (B<=k.heap.size):=by have:=Hc.out;exact hid oM
 have o:Hid (SR k B rv l):=r▸World.ownsRow.alloc ho _;have Y:Hid (Gr w k rv rv):=r▸(Gr.refl _ _).alloc _;rcases List.eq_nil_or_concat l with rfl|⟨y,q,rfl⟩
 ·have G:Hid (SR k.drew B rv []):=o.out;obtain⟨a,cap,rfl⟩:∃a cap,rv=Uf a 0 cap:=by
   rcases ho.2 with ⟨rfl,_⟩|⟨g,cap,Hd,rfl,_⟩
   ·exact⟨_,_,rfl⟩
   ·exact⟨_,_,rfl⟩
  ·clear ho;go_enter func226,ntmps226;go_wp2_with fail;try rw [r]
   clear r;refine zR (S:=fun w'=>w'.cell? (Ub w.heap.size)=Uq (Ud f)) x0 (fun qh=> ?_);refine tZ 0 9 ?_;refine tZ 1 10 ?_;refine tZ 2 11 ?_;refine uZ 3 12 ?_;refine uZ 4 13 ?_;refine uZ 5 14 ?_;refine uZ 6 15 ?_;refine uZ 7 16 ?_;refine uZ 8 17 ?_;refine uZ 9 18 ?_;refine uZ 10 19 ?_;refine uZ 11 20 ?_;refine tZ 12 21 ?_;refine zD ?_;clear qh;go_wp2_with (at_builtin;refine Qam rfl _ _ 238 rfl B 255 D _ 2 16 underlying238 hi N X C rfl oD _ _ _ rfl (World.ownsRow.alloc G _) (Ub k.heap.size) 1 1 [Ud f,Ud t] rfl rfl ?c1 ?c2 ?c3 ?c4 ?c5 ?_);case c1=>exact Qnk _ _ _ _
   case c2=>intro u V;simp at V;rcases V with rfl|rfl<;>rfl
   case c3=>unfold maxLen;simp
   case c4=>simp
   case c5=>have:=L.out;simp;omega
   intro v' w1 U E O;have R:Hid (SR w1 B v' (QgM [] (f,t))):=(by rw [QhH];exact U);have b:=hid ((Y.alloc _).drew.trans (Gr.app (b':=v') E (oW O)));clear U E O x0 i;go_wp2_with fail;go_ret;exact⟨v',rfl,R,b⟩
 ·simp only [List.concat_eq_append] at*;obtain⟨z,j⟩:=q;have hq:=hlo (z,j) oP;obtain⟨m,Q⟩:=zE y.length;have M:(y++[(z,j)]).length=m+1:=by simp [Q]
  rcases ho.2 with ⟨_,e0⟩|⟨g,cap,Hd,rfl,Hh,_,Hg,He,_,_⟩
  ·simp at e0
  have Ha:g≠w.heap.size:=fun e=>oH ((World.ownsRow.lt ho g rfl).2);have I:k.cell? (Ua g (m*2+1))=Uq (Ud j):=by
   rw [World.ownsRow.cellAt o.out _ (by rw [M];omega),Qa6,List.getElem?_append_right (by rw [Qbl];omega),Qbl,Q,show m*2+1 - m*2=1 from by omega];rfl
  have Hf:=World.ownsRow.frozenAt o (m*2+1);have Hb:=hid (fun(h:¬j+1<f)=>Qji (l:=y) (q:=(z,j)) (p:=(f,t)) h);have P:=hid (fun(h:j+1<f)=>QhG (l:=y) (q:=(z,j)) (p:=(f,t)) h);have J:=hid (QeN y (z,j) (max j t));have H:=hid (World.ownsRow.stored o (m*2+1) (Ud (max j t)));have G:Hid (k.drew.ownsRow B 255 2 (Uf (Uc g) (m+1) cap) (m+1) (Qan (y++[(z,j)]))):=by
   have:=o.out;unfold SR at this;rw [M] at this;exact this
  rw [Q] at J;rw [M] at Hg hl H Y ⊢;unfold maxLen at He;have W:=hid Q;have T:=hid M;clear ho hlo Q M o;have x2:IntKind.i64.wrap (j+1)=j+1:=Qa3 _ oM oM;have Hi:decide ((m:Int)<0)=false:=oP;have Hj:(m:Int)<(m:Int)+1:=oM;by_cases A:j+1<f
  ·have t1:decide (j+1<f)=true:=(by simp;exact A);have Z:=hid (P A);clear A;go_enter func226,ntmps226;go_wp2_with fail;try rw [r]
   clear r;refine zR (S:=fun w'=>w'.cell? (Ub w.heap.size)=Uq (Ud f)/\ w'.cell? (Ua g (m*2+1))=Uq (Ud j)) ⟨x0,I⟩ (fun qh=> ?_);refine tZ 0 9 ?_;refine tZ 1 10 ?_;refine tZ 2 11 ?_;refine tZ 3 12 ?_;refine tZ 4 13 ?_;refine tZ 5 14 ?_;refine tZ 6 15 ?_;refine tZ 7 16 ?_;refine tZ 8 17 ?_;refine tZ 9 18 ?_;refine tZ 10 19 ?_;refine tZ 11 20 ?_;refine tZ 12 21 ?_;refine zD ?_;clear qh;go_wp2_with (at_builtin;refine Qam rfl _ _ 238 rfl B 255 D _ 2 16 underlying238 hi N X C rfl oD _ _ _ rfl (World.ownsRow.alloc G _) (Ub k.heap.size) 1 1 [Ud f,Ud t] rfl rfl ?c1 ?c2 ?c3 ?c4 ?c5 ?_);case c1=>exact Qnk _ _ _ _
   case c2=>intro u V;simp at V;rcases V with rfl|rfl<;>rfl
   case c3=>unfold maxLen;omega
   case c4=>omega
   case c5=>have:=L.out;simp;omega
   intro v' w1 U E O;have R:Hid (SR w1 B v' (QgM (y++[(z,j)]) (f,t))):=by
    rw [Z.out];unfold SR;rw [Qa6,Vg,T.out];exact U
   have b:=hid ((Y.alloc _).drew.trans (Gr.app (b':=v') E (oW O)));clear U E O x0 i;go_wp2_with fail;go_ret;exact⟨v',rfl,R,b⟩
  ·have t1:decide (j+1<f)=false:=oS;have Z:=hid (Hb A);clear A;go_enter func226,ntmps226;go_wp2_with fail;try rw [r]
   clear r;refine zR (S:=fun w'=>w'.cell? (Ub w.heap.size)=Uq (Ud f)/\ w'.cell? (Ua g (m*2+1))=Uq (Ud j)) ⟨x0,I⟩ (fun qh=> ?_);refine tZ 0 9 ?_;refine tZ 1 10 ?_;refine tZ 2 11 ?_;refine tZ 3 12 ?_;refine tZ 4 13 ?_;refine tZ 5 14 ?_;refine tZ 6 15 ?_;refine tZ 7 16 ?_;refine tZ 8 17 ?_;refine tZ 9 18 ?_;refine tZ 10 19 ?_;refine tZ 11 20 ?_;refine tZ 12 21 ?_;refine zD ?_;clear qh;go_wp2_with fail;refine zR (S:=fun w'=>w'.cell? (Ua w.heap.size 1)=Uq (Ud t)) i (fun qh=> ?_);refine tZ 0 26 ?_;refine tZ 1 27 ?_;refine tZ 2 28 ?_;refine tZ 3 29 ?_;refine tZ 4 30 ?_;refine tZ 5 31 ?_;refine tZ 7 33 ?_;refine tZ 8 34 ?_;refine cZ 6 ?_;intro K s;go_simp;refine s.out _ _ i (fun qh=> ?_);clear s K;try simp only [zP]
   refine tZ 9 35 ?_;refine tZ 10 36 ?_;refine tZ 11 37 ?_;refine cZ 12 ?_;intro K s;go_simp;have F:(k.setCell (Ua g (m*2+1)) (Ud (max j t))).drew.drew.cell? (Ua w.heap.size 1)=Uq (Ud t):=by
    rw [<- i];exact UB (zH _ _ _ _ (fun e=>Ha e.symm))
   refine s.out _ _ F (fun qh=> ?_);clear s K;try simp only [zP]
   refine zD ?_;clear qh;have R:Hid (SR (k.setCell (Ua g (m*2+1)) (Ud (max j t))) B (Uf (Uc g) (m+1) cap) (QgM (y++[(z,j)]) (f,t))):=by
    rw [Z.out];unfold SR;show World.ownsRow _ _ _ _ _ (y++[(z,max j t)]).length _;rw [<- J.out,show (y++[(z,max j t)]).length=m+1 from by simp [W.out]];exact H.1
   have b:Hid (Gr w (k.setCell (Ua g (m*2+1)) (Ud (max j t))).drew.drew (Uf (Uc g) (m+1) cap) (Uf (Uc g) (m+1) cap)):=
    ((Y.trans ⟨QaG k (Ua g (m*2+1)) (Ud (max j t)),.inl rfl⟩).drew).drew
   clear x0 i F I Hf H;go_wp2_with fail;go_ret;exact⟨_,rfl,R,b⟩
def Sfx (w:Ur)(l:List (Int×Int))(i k:Nat)(x:Option Us):Prop:=
 i+k=l.length/\ (k=0 \/∃g o,x=Uq (Ua g o)/\ g<w.heap.size/\∀j,j<k ->w.cell? (Ua g (o+j*2))=Uq (Ud (sF l (i+j)))/\ w.cell? (Ua g (o+j*2+1))=Uq (Ud (sT l (i+j))))
theorem Sfx.start {w:Ur}{l:List (Int×Int)}{a:Option Us}(h:SS w a l.length (sF l) (sT l)):Sfx w l 0 l.length a:=by
 refine⟨oM,?_⟩;rcases h with h|⟨b,off,rfl,k,m⟩
 ·exact .inl h
 ·exact .inr ⟨b,off,rfl,k,fun j hj=>by rw [Nat.zero_add];exact m j hj⟩
theorem Sfx.next {w:Ur}{l:List (Int×Int)}{g o:Nat}(h:Sfx w l i (k+1) (Uq (Ua g o))):Sfx w l (i+1) k (Uq (Ua g (o+2))):=by
 obtain⟨v,m⟩:=h;refine⟨oM,?_⟩;rcases m with m|⟨u,y,e,r,q⟩
 ·omega
 ·injection e with e;injection e with e1 e2;subst e1 e2;refine .inr ⟨g,o+2,rfl,r,fun j hj=> ?_⟩;have:=q (j+1) oM;rw [show o+(j+1)*2=o+2+j*2 from by omega,show i+(j+1)=i+1+j from by omega] at this;exact this
theorem Sfx.bw {w:Ur}{l:List (Int×Int)}{x:Option Us}(h:Sfx w l i k x)(hb:Bl w w1):Sfx w1 l i k x:=by
 obtain⟨r,u⟩:=h;refine⟨r,u.imp id ?_⟩;rintro⟨g,o,e,m,q⟩;exact⟨g,o,e,Ut m hb.size,fun j hj=>⟨(hb.cell (p:=(Ua g _)) m).trans (q j hj).1,(hb.cell (p:=(Ua g _)) m).trans (q j hj).2⟩⟩
theorem Sfx.block {w:Ur}{l:List (Int×Int)}{x:Option Us}(h:Sfx w l i k x)(hk:0<k):∃g o,x=Uq (Ua g o)/\ g<w.heap.size/\ w.cell? (Ua g o)=Uq (Ud (sF l i))/\ w.cell? (Ua g (o+1))=Uq (Ud (sT l i)):=by
 rcases h.2 with h|⟨g,o,e,m,j⟩
 ·omega
 ·have:=j 0 hk;simp at this;exact⟨g,o,e,m,this⟩
theorem SR.bw {w:Ur}{v1:Value}{l:List (Int×Int)}{w0:Ur}(h:SR w B v l)(hb:Below B w0 w)(hB:B<=w.heap.size)(hg:Gr w w1 v v1):Below B w0 w1:=
 hb.trans (hg.bw hB (fun k hk=>(World.ownsRow.lt h k hk).1))
def lenOf:Value ->Nat
 | Uf _ n _=>n
 | _=>0
theorem QiL (a:Option Us)(ca:Nat)(b:Option Us)(cb:Nat)(la lb:List (Int×Int))(w:Ur)(A:SS w a la.length (sF la) (sT la))(y:SS w b lb.length (sF lb) (sT lb))
  (hca:la.length<=ca) (hca':ca<=9223372036854775807) (hcb:lb.length<=cb) (hcb':cb<=9223372036854775807) (ha:Srt la) (hb:Srt lb) (hna:la.length<=2000) (hnb:lb.length<=2000):
  Cl 198 #[Uf a la.length ca,Uf b lb.length cb] w fun e w'=>∃v l,e=Ui v/\ SR w' w.heap.size v l/\ Bl w w'/\ Srt l/\ (∀x,In l x↔(In la x \/In lb x))/\ l.length<=la.length+lb.length:=by
 obtain⟨i0,hi,Gs,Gt,Gu⟩:=info_parts Tryz.infoSpan;have H8:=hid (Sfx.start A);have H9:=hid (Sfx.start y);have Ht:=hid ha;have Hu:=hid hb;have Hq:Hid (∀m,Srt m ->∀q∈m,0<=q.2/\ q.2<=1000000000):=fun m hm q hq=>oH (hm.2 q hq);clear A y ha hb;obtain⟨na,Hc⟩:=zE la.length;obtain⟨nb,Hd⟩:=zE lb.length;rw [Hc] at H8 hca hna;rw [Hd] at H9 hcb hnb;rw [Hc,Hd];have Hr:=hid Hc;have Hs:=hid Hd;clear Hc Hd;obtain⟨cc,Ga⟩:=zE (na+nb:Nat);have hw:IntKind.i64.wrap ((na:Int)+(nb:Int))=(cc:Int):=Ga▸Qa3 _ oM oM;have Gn:=run_makeSlice_owned (P:=prog) w w.heap.size 238 255 i0 _ 2 underlying238 hi Gs Gt Uh Uh cc oM (by rw [Gu];omega) oL zL;obtain⟨w1,H3,Hl,Hm⟩:=Gn;have Gf:Hid (Bl w w1):=zI.grown Hm zL (fun _ h=>by cases h);have Gk:Hid (SR w1 w.heap.size (Uf (Uc w.heap.size) 0 cc) []):=Hl;clear Hl Hm;have G1:cc<=4000:=oM;clear Ga;go_enter func198,ntmps198;go_wp2_with fail;go_loopw [0,1,5] (fun u0 u1 u5 wr=>∃(i u Hh:Nat) (xa:Option Us) (j z Hi:Nat) (xb:Option Us) (m:List (Int×Int)),u0=Uf xa u Hh/\ u1=Uf xb z Hi/\ u<=Hh/\ Hh<=9223372036854775807/\ z<=Hi/\ Hi<=9223372036854775807/\ u<=2000/\ z<=2000/\ Hid (Sfx w la i u xa)/\ Hid (Sfx w lb j z xb)/\ Hid (Qgi la lb m i j)/\ Hid (SR wr w.heap.size u5 m)/\ Hid (Bl w wr))
  (fun u0 u1 _ _=>lenOf u0+lenOf u1)
 case atStart=>exact⟨0,na,ca,a,0,nb,cb,b,[],rfl,rfl,hca,hca',hcb,hcb',hna,hnb,H8,H9,hid (Qgi.start la lb),Gk,Gf⟩
 case round=>
  clear H3;obtain⟨i,u,Hh,xa,j,z,Hi,xb,m,rfl,rfl,Gv,Gw,Gy,Gz,Gx,G0,A,y,D,T,B⟩:=hrel;have H4:m.length<=1000000:=by
   have h1:=D.len;have h2:=A.1;have h3:=y.1;have:=Hr.out;have:=Hs.out;omega
  have Hp:=B.size;by_cases Hf:0<u/\ 0<z
  ·obtain⟨Gp,Gq⟩:=Hf;obtain⟨E,I,rfl,Gl,W,Hv⟩:=(A.bw B).block Gp;obtain⟨M,J,rfl,Gm,Hg,Hw⟩:=(y.bw B).block Gq;obtain⟨ka,rfl⟩:∃ka,u=ka+1:=⟨u - 1,oM⟩;obtain⟨kb,rfl⟩:∃kb,z=kb+1:=⟨z - 1,oM⟩;obtain⟨Hy,rfl⟩:∃k,Hh=k+1:=⟨Hh - 1,oM⟩;obtain⟨Hz,rfl⟩:∃k,Hi=k+1:=⟨Hi - 1,oM⟩;have Gg:Hid (E<w.heap.size):=by
    rcases A.2 with h|⟨g,o,e,hg,_⟩
    ·omega
    ·injection e with e;injection e with e1 e2;subst e1;exact hid hg
   have Gh:Hid (M<w.heap.size):=by
    rcases y.2 with h|⟨g,o,e,hg,_⟩
    ·omega
    ·injection e with e;injection e with e1 e2;subst e1;exact hid hg
   have H7:Hid (SR wr.drew.drew w.heap.size u5 m):=T.out;have Gi:Hid (i<la.length):=(by have:=A.1;exact hid oM);have Gj:Hid (j<lb.length):=(by have:=y.1;exact hid oM);have Hn:Uq E≠u5.ownBlock:=fun e=>oJ ((World.ownsRow.lt T E e.symm).1) Gg;have Ho:Uq M≠u5.ownBlock:=fun e=>oJ ((World.ownsRow.lt T M e.symm).1) Gh;clear Gl Gm;by_cases Hx:sF la i<=sF lb j
   ·have t1:decide (sF la i<=sF lb j)=true:=(by simp;exact Hx);obtain⟨Gd,Gb⟩:=zE ((if Hy=0 then Uq ((Ua E I):Us) else Uq (Ua E (I+2))));have Go:(1:Int)<=(ka:Int)+1:=oM;have H0:Hid (Sfx w la (i+1) ka Gd):=by
     by_cases h0:Hy=0
     ·exact hid ⟨oH A.1,.inl oM⟩
     ·rw [if_neg h0] at Gb;subst Gb;exact hid A.next
    have N:=hid (D.stepA Ht Hu Gi (fun _=>Hx));clear Hx;go_wp2_with fail;refine zR (S:=fun w'=>w'.cell? (Ua E I)=Uq (Ud (sF la i))/\ w'.cell? (Ua M J)=Uq (Ud (sF lb j))) ⟨W,Hg⟩ (fun qh=> ?_);refine tZ 0 24 ?_;refine tZ 1 25 ?_;refine tZ 2 26 ?_;refine tZ 3 27 ?_;refine tZ 4 28 ?_;refine tZ 5 29 ?_;refine tZ 6 30 ?_;refine tZ 7 31 ?_;refine tZ 8 32 ?_;refine zD ?_;clear qh;go_wp2_with fail;refine zR (S:=fun w'=>w'.cell? (Ua E I)=Uq (Ud (sF la i))/\ w'.cell? (Ua E (I+1))=Uq (Ud (sT la i))) ⟨W,Hv⟩ (fun qh=> ?_);refine tZ 0 33 ?_;refine tZ 1 34 ?_;refine tZ 2 35 ?_;refine tZ 3 36 ?_;refine tZ 5 38 ?_;refine tZ 6 39 ?_;refine cZ 4 ?_;intro K hK;go_simp;refine(Qcp w.heap.size _ m (sF la i) (sT la i) wr.drew.drew Hp H4 H7 (Hq m D.s)).mono ?_;rintro e w2 ⟨v2,rfl,U,O⟩;have Y:Gr wr w2 u5 v2:=((Gr.refl wr u5).drew.drew).trans O;have L:=hid (T.bw B Hp Y);have X:=hid U;have d0:w2.cell? (Ua E I)=Uq (Ud (sF la i)):=Y.g.cell W Hn;have d1:w2.cell? (Ua E (I+1))=Uq (Ud (sT la i)):=Y.g.cell Hv Hn;clear U O Y;refine hK.out _ _ ⟨d0,d1⟩ (fun qh=> ?_);clear hK K;try simp only [zP]
    refine tZ 7 5 ?_;refine tZ 8 0 ?_;refine zD ?_;clear qh d0 d1 W Hv Hg Hw;go_wp2_with fail;go_roundw;case rel=>exact⟨i+1,ka,Hy,Gd,j,kb+1,Hz+1,_,_,rfl,rfl,oM,oM,oM,oM,oM,oM,H0,y,N,X,L⟩
    case measure=>simp [lenOf]
   ·have t1:decide (sF la i<=sF lb j)=false:=oS;obtain⟨Ge,Gc⟩:=zE ((if Hz=0 then Uq ((Ua M J):Us) else Uq (Ua M (J+2))));have Go:(1:Int)<=(kb:Int)+1:=oM;have H0:Hid (Sfx w lb (j+1) kb Ge):=by
     by_cases h0:Hz=0
     ·exact hid ⟨oH y.1,.inl oM⟩
     ·rw [if_neg h0] at Gc;subst Gc;exact hid y.next
    have N:=hid (D.stepB Ht Hu Gj (fun _=>by show sF lb j<=sF la i;omega));clear Hx;go_wp2_with fail;refine zR (S:=fun w'=>w'.cell? (Ua E I)=Uq (Ud (sF la i))/\ w'.cell? (Ua M J)=Uq (Ud (sF lb j))) ⟨W,Hg⟩ (fun qh=> ?_);refine tZ 0 24 ?_;refine tZ 1 25 ?_;refine tZ 2 26 ?_;refine tZ 3 27 ?_;refine tZ 4 28 ?_;refine tZ 5 29 ?_;refine tZ 6 30 ?_;refine tZ 7 31 ?_;refine tZ 8 32 ?_;refine zD ?_;clear qh;go_wp2_with fail;refine zR (S:=fun w'=>w'.cell? (Ua M J)=Uq (Ud (sF lb j))/\ w'.cell? (Ua M (J+1))=Uq (Ud (sT lb j))) ⟨Hg,Hw⟩ (fun qh=> ?_);refine tZ 0 40 ?_;refine tZ 1 41 ?_;refine tZ 2 42 ?_;refine tZ 3 43 ?_;refine tZ 5 45 ?_;refine tZ 6 46 ?_;refine cZ 4 ?_;intro K hK;go_simp;refine(Qcp w.heap.size _ m (sF lb j) (sT lb j) wr.drew.drew Hp H4 H7 (Hq m D.s)).mono ?_;rintro e w2 ⟨v2,rfl,U,O⟩;have Y:Gr wr w2 u5 v2:=((Gr.refl wr u5).drew.drew).trans O;have L:=hid (T.bw B Hp Y);have X:=hid U;have d0:w2.cell? (Ua M J)=Uq (Ud (sF lb j)):=Y.g.cell Hg Ho;have d1:w2.cell? (Ua M (J+1))=Uq (Ud (sT lb j)):=Y.g.cell Hw Ho;clear U O Y;refine hK.out _ _ ⟨d0,d1⟩ (fun qh=> ?_);clear hK K;try simp only [zP]
    refine tZ 7 5 ?_;refine tZ 8 1 ?_;refine zD ?_;clear qh d0 d1 W Hv Hg Hw;go_wp2_with fail;go_roundw;case rel=>exact⟨i,ka+1,Hy+1,_,j+1,kb,Hz,Ge,_,rfl,rfl,oM,oM,oM,oM,oM,oM,A,H0,N,X,L⟩
    case measure=>simp [lenOf]
  ·have H5:Hid (u=0 \/z=0):=hid oM;clear Hf;rcases Nat.eq_zero_or_pos u with Hk|Hk;case' inl=>
    have e1:decide (0<u)=false:=(by simp;exact Hk);clear Hk;go_wp2_with fail
   case' inr=>
    have e1:decide (0<u)=true:=(by simp;exact Hk);have e2:decide (0<z)=false:=(by simp;have:=H5.out;omega);clear Hk;go_wp2_with fail
   all_goals (
    go_loopw [5,49] (fun v5 iv wr2=>∃(k:Nat) (r:List (Int×Int)),k<=u/\ iv=Ud k/\ Hid (Qgi la lb r (i+k) j)/\ Hid (SR wr2 w.heap.size v5 r)/\ Hid (Bl w wr2)) (fun _ iv _=>u - (intOf iv).toNat);case atStart=>exact⟨0,m,Uv _,rfl,D,T,B⟩
    case round=>
     clear D T B Hp H4;obtain⟨k,r,hk,rfl,Q,H,V⟩:=hrel;have Hb:r.length<=1000000:=by
      have h1:=Q.len;have:=Hr.out;have:=Hs.out;omega
     have He:=V.size;by_cases C:k<u
     ·have Ha:∃g o,xa=Uq (Ua g o)/\ wr.cell? (Ua g (o+k*2))=Uq (Ud (sF la (i+k)))/\ wr.cell? (Ua g (o+k*2+1))=Uq (Ud (sT la (i+k))):=by
       rcases (A.bw V.out).2 with h|⟨g,o,e,hg,hc⟩
       ·omega
       ·exact⟨g,o,e,hc k C⟩
      obtain⟨g,o,rfl,c0,c1⟩:=Ha;have N:=hid (Q.stepA Ht Hu (oH A.1) (fun hj=>oJ y.1 H5));obtain⟨Z,F⟩:=zE (sF la (i+k));obtain⟨G,R⟩:=zE (sT la (i+k));have HQ:Hid (la.getD (i+k) (0,0)=(Z,G)):=(by rw [<- F,<- R];exact rfl);rw [F] at c0;rw [R] at c1;clear F R;obtain⟨t,p⟩:=zE (wr.alloc (Uj #[Ud Z,Ud G] 255));have r0:t.cell? (Ub wr.heap.size)=Uq (Ud Z):=p▸oP;have r1:t.cell? (Ua wr.heap.size 1)=Uq (Ud G):=p▸oP;have H1:Hid (SR t w.heap.size u5 r):=p▸World.ownsRow.alloc H _;have Hj:Hid (Gr wr t u5 u5):=p▸(Gr.refl _ _).alloc _;have H2:Hid (w.heap.size<=t.heap.size):=(by have:=Hj.g.size;exact hid oM);go_wp2_with fail;try rw [p]
      refine(Qcp w.heap.size u5 r Z G t H2 Hb H1 (Hq r Q.s)).mono ?_;rintro e w2 ⟨v2,rfl,U,O⟩;have L:=hid (H.bw V He (Hj.trans O));have X:=hid U;clear U O p c0 c1 r0 r1;go_wp2_with fail;go_roundw;case rel=>exact⟨k+1,_,C,oN,by have:=N;rw [HQ.out] at this;exact this,X,L⟩
      case measure=>exact oE
     ·obtain rfl:k=u:=oM;have H6:Hid (Qgi la lb r la.length j):=by
       have h1:=A.1;have h2:=Q.out;rw [h1] at h2;exact hid h2
      clear C Q;go_wp2_with fail;go_loopw [5,59] (fun v5 iv wr2=>∃(k:Nat) (r:List (Int×Int)),k<=z/\ iv=Ud k/\ Hid (Qgi la lb r la.length (j+k))/\ Hid (SR wr2 w.heap.size v5 r)/\ Hid (Bl w wr2)) (fun _ iv _=>z - (intOf iv).toNat);case atStart=>exact⟨0,r,Uv _,rfl,H6,H,V⟩
      case round=>
       clear H6 H V He Hb hk;obtain⟨k,r,hk,rfl,Q,H,V⟩:=hrel;have Hb:r.length<=1000000:=by
        have h1:=Q.len;have:=Hr.out;have:=Hs.out;omega
       have He:=V.size;by_cases C:k<z
       ·have Ha:∃g o,xb=Uq (Ua g o)/\ wr.cell? (Ua g (o+k*2))=Uq (Ud (sF lb (j+k)))/\ wr.cell? (Ua g (o+k*2+1))=Uq (Ud (sT lb (j+k))):=by
         rcases (y.bw V.out).2 with h|⟨g,o,e,hg,hc⟩
         ·omega
         ·exact⟨g,o,e,hc k C⟩
        obtain⟨g,o,rfl,c0,c1⟩:=Ha;have N:=hid (Q.stepB Ht Hu (oH y.1) (fun hj=>oM));obtain⟨Z,F⟩:=zE (sF lb (j+k));obtain⟨G,R⟩:=zE (sT lb (j+k));have HQ:Hid (lb.getD (j+k) (0,0)=(Z,G)):=(by rw [<- F,<- R];exact rfl);rw [F] at c0;rw [R] at c1;clear F R;obtain⟨t,p⟩:=zE (wr.alloc (Uj #[Ud Z,Ud G] 255));have r0:t.cell? (Ub wr.heap.size)=Uq (Ud Z):=p▸oP;have r1:t.cell? (Ua wr.heap.size 1)=Uq (Ud G):=p▸oP;have H1:Hid (SR t w.heap.size u5 r):=p▸World.ownsRow.alloc H _;have Hj:Hid (Gr wr t u5 u5):=p▸(Gr.refl _ _).alloc _;have H2:Hid (w.heap.size<=t.heap.size):=(by have:=Hj.g.size;exact hid oM);go_wp2_with fail;try rw [p]
        refine(Qcp w.heap.size u5 r Z G t H2 Hb H1 (Hq r Q.s)).mono ?_;rintro e w2 ⟨v2,rfl,U,O⟩;have L:=hid (H.bw V He (Hj.trans O));have X:=hid U;clear U O p c0 c1 r0 r1;go_wp2_with fail;go_roundw;case rel=>exact⟨k+1,_,C,oN,by have:=N;rw [HQ.out] at this;exact this,X,L⟩
        case measure=>exact oE
       ·obtain rfl:k=z:=oM;have HD:Hid (Srt r/\ (∀x,In r x↔(In la x \/In lb x))/\ r.length<=la.length+lb.length):=by
         have h1:=y.1;have h2:=Q.out;rw [h1] at h2;exact hid h2.done
        clear Q C;go_wp2_with fail;go_ret;refine⟨_,r,rfl,H,V,HD.1,HD.2.1,?_⟩;have:=HD.2.2;have:=Hr.out;have:=Hs.out;omega)
theorem Qbx {P:Program}(w:Ur){ops:Array Oper}{rest:List Oper}{o:Oper}{a:Act}{Q:Exit ->Act ->Ur ->Prop}(hg:o.guard=Up)(it:Operand)(hop:o.op=Op.next it false)(k:TypeId)(K:Keyed P k)(hk:P.underlying k=Uq (.int Uh))
  (b r n:Nat) (D:DataW Value) (left:Lit ->Bool) (cnt:Nat) (hit:a.eval it=Uk (Uc r)) (h:w.ranges P k Qc3 b r n D left cnt)
  (hDone:(∀kl,left kl=false) ->wpList P ops Q rest (a.put o.dst (Ul #[Un false])) w)
  (hMore:∀(x:Int) (va:Option Us) (vn vc:Nat) (w':Ur) (cnt':Nat),(Lit.int Uh x).wf=true ->left (kI x)=true ->(∀zd,D.atKey (kI x) zd=.held (Uf va vn vc)) ->w'.ranges P k Qc3 b r n D (fun z=>left z && !z.sameKey (kI x)) cnt' ->cnt'<cnt ->
   w.grownBy w' (Uq r) ->w'.heap.size=w.heap.size ->(Instr.entry (Uk (Uc r))).run P w'=.ok (Ul #[Ud x,Uf va vn vc]) w' ->wpList P ops Q rest (a.put o.dst (Ul #[Un true,Ud x,Uf va vn vc])) w'):
  wpList P ops Q (o::rest) a w:=
 wpList_next_ranges w hg it hop k K Qc3 (Value.int Uh) (fun p:Option Us×Nat×Nat=> Uf p.1 p.2.1 p.2.2) (fun key kl hkey=>by obtain⟨x,rfl,_⟩:=Maps.keyOf_int_inv hk hkey;exact⟨x,rfl⟩) (fun v y hv=>by obtain⟨_,a,n,c,rfl⟩:=QdO (d:=y.1) (ps:=y.2) hv;exact⟨(a,n,c),rfl⟩)
  b r n D left cnt hit h (fun _ hl=>hDone hl) (fun x p kl y w' cnt' hkey hlk hv hat hrg hlt hgr hsz hen=>by
   obtain⟨x',j,rfl,q⟩:=Maps.keyOf_int_inv hk hkey;cases j;have m:=(QdO (d:=y.1) (ps:=y.2) hv).1;exact hMore x p.1 p.2.1 p.2.2 w' cnt' q hlk (fun zd=>m▸hat zd) hrg hlt hgr hsz hen)
theorem QbH (x y:Int):(kI x).sameKey (kI y)=decide (x=y):=by
 rw [Bool.eq_iff_iff,WideAt.sameKey_iff (show WideAt.IsKeyLit (kI y) from trivial),decide_eq_true_iff];constructor
 ·intro h;unfold kI at h;injection h
 ·intro h;rw [h]
theorem Qqj (bd bs nd ns:Nat)(Dd Ds:DataW Value)(w:Ur)(hd:w.ownsMap prog 3 Qc3 bd nd Dd)(hs:w.ownsMap prog 3 Qc3 bs ns Ds)(hne:bd≠bs)(hroom:nd+Maps.size Ds<=maxLen):
  Cl 197 #[.map (Uq bd),.map (Uq bs)] w fun e w'=>e=Ui (Ul #[])/\ (∃D,w'.ownsMap prog 3 Qc3 bd (nd+Maps.size Ds) D/\ Merged D Dd Ds (fun _=>false))/\ w.grownBy w' (Uq bd):=by
 have G:=hd.lt;have I:=hs.lt;go_enter func197,ntmps197;go_wp2_with (at_range;refine wpList_range_own _ rfl _ 174 rfl 3 238 (int_keyed underlying3) underlying174 Qc3 bs ns Ds rfl hs ?_;intro B O h N);go_frame;go_loopw [8] (fun _ wr=>∃(r:Lit ->Bool) (m:Nat) (k:DataW Value),wr.ranges prog 3 Qc3 bs w.heap.size ns Ds r m/\ m<=Maps.size Ds/\
   wr.ownsMap prog 3 Qc3 bd (nd+(Maps.size Ds - m)) k/\ Merged k Dd Ds r/\ w.grownBy wr (Uq bd))
  (fun _ wr=>wr.rangeLeft bs w.heap.size)
 case atStart=>
  exact⟨_,_,Dd,O,Uu _,(hd.kept h oP).mono oM,merged_start Dd Ds,h.but _⟩
 case round=>
  obtain⟨r,m,k,y,J,q,u,v⟩:=hrel;go_wp2_with (at_next;refine Qbx _ rfl _ rfl 3 (int_keyed underlying3) underlying3 bs w.heap.size ns _ _ _ rfl y ?_ ?_)
  ·intro s;have z:Merged k Dd Ds (fun _=>false):=by
    have e:r=fun _=>false:=funext s;rw [<- e];exact u
   have H:=hid (And.intro q (And.intro z v));clear u z v q y;go_wp2;go_end0;exact⟨rfl,⟨k,H.1.mono oM,H.2.1⟩,H.2.2⟩
  ·intro x V Z Y w1 i U L b Q A g X K;have E:=q.kept g (fun e=>oH (Option.some.inj e));have p:keyOf prog 3 (Ud x)=Uq (kI x):=keyOf_int_mk underlying3 U;go_wp2_with (at_mapUpdate;refine wpList_mapUpdate_own _ rfl _ _ _ 174 rfl 3 238 (int_keyed underlying3) underlying174 Qc3 bd _ _ rfl E oM _ _ _ rfl rfl p (.held (Uf V Z Y)) [] rfl ?_;intro w2 M t;go_frame);have o:=Q.kept t (fun e=>hne (Option.some.inj e).symm) (fun e=>oH (Option.some.inj e));go_roundw;case rel=>
    exact⟨_,i,_,o,oM,M.mono oM,merged_step u q.isMap (show WideAt.IsKeyLit (kI x) from trivial) b,(v.andThen g (fun j hj=> .inl (by cases hj;exact Uu _))).andThen t (fun j hj=> .inr hj)⟩
   case measure=>rw [o.left_eq,y.left_eq];exact A
theorem QlK {w:Ur}{b:Nat}{e:TypeId}{s:Nat}{xs:List Value}{D:DataW Value}{left:Lit ->Bool}(h:w.ownsRow B e s v m xs)(hm:w.ranges prog 3 Qc3 b r n D left c):v.ownBlock=Up \/v.ownBlock≠Uq r:=by
 obtain⟨_,k⟩:=h;rcases k with ⟨rfl,_⟩|⟨g,cap,z,rfl,_,j,_⟩
 ·exact .inl rfl
 ·refine .inr (fun e=> ?_);obtain⟨t,y,i,o,u,_,_,_,_,q,_⟩:=hm;have e:g=r:=by simpa [Value.ownBlock] using e
  rw [e,q] at j;cases j
theorem Qne {l:List (Int×Int)}{x:Int}(h:In l x):l≠[]:=fun e=>by rw [e] at h;exact Qh8 h
theorem Srt.inh {l:List (Int×Int)}(h:Srt l)(hne:l≠[]):∃x,In l x:=by
 cases l with
 | nil=>exact absurd rfl hne
 | cons p t=>exact⟨p.1,p,Vt,Int.le_refl _,(h.2 p Vt).2.1⟩
structure Qqc (La Lb L:Int ->List (Int×Int))(left:Int ->Bool):Prop where
 s:∀r,Srt (L r)
 done:∀r,left r=false ->∀x,In (L r) x↔(In (La r) x \/In (Lb r) x)
 todo:∀r,left r=true ->L r=La r
 len:∀r,(L r).length<=(La r).length+(Lb r).length
theorem Qoo {w:Ur}{ba na bb nb:Nat}{Da Db:DataW Value}{Ga Gb:Int ->Value}{La Lb:Int ->List (Int×Int)}(ha:QaM w ba na Da Ga La)(hb:QaM w bb nb Db Gb Lb)
  (hsa:∀r,Srt (La r)) (hsb:∀r,Srt (Lb r)) (hla:∀r,(La r).length<=2000) (hlb:∀r,(Lb r).length<=2000) (hza:Maps.size Da<=2000) (hzb:Maps.size Db<=2000):
  Cl 170 #[.map (Uq ba),.map (Uq bb)] w fun e w'=>∃bd n D G L,e=Ui (.map (Uq bd))/\ n<=4000/\ QcM w' bd n D G L/\ Qqc La Lb L (fun _=>false)/\ Bl w w':=by
 have Gp:=ha.own.lt;have Gq:=hb.own.lt;have o:=hid ha;have M:=hid hb;have Hv:=hid hsa;have Hw:=hid hsb;have Ge:=hid hla;have Gf:=hid hlb;have Gk:=@run_makeMap prog;clear ha hb hsa hsb hla hlb;obtain⟨Y,O⟩:=zE (w.alloc (.map #[] 0));have E:Hid (Bl w Y):=O▸hid (zO _ _);have Ht:Hid (Y.ownsMap prog 3 Qc3 w.heap.size 0 (.map [])):=O▸hid (UO w _ _ _);have Hz:Hid (Y.heap.size=w.heap.size+1):=O▸hid oP;go_enter func170,ntmps170;go_wp2_with fail;try rw [O]
 refine(Qqj w.heap.size ba 0 na (.map []) Da Y Ht (o.bw E).own oM oL).mono ?_;rintro e w2 ⟨rfl,⟨N,H0,B⟩,P⟩;have W:Bl w w2:=E.grown P (oH Hz) (fun k hk=>oI hk);have Hc:=(M.bw W).own;have z2:w.heap.size<w2.heap.size:=oJ P.size Hz;have Hx:Hid (Qqc La Lb La (fun r=>Maps.has Db (kI r))):=by
  refine hid ⟨Hv,fun r q x=> ?_,fun _ _=>rfl,fun r=>oM⟩;have q:Maps.has Db (kI r)=false:=q;rw [M.has' r] at q;have:Lb r=[]:=oW q;rw [this];simp [In]
 have Hp:Hid (∀r,N.atKey (kI r) (.held Ue)=.held (Ga r)):=by
  refine hid (fun r=> ?_);rw [B.2,<- o.at' r];cases e:Maps.has Da (kI r) with
  | true=>rfl
  | false=>
   rw [atKey_of_not_has e];rfl
 have Hs:Hid (∀r,Maps.has N (kI r)= !(La r).isEmpty):=by
  refine hid (fun r=> ?_);rw [B.1,o.has' r];have:Maps.has (.map []:DataW Value) (kI r)=false:=rfl;rw [this];simp
 have Hr:=hid H0;have X:=hid W;clear H0 B P Ht O Gk;go_wp2_with (at_range;refine wpList_range_own _ rfl _ 174 rfl 3 238 (int_keyed underlying3) underlying174 Qc3 bb nb Db rfl Hc ?_;intro w0 Hd H Gm);go_frame;have b0:Bl w w0:=X.grown H oM (fun _ h=>by cases h);go_loopw [6] (fun _ wr=>∃(K:Lit ->Bool) (b:Nat) (A:DataW Value) (u:Int ->Value) (j:Int ->List (Int×Int)),wr.ranges prog 3 Qc3 bb w2.heap.size nb Db K b/\ b<=Maps.size Db/\ Hid (QcM wr w.heap.size (Maps.size Da+(Maps.size Db - b)) A u j)/\ Hid (Qqc La Lb j (fun r=>K (kI r)))/\ Hid (Bl w wr))
  (fun _ wr=>wr.rangeLeft bb w2.heap.size)
 case atStart=>
  refine⟨_,_,N,Ga,La,Hd,Uu _,hid ⟨(Hr.kept H oP).mono oM,Hp,Hs,fun r=>QdR (((o.bw X).rows r).kept H ?_)⟩,Hx,hid b0⟩;cases e:(Ga r).ownBlock with
  | none=>exact .inl rfl
  | some g=>exact .inr oP
 case round=>
  clear Hd H Gm b0 Hc Hx Hp Hs Hr X;obtain⟨K,b,A,u,j,Q,Gr,p,U,F⟩:=hrel;go_wp2_with (at_next;refine Qbx _ rfl _ rfl 3 (int_keyed underlying3) underlying3 bb w2.heap.size nb _ _ _ rfl Q ?_ ?_)
  ·intro H2;have HU:Hid (Qqc La Lb j (fun _=>false)):=by
    have e:(fun r=>K (kI r))=fun _=>false:=funext fun r=>H2 (kI r);have:=U.out;rw [e] at this;exact hid this
   clear H2 Q;go_wp2_with fail;go_ret;exact⟨w.heap.size,_,A,u,j,rfl,oM,p,HU,F⟩
  ·intro x va vn vc w1 Hi H9 H5 C He Gi I Gn Gs;have hG:Gb x=Uf va vn vc:=by
    have z:=M.at' x;rw [C] at z;injection z with z;exact z.symm
   have H1:Lb x≠[]:=by
    have z:=has_true_of_atKey C;rw [M.has' x] at z;intro e;rw [e] at z;cases z
   have t:Bl w w1:=F.grown I F.size (fun k hk=>oI hk);have H7:=(M.bw t).rows x;have H6:=(o.bw t).rows x;have H4:=(o.bw t).look x H9;obtain⟨xb,cb,Z,Gd,Hl,Hm⟩:=Qdg H7;obtain⟨xa,ca,e2,Gc,Hj,Hk⟩:=Qdg H6;rw [hG] at Z;injection Z with Z e3 e4;subst Z e3 e4;rw [e2] at H4;have g1:QcM w1 w.heap.size (Maps.size Da+(Maps.size Db - b)) A u j:=⟨p.own.kept I (fun e=>oI e),p.at',p.has',fun r=>(p.rows r).kept I (QlK (p.rows r) Q)⟩;have HC:=hid (QiL xa ca va vc (La x) (Lb x) w1 Gc Gd Hj Hk Hl Hm (Hv x) (Hw x) (Ge x) (Gf x));have i:=hid g1;have E:=hid t;have Ha:=hid He;have Gg:=hid Q.left_eq;have Go:=hid H5;have Gh:=hid H1;have Gt:=t.size;clear Q hG C H5 I Gn H7 H6 e2 Gc Gd g1 t He H1;go_wp2_with fail;refine HC.mono ?_;rintro e T ⟨v,l,rfl,S,m,H8,Hb,H3⟩;have Hf:=Ha.kept (row:=Up) ⟨m.os,m.tape,m.output,m.size,fun k hk _=>m.block k hk⟩ oP oP;have Hn:keyOf prog 3 (Ud x)=Uq (kI x):=keyOf_int_mk underlying3 H9;have Gl:Qc3 v=Uq (.held v,[]):=QfL S;have R:T.ownsMap prog 3 Qc3 w.heap.size (Maps.size Da+(Maps.size Db - b)) A:=i.own.kept (row:=Up) ⟨m.os,m.tape,m.output,m.size,fun k hk _=>m.block k hk⟩ oP;have Hu:Hid (∀r,T.ownsRow 0 255 2 (u r) (j r).length (Qan (j r))):=hid fun r=>Qdf (i.rows r) m;have Hy:Hid (T.ownsRow 0 255 2 v l.length (Qan l)):=hid (QdR S);have Hq:=hid (Qaa E m);have V:=hid (And.intro H8 (And.intro Hb H3));have Hh:=hid Hf;clear S m H8 Hb H3 Hf E HC H4 Ha;go_wp2_with (at_mapUpdate;refine wpList_mapUpdate_own _ rfl _ _ _ 174 rfl 3 238 (int_keyed underlying3) underlying174 Qc3 w.heap.size _ _ rfl R oL _ _ _ rfl rfl Hn (.held v) [] Gl ?_;intro w4 Gj J;go_frame);have Hg:=Hh.kept J (fun e=>oI e) (fun e=>oI e);have Ho:l≠[]:=by
    obtain⟨y,hy⟩:=(Hw x).inh Gh;exact Qne ((V.2.1 y).2 (.inr hy))
   go_roundw;case rel=>
    refine⟨_,Hi,_,upd u x v,upd j x l,Hg,oM,hid ⟨Gj.mono oM,fun r=> ?_,fun r=> ?_,fun r=> ?_⟩,hid ⟨fun r=> ?_,fun r q=> ?_,fun r q=> ?_,fun r=> ?_⟩,hid (Hq.grown J (oH Hq.size) (fun k hk=>oI hk))⟩
    ·by_cases e:r=x
     ·subst e;rw [Qap,atKey_put_same i.own.isMap (show WideAt.IsKeyLit (kI r) from trivial)]
     ·rw [Qai u v e,atKey_put_other (QiC e)];exact i.at' r
    ·by_cases e:r=x
     ·subst e;rw [Qap,has_put_same i.own.isMap (show WideAt.IsKeyLit (kI r) from trivial)];cases l with
      | nil=>exact absurd rfl Ho
      | cons _ _=>rfl
     ·rw [Qai j l e,has_put_other (QiC e)];exact i.has' r
    ·by_cases e:r=x
     ·subst e;rw [Qap,Qap];exact Hy.kept J (QfN Hy R)
     ·rw [Qai u v e,Qai j l e];exact(Hu r).kept J (QfN (Hu r) R)
    ·by_cases e:r=x
     ·subst e;rw [Qap];exact V.1
     ·rw [Qai j l e];exact U.s r
    ·by_cases e:r=x
     ·subst e;rw [Qap];exact V.2.1
     ·rw [Qai j l e];exact U.done r (by rw [QbH] at q;simpa [e] using q)
    ·by_cases e:r=x
     ·subst e;rw [QbH] at q;simp at q
     ·rw [Qai j l e];exact U.todo r (by rw [QbH] at q;simpa [e] using q)
    ·by_cases e:r=x
     ·subst e;rw [Qap];exact V.2.2
     ·rw [Qai j l e];exact U.len r
   case measure=>rw [Hg.left_eq,Gg.out];exact Gi
def SK (f:Int ->Nat):Nat ->Nat
 | 0=>0
 | k+1=>SK f k+f (k:Int)
theorem Qjf {f:Int ->Nat}(h:∀r,f r=0):∀k,SK f k=0
 | 0=>rfl
 | k+1=>by simp only [SK];rw [Qjf h k,h]
theorem Qje {f f':Int ->Nat}{x:Int}(ho:∀r,r≠x ->f' r=f r):∀k:Nat,((k:Int)<=x \/x<0) ->SK f' k=SK f k
 | 0,_=>rfl
 | k+1,h=>by simp only [SK];rw [Qje ho k oM,ho k oM]
theorem Qmn {f f':Int ->Nat}{x:Int}(ho:∀r,r≠x ->f' r=f r)(h0:0<=x):∀k:Nat,x<k ->SK f' k+f x=SK f k+f' x
 | 0,h=>oM
 | k+1,h=>by
  simp only [SK];by_cases e:x=(k:Int)
  ·rw [Qje ho k oM,<- e];omega
  ·have:=Qmn ho h0 k oM;rw [ho k (fun h=>e h.symm)];omega
theorem QhF {f:Int ->Nat}{c:Nat}(h:∀r,f r<=c):∀k,SK f k<=c*k
 | 0=>Uu _
 | k+1=>by have:=QhF h k;have:=h (k:Int);simp only [SK];rw [Nat.mul_succ];omega
theorem QfH (L:Int ->List (Int×Int)):∀k,(QcK L k).length=SK (fun r=>(L r).length) k
 | 0=>rfl
 | k+1=>by
  by_cases e:(L (k:Int)).isEmpty=true
  ·rw [Qew e,QfH L k];have:L (k:Int)=[]:=oW e;simp [SK,this]
  ·rw [Qex (oW e),Vg,QfH L k];simp [SK,tag]
theorem Qnn {w:Ur}{D:DataW Value}{G:Int ->Value}(h:QcM w bm n D G L)(hL:∀r,L r≠[] ->0<=r/\ r<8)(hl:∀r,(L r).length<=4000):
  Cl 172 #[.map (Uq bm)] w (Rt w (Ud (((QcK L 8).length:Nat):Int))):=by
 have He:=h.own.lt;have J:=h.own;have y:=hid h;have P:=hid hL;have s:=hid hl;have A:=hid (QfH L 8);clear h hL hl;obtain⟨Hc,X⟩:=zE ((QcK L 8).length);rw [X] at A ⊢;clear X;go_enter func172,ntmps172;go_wp2_with (at_range;refine wpList_range_own _ rfl _ 174 rfl 3 238 (int_keyed underlying3) underlying174 Qc3 bm n D rfl J ?_;intro w0 K V Ha);go_frame;have M:Bl w w0:=zI.grown V zL (fun _ h=>by cases h);go_loopw [3] (fun v wr=>∃(m:Lit ->Bool) (O acc:Nat),v=Ud (acc:Int)/\ wr.ranges prog 3 Qc3 bm w.heap.size n D m O/\ Hid (acc=SK (fun r=>if m (kI r) then 0 else(L r).length) 8)/\ Hid (Bl w wr))
  (fun _ wr=>wr.rangeLeft bm w.heap.size)
 case atStart=>
  refine⟨_,_,0,rfl,K,hid ?_,hid M⟩;rw [Qjf (fun r=> ?_)];cases e:Maps.has D (kI r) with
  | true=>rfl
  | false=>
   rw [y.has' r] at e;have:L r=[]:=oW e;simp [this]
 case round=>
  clear K V Ha M J;obtain⟨m,O,acc,rfl,z,i,p⟩:=hrel;have Hd:acc<=32000:=by
   rw [i.out];have:=QhF (f:=fun r=>if m (kI r) then 0 else(L r).length) (c:=4000) (fun r=>by have:=s r;show (if _ then _ else _)<=_;split<;>omega) 8;omega
  go_wp2_with (at_next;refine Qbx _ rfl _ rfl 3 (int_keyed underlying3) underlying3 bm w.heap.size n _ _ _ rfl z ?_ ?_)
  ·intro Z;have F:Hid (acc=Hc):=by
    have j:=i.out;rw [show (fun r=>if m (kI r) then 0 else(L r).length)=fun r=>(L r).length from funext fun r=>by rw [Z (kI r)];rfl] at j;exact hid (j.trans A.symm)
   clear Z z;go_wp2_with fail;go_ret;exact⟨QbS (by rw [F.out]),p⟩
  ·intro x va g vc w1 W Hh I b N H Y Hb Hf;have U:G x=Uf va g vc:=by
    have j:=y.at' x;rw [b] at j;injection j with j;exact j.symm
   obtain⟨a',c',Q,_⟩:=Qdg (y.rows x);rw [U] at Q;injection Q with ea en ec;subst ea ec;have B:0<=x/\ x<8:=by
    have j:=has_true_of_atKey b;rw [y.has' x] at j;exact P x (fun e=>by rw [e] at j;cases j)
   have Hg:g<=4000:=(by rw [en];exact s x);have T:Hid (acc+g=SK (fun r=>if (m (kI r) && !(kI r).sameKey (kI x)) then 0 else(L r).length) 8):=by
    obtain⟨q,t⟩:∃q:Int ->Nat,q=fun r=>if m (kI r) then 0 else(L r).length:=⟨_,rfl⟩;obtain⟨u,o⟩:∃u:Int ->Nat,u=fun r=>if (m (kI r) && !(kI r).sameKey (kI x)) then 0 else(L r).length:=⟨_,rfl⟩;have j:=Qmn (f:=q) (f':=u) (x:=x) (fun r hr=>by rw [t,o];show (if _ then _ else _)=(if _ then _ else _);rw [QbH];simp [hr]) B.1 8 B.2;have h2:q x=0:=(by rw [t];show (if _ then _ else _)=_;rw [I];rfl);have h3:u x=(L x).length:=(by rw [o];show (if _ then _ else _)=_;rw [QbH];simp);have h4:=i.out;rw [<- t] at h4;rw [<- o];exact hid oM
   have C:Hid (Bl w w1):=hid (p.grown Y p.size (fun k hk=>oI hk));have R:=hid z.left_eq;have E:=hid N;have S:=hid H;clear z Y Hb b U en I N H;go_wp2_with fail;go_roundw;case rel=>exact⟨_,W,acc+g,oN,E,T,C⟩
   case measure=>rw [E.left_eq,R.out];exact S
def Qar (l:List Rn):List Value:=l.flatMap fun p=>[Ud p.1,Ud p.2.1,Ud p.2.2]
theorem Qc9 (l:List Rn)(p:Rn):Qar (l++[p])=Qar l++[Ud p.1,Ud p.2.1,Ud p.2.2]:=by simp [Qar]
def FR (w:Ur)(B:Nat)(v:Value)(l:List Rn):Prop:=w.ownsRow B 123 3 v l.length (Qar l)
theorem QcM.look {w:Ur}{D:DataW Value}{G:Int ->Value}(h:QcM w bm n D G L)(r:Int)(hr:(Lit.int Uh r).wf=true):
  (Instr.lookup 174 (.map (Uq bm)) (Ud r) false).run prog w=.ok (G r) w:=by
 obtain⟨v,ps,k,m⟩:=h.own.lookup (int_keyed underlying3) underlying174 (QgK w) (zd:=.held Ue) (zp:=[]) rfl (keyOf_int_mk underlying3 hr);have:=h.at' r;obtain⟨j,_⟩:=QdO m;unfold kI at this;rw [this] at j;have e:v=G r:=by injection j with j;exact j.symm
 rw [k,e]
theorem QiD {w:Ur}{D:DataW Value}{G:Int ->Value}(h:QcM w bm n D G L)(hL:∀r,L r≠[] ->0<=r/\ r<8):(KS L 8).Perm (intKeys D)/\ Maps.size D=(KS L 8).length:=by
 obtain⟨u,j,g,_⟩:=h.own.entries (int_keyed underlying3);obtain⟨y,k,z⟩:=h.own.keysOf;obtain rfl:u=y:=by rw [j] at k;simpa using k
 have q:(KS L 8).Perm (intKeys D):=by
  have m:=h.has';rw [j] at m ⊢;refine perm_intKeys g (fun p hp=>by obtain⟨v,t⟩:=z p hp;obtain⟨x,_,o,_⟩:=Maps.keyOf_i64 underlying3 t;exact⟨x,o⟩) ((Qja L 8).imp (fun h=>oM)) (fun x=> ?_);have:=m x;unfold kI at this;rw [this,Qd5];constructor
  ·rintro⟨_,_,c⟩;rw [c];rfl
  ·intro c;have c':(L x).isEmpty=false:=oW c;have:=hL x (by intro e;rw [e] at c';cases c');exact⟨this.1,this.2,c'⟩
 refine⟨q,?_⟩;rw [q.length_eq,j];simp [Maps.size_eq,intKeys]
def Qgb (L:Int ->List (Int×Int))(ks:List Int):Nat ->List Rn
 | 0=>[]
 | k+1=>Qgb L ks k++tag (ks.getD k 0) (L (ks.getD k 0))
theorem QgB (L:Int ->List (Int×Int))(ks:List Int):∀k,k<=ks.length ->Qgb L ks k=(ks.take k).flatMap fun r=>tag r (L r)
 | 0,_=>by simp [Qgb]
 | k+1,h=>by
  have e:ks.take (k+1)=ks.take k++[ks.getD k 0]:=by
   rw [VP];simp [UR,show k<ks.length by omega]
  rw [e,Vw,<- QgB L ks k oM];simp [Qgb]
theorem Qie {L:Int ->List (Int×Int)}(hL:∀r,(L r).length<=4000)(ks:List Int):∀k,(Qgb L ks k).length<=4000*k
 | 0=>by simp [Qgb]
 | k+1=>by
  have:=Qie hL ks k;have:=hL (ks.getD k 0);simp only [Qgb,Vg,tag,YC];omega
theorem QlR {r:Int}{l:List (Int×Int)}{t:Nat}(h:t<l.length):(tag r l).take (t+1)=(tag r l).take t++[(r,sF l t,sT l t)]:=by
 rw [VP];simp [tag,sF,sT,UR,h]
theorem Qjq {w:Ur}{D:DataW Value}{G:Int ->Value}(h:QcM w bm n D G L)(hL:∀r,L r≠[] ->0<=r/\ r<8)(hl:∀r,(L r).length<=4000):
  Cl 135 #[.map (Uq bm)] w fun e w'=>∃v,e=Ui (Uo #[v])/\ FR w' w.heap.size v (QcK L 8)/\ Bl w w':=by
 obtain⟨i0,hi,G1,G2,G3⟩:=info_parts Tryz.infoRun;have G7:=h.own.lt;obtain⟨kp,Hy⟩:=QiD h hL;obtain⟨q,F⟩:=zE (KS L 8);have Gt:Hid (QcK L 8=Qgb L q q.length):=by
  refine hid ?_;rw [QgB L q _ zL,VQ,<- F];rfl
 have Ka:q.length<=8:=F▸Qgf L 8;have Hq:Hid (∀x∈q,0<=x/\ x<8/\ L x≠[]):=fun x P=>by
  rw [<- F] at P;have:=(Qd5 L 8 x).1 P;exact⟨this.1,oM,fun e=>by rw [e] at this;simp at this⟩
 have H8:Hid (∀T:List Int,T.Perm (intKeys D) ->T.mergeSort (fun x y=>decide (x<=y))=q/\ T.length=q.length):=fun T hs=>by rw [<- F];exact⟨Qgg kp hs,by rw [hs.length_eq,<- kp.length_eq]⟩
 rw [F] at Hy;clear F kp hL;have HG:=hid h;have H6:=hid hl;have Hg:Hid (∀r g,(G r).ownBlock=Uq g ->g<w.heap.size):=fun r g E=>((h.rows r).lt g E).2;clear h hl;obtain⟨Q,Z⟩:=zE ((w.alloc (Uj #[Ue] 38)).alloc (Uj #[Ue] 38));have H1:Hid (Bl w Q):=Z▸hid (Qak _ _ _);have K:Hid (Q.heap.size=w.heap.size+2):=Z▸hid oP;have c2:Q.cell? (Ub w.heap.size)=Uq Ue:=Z▸oP;have c3:Q.cell? (Ua (w.heap.size+1) 0)=Uq Ue:=Z▸oP;have f2:Q.frozen? (Ub w.heap.size)=false:=Z▸oP;have f3:Q.frozen? (Ua (w.heap.size+1) 0)=false:=Z▸oP;have Hf:=hid (HG.bw H1);go_enter func135,ntmps135;go_wp2_with fail;try rw [Z]
 refine(Qpz (Uq bm) Q).mono ?_;rintro e w3 ⟨rfl,rfl⟩;go_wp2_with fail;refine(Qk5 bm n D Qc3 Q Hf.own (by rw [Hy];unfold maxLen;omega) (by rw [Hy];omega)).mono ?_;rintro e w4 ⟨v4,T,rfl,He,Hc,I⟩;obtain⟨Gc,Gd⟩:=H8 T He;rw [Gc,Gd] at Hc;have z4:w.heap.size+2<=w4.heap.size:=oJ I.size K;have d2:=(I.cell (p:=(Ub w.heap.size)) (by have:=K.out;show w.heap.size<_;omega)).trans c2;have d3:=(I.cell (p:=(Ua (w.heap.size+1) 0)) (by have:=K.out;show w.heap.size+1<_;omega)).trans c3;have k2:=((QbZ I).2 w.heap.size 0 (oH K)).trans f2;have k3:=((QbZ I).2 (w.heap.size+1) 0 (oH K)).trans f3;have H2:=hid (Qaa H1 I);have H4:=hid (HG.bw H2);clear He Gc Gd H8 I Z c2 c3 Hf f2 f3;have Gy:Hid (q.length=0 \/∃g cap,v4=Uf (Uc g) q.length cap/\ g<w4.heap.size/\ w.heap.size+2<=g/\ q.length<=cap/\ cap<=9223372036854775807/\∀i,i<q.length ->w4.cell? (Ua g i)=Uq (Ud (q.getD i 0))):=by
  refine hid ?_;have hr:=Hc;rcases Hc.2 with ⟨_,e0⟩|⟨g,cap,Hs,rfl,G6,E,G0,Gw,G8,Gj⟩
  ·exact .inl e0
  ·have:=K.out;unfold maxLen at Gw;exact .inr ⟨g,cap,rfl,(hr.lt g rfl).2,oM,G0,oM,Qir hr rfl⟩
 obtain⟨x4,H9,e4⟩:∃x c,v4=Uf x q.length c:=by
  rcases Hc.2 with ⟨rfl,e0⟩|⟨g,cap,Hs,rfl,_⟩
  ·exact⟨Up,0,by rw [e0]⟩
  ·exact⟨_,_,rfl⟩
 subst e4;clear Hc;go_wp2_with fail;go_loopw [12] (fun iv wr=>∃(k:Nat) (v:Value),k<=q.length/\ iv=Ud k/\ wr.cell? (Ua (w.heap.size+1) 0)=Uq v/\ wr.cell? (Ub w.heap.size)=Uq Ue/\ wr.frozen? (Ub w.heap.size)=false/\ wr.frozen? (Ua (w.heap.size+1) 0)=false/\ Hid (FR wr w4.heap.size v (Qgb L q k))/\ Hid (w4.grownBy wr (Uq (w.heap.size+1)))) (fun iv _=>q.length - (intOf iv).toNat);case atStart=>exact⟨0,_,Uv _,rfl,d3,d2,k2,k3,hid (World.ownsRow_nil _ _ _ _),hid ⟨rfl,rfl,rfl,Uu _,fun _ _ _=>rfl⟩⟩
 case round=>
  clear d2 d3 k2 k3;obtain⟨k,v,hk,rfl,U,z,R,S,W,Hl⟩:=hrel;by_cases Hx:k<q.length
  ·have Hb:∃g,x4=Uq (Ub g)/\ q.length<=H9/\ H9<=9223372036854775807/\ wr.cell? (Ua g k)=Uq (Ud (q.getD k 0)):=by
    rcases Gy.out with h|⟨g,cap,e,E,G9,q1,q2,hc⟩
    ·omega
    ·injection e with e1 z U;subst e1 U;have Hk:Uq g≠Uq (w.heap.size+1):=fun e=>oI e;exact⟨g,rfl,q1,q2,Hl.cell (hc k Hx) Hk⟩
   obtain⟨g,rfl,Kc,Kd,Gf⟩:=Hb;have Hj:=Hq (q.getD k 0) (by simp [UR,Hx]);have Hh:Hid (Qgb L q (k+1)=Qgb L q k++tag (q.getD k 0) (L (q.getD k 0))):=hid rfl;have Kb:=Qie H6 q k;obtain⟨x,P⟩:=zE (q.getD k 0);rw [P] at Hj Gf Hh;have Gl:(Lit.int Uh x).wf=true:=wfI oM oM;have gw:QcM wr bm n D G L:=H4.gr Hl (fun e=>oI e) (fun r g E e=>by injection e with e;have:=Hg r g E;omega);have Hw:=gw.look x Gl;obtain⟨xs,cs,eG,Gi,Ht,Gx⟩:=Qdg (H4.rows x);rw [eG] at Hw;have Hv:=H6 x;obtain⟨m,hm⟩:=zE ((L x).length);have H7:=hid Gi;have Gu:Hid (∀a,xs=Uq a ->a.block<w.heap.size):=hid fun a ha=>by
    have:=Hg x a.block (by rw [eG,ha];rfl);exact this
   rw [hm] at Hw Ht Hv H7;have HM:=hid hm;have HX:=hid P;clear gw eG Gi hm P Hj Gl;go_wp2_with fail;go_loopw [20] (fun iv wr2=>∃(t:Nat) (v2:Value),t<=m/\ iv=Ud t/\ wr2.cell? (Ua (w.heap.size+1) 0)=Uq v2/\ wr2.cell? (Ub w.heap.size)=Uq Ue/\ wr2.frozen? (Ub w.heap.size)=false/\ wr2.frozen? (Ua (w.heap.size+1) 0)=false/\ Hid (FR wr2 w4.heap.size v2 (Qgb L q k++(tag x (L x)).take t))/\ Hid (w4.grownBy wr2 (Uq (w.heap.size+1)))) (fun iv _=>m - (intOf iv).toNat);case atStart=>exact⟨0,v,Uv _,rfl,U,z,R,S,hid (oW W),Hl⟩
   case round=>
    clear U z Hw W Gf R S;obtain⟨t,v2,ht,rfl,U,z,R,S,B,C⟩:=hrel;have zr:=C.size;have Gz:(Qgb L q k++(tag x (L x)).take t).length<=4000*k+4000:=(by simp only [Vg,List.length_take];omega);obtain⟨fl,Hu⟩:=zE (Qgb L q k++(tag x (L x)).take t);rw [Hu] at B Gz;have H3:=hid Hu;clear Hu;by_cases Hz:t<m
    ·have Hb:∃V off,xs=Uq (Ua V off)/\ wr.cell? (Ua V (off+t*2))=Uq (Ud (sF (L x) t))/\ wr.cell? (Ua V (off+t*2+1))=Uq (Ud (sT (L x) t)):=by
      rcases H7.out with h|⟨V,off,e,E,hc⟩
      ·omega
      ·have Y:=Gu _ e;have Hk:Uq V≠Uq (w.heap.size+1):=fun e=>by injection e with e;have Y:V<w.heap.size:=Y;omega
       exact⟨V,off,e,C.cell (hc t Hz).1 Hk,C.cell (hc t Hz).2 Hk⟩
     obtain⟨V,off,rfl,s0,s1⟩:=Hb;have Hr:=hid (QlR (r:=x) (l:=L x) (t:=t) (oH HM));obtain⟨qf,Gg⟩:=zE (sF (L x) t);obtain⟨qt,Gh⟩:=zE (sT (L x) t);rw [Gg] at s0 Hr;rw [Gh] at s1 Hr;clear Gg Gh;obtain⟨b,H⟩:=zE (wr.alloc (Uj #[Ud qf,Ud qt] 255));have N:Bl wr b:=H▸zO _ _;have r0:b.cell? (Ub wr.heap.size)=Uq (Ud qf):=H▸oP;have r1:b.cell? (Ua wr.heap.size 1)=Uq (Ud qt):=H▸oP;have Gb:=(N.cell (p:=(Ua (w.heap.size+1) 0)) (show w.heap.size+1<wr.heap.size by omega)).trans U;have Gp:Hid (FR b w4.heap.size v2 fl):=H▸World.ownsRow.alloc B _;have Gr:Hid (w4.grownBy b (Uq (w.heap.size+1))):=(by rw [<- H];exact hid (C.andThen (Ym wr _ Up) (fun j hj=>by cases hj)));have Hm:=hid ((N.cell (p:=(Ub w.heap.size)) (show w.heap.size<wr.heap.size by omega)).trans z);have Ho:=hid (((QbZ N).2 w.heap.size 0 oM).trans R);have Hp:=hid (((QbZ N).2 (w.heap.size+1) 0 oM).trans S);have z5:=N.size;have H0:Hid (∀g,v2.ownBlock=Uq g ->w4.heap.size<=g):=hid fun g E=>(World.ownsRow.lt B g E).1;clear N B C z R S;go_wp2_with (at_builtin;(try rw [H]);refine Qam rfl _ _ 36 rfl w4.heap.size 123 i0 _ 3 24 underlying36 hi G1 G2 G3 rfl oD _ _ _ rfl (World.ownsRow.alloc Gp _) (Ub b.heap.size) 1 1 [Ud x,Ud qf,Ud qt] rfl rfl ?c1 ?c2 ?c3 ?c4 ?c5 ?_);case c1=>exact Qa0 _ _ _ _ _
     case c2=>intro u hu;simp at hu;rcases hu with rfl|rfl|rfl<;>rfl
     case c3=>unfold maxLen;omega
     case c4=>omega
     case c5=>simp;omega
     intro o s Ha J Hd;obtain⟨y7,n7,c7,rfl⟩:=Qbk Ha;obtain⟨o,Gk⟩:∃o,o=Value.slice y7 n7 c7:=⟨_,rfl⟩;rw [<- Gk] at Ha Hd;have Ge:Uq (w.heap.size+1)≠v2.ownBlock:=fun e=>by have:=H0 _ e.symm;omega
     have Hi:Uq w.heap.size≠v2.ownBlock:=fun e=>by have:=H0 _ e.symm;omega
     have X:Bl b (b.alloc (Uj #[Ud x,Ud qf,Ud qt] 123)):=zO _ _;have Gv:=J.cell ((X.cell (p:=(Ua (w.heap.size+1) 0)) (show w.heap.size+1<b.heap.size by omega)).trans Gb) Ge;have Ga:=J.cell ((X.cell (p:=(Ub w.heap.size)) (show w.heap.size<b.heap.size by omega)).trans Hm) Hi;have z7:=J.size;have z6:=X.size;have G5:s.frozen? (Ua (w.heap.size+1) 0)=false:=(Ys (J.block (w.heap.size+1) oM Ge)).trans (((QbZ X).2 (w.heap.size+1) 0 oM).trans Hp);have G4:s.frozen? (Ub w.heap.size)=false:=(Ys (J.block w.heap.size oM Hi)).trans (((QbZ X).2 w.heap.size 0 oM).trans Ho);have Hn:Hid (FR s w4.heap.size o (Qgb L q k++(tag x (L x)).take (t+1))):=by
      rw [Hr.out,<- Vu,H3.out];unfold FR;rw [Qc9,Vg];exact hid Ha
     have H5:Hid (w4.grownBy s (Uq (w.heap.size+1))):=hid ((Gr.andThen (Ym b _ Up) (fun j hj=>by cases hj)).andThen J (fun j hj=> .inl (H0 j hj)));have Gq:Hid (FR (s.setCell (Ua (w.heap.size+1) 0) o) w4.heap.size o (Qgb L q k++(tag x (L x)).take (t+1))):=by
      refine hid ?_;refine World.ownsRow.kept Hn (QaG s (Ua (w.heap.size+1) 0) o) ?_;cases e:o.ownBlock with
      | none=>exact .inl rfl
      | some g=>exact .inr (fun z=>by have:=(World.ownsRow.lt Hn g e).1;injection z with z;have z:g=w.heap.size+1:=z;omega)
     have Gs:Hid (w4.grownBy (s.setCell (Ua (w.heap.size+1) 0) o) (Uq (w.heap.size+1))):=hid (H5.andThen (QaG s (Ua (w.heap.size+1) 0) o) (fun j hj=> .inr hj));have Gn:=UH s (Ua (w.heap.size+1) 0) o Gv;have Gm:(s.setCell (Ua (w.heap.size+1) 0) o).cell? (Ub w.heap.size)=Uq Ue:=(UF s (Ua (w.heap.size+1) 0) (Ub w.heap.size) o oQ).trans Ga;have HK:=hid (And.intro Gn Gm);subst Gk;clear Ha J Hd Gb r0 r1 s0 s1 X U H Gn Gm Ga Hn H5;go_wp2_with fail;go_roundw;case rel=>exact⟨t+1,_,Hz,oN,HK.1,HK.2,oW G4,by simpa using G5,Gq,Gs⟩
     case measure=>exact oE
    ·obtain rfl:t=m:=oM;have Go:Hid (FR wr w4.heap.size v2 (Qgb L q (k+1))):=by
      rw [Hh.out];have Y:=B.out;rw [<- H3.out,List.take_of_length_le (by simp only [tag,YC];have:=HM.out;omega)] at Y;exact hid Y
     clear B;go_wp2_with fail;go_roundw;case rel=>exact⟨k+1,v2,Hx,oN,U,z,R,S,Go,C⟩
     case measure=>exact oE
  ·obtain rfl:k=q.length:=oM;obtain⟨O,M,A,rfl⟩:=Qbk W;have HF:Hid (FR (wr.setCell (Ub w.heap.size) (Uf O M A)) w.heap.size (Uf O M A) (QcK L 8)):=by
    rw [Gt.out];have Y:=W.out;have h2:FR wr w.heap.size (Uf O M A) (Qgb L q q.length):=by
     obtain⟨q1,q2⟩:=Y;refine⟨q1,q2.imp id ?_⟩;rintro⟨g,cap,Hs,e,E,r⟩;exact⟨g,cap,Hs,e,oM,r⟩
    refine hid (World.ownsRow.kept h2 (QaG wr (Ub w.heap.size) (Uf O M A)) ?_);cases e:(Value.slice O M A).ownBlock with
    | none=>exact .inl rfl
    | some g=>exact .inr (fun z=>by have:=(World.ownsRow.lt Y g e).1;injection z with z;have z:g=w.heap.size:=z;omega)
   have HB:Hid (Bl w (wr.setCell (Ub w.heap.size) (Uf O M A))):=hid ((H2.grown Hl oM (fun k hk=>oI hk)).setCell (p:=(Ub w.heap.size)) zL (Uf O M A));have k2:=UH wr (Ub w.heap.size) (Uf O M A) z;clear W;go_wp2_with fail;refine zF (v:=Uo #[Uf O M A]) (by simp [results,results135,go_sem,k2]) ⟨_,rfl,HF,HB⟩
def Qos:Int ->List (Int×Int) ->Int
 | least,[]=>least
 | _,p::l=>Qos (p.2+2) l
theorem Qj0 (l:List (Int×Int))(p:Int×Int):∀j,Qos j (l++[p])=p.2+2:=by
 induction l with
 | nil=>intro j;rfl
 | cons q l ih=>intro j;exact ih _
theorem Qjz (l:List (Int×Int))(p:Int×Int):∀j,QbJ j (l++[p])=QbJ j l++(uvF 9 (p.1 - Qos j l).toNat++uvF 9 (p.2 - p.1).toNat):=by
 induction l with
 | nil=>intro j;simp [QbJ,Qos]
 | cons q l ih=>
  intro j;show uvF 9 _++uvF 9 _++QbJ _ (l++[p])=(uvF 9 _++uvF 9 _++QbJ _ l)++_;rw [ih];simp only [Vu];rfl
theorem QgH {α:Type}(l:List α)(d:α)(h:k<l.length):l.take (k+1)=l.take k++[l.getD k d]:=by
 rw [VP];simp [UR,h]
theorem Qk6 (l:List (Int×Int)):∀k,k<=l.length ->spK l k=QbJ 1 (l.take k)/\ loK l k=Qos 1 (l.take k)
 | 0,_=>by simp [spK,QbJ,loK,Qos]
 | k+1,h=>by
  obtain⟨j,m⟩:=Qk6 l k oM;rw [QgH l (0,0) oM,Qjz,Qj0];refine⟨?_,rfl⟩;simp only [spK];rw [j,m];rfl
theorem Qlm (l:List (Int×Int)):QkT l=uvF 9 l.length++QbJ 1 l:=by
 unfold QkT;rw [(Qk6 l l.length zL).1,VQ]
theorem Qli (g g':List (Int×List (Int×Int))):Qdt (g++g')=Qdt g++Qdt g':=by
 induction g with
 | nil=>rfl
 | cons p g ih=>
  show uvF 9 _++uvF 9 _++QbJ 1 _++Qdt (g++g')=(uvF 9 _++uvF 9 _++QbJ 1 _++Qdt g)++Qdt g';rw [ih];simp only [Vu]
theorem Qii (L:Int ->List (Int×Int))(ks:List Int):∀k,k<=ks.length ->Qgc L ks k=Qdt ((ks.take k).map fun r=>(r,L r))
 | 0,_=>by simp [Qgc,Qdt]
 | k+1,h=>by
  rw [QgH ks 0 oM,Vl,Qli,<- Qii L ks k oM];simp only [Qgc,Qod,Qlm,Vm,List.map_nil,Qdt,VC,Vu]
def QiX (L:Int ->List (Int×Int)):List (Int×List (Int×Int)):=(KS L 8).map fun r=>(r,L r)
theorem Qih (L:Int ->List (Int×Int)):QeJ L=Qi6 (QiX L):=by
 unfold QeJ Qi6;rw [Qii L (KS L 8) _ zL,VQ];simp [QiX]
theorem Qkl:∀(l:List (Int×Int)) (least:Int),okS least l ->1<=least ->Srt l/\∀p∈l,least<=p.1
 | [],_,_,_=>⟨⟨List.Pairwise.nil,fun p j=>by cases j⟩,fun p j=>by cases j⟩
 | q::l,least,⟨o1,o2,o3,o4⟩,h1=>by
  obtain⟨k,m⟩:=Qkl l (q.2+2) o4 oM;refine⟨⟨List.pairwise_cons.2 ⟨fun p j=>oH (m p j),k.1⟩,fun p j=> ?_⟩,fun p j=> ?_⟩
  ·rcases List.mem_cons.1 j with rfl|j
   ·exact⟨oM,o2,o3⟩
   ·exact k.2 p j
  ·rcases List.mem_cons.1 j with rfl|j
   ·exact o1
   ·have:=m p j;omega
theorem QkC:∀(l:List (Int×Int)) (least:Int),Srt l ->(∀p∈l,least<=p.1) ->okS least l
 | [],_,_,_=>trivial
 | q::l,least,h,h1=>by
  have j:=h.2 q Vt;obtain⟨k,m⟩:=List.pairwise_cons.1 h.1;exact⟨h1 q Vt,j.2.1,j.2.2,QkC l _ ⟨m,fun p hp=>h.2 p (VT _ hp)⟩ (fun p hp=>oH (k p hp))⟩
def Qau (g:List (Int×List (Int×Int))):List Rn:=g.flatMap fun p=>tag p.1 p.2
theorem Qfa (p:Int×List (Int×Int))(g:List (Int×List (Int×Int))):Qau (p::g)=tag p.1 p.2++Qau g:=by simp [Qau]
theorem Qfb (L:Int ->List (Int×Int)):Qau (QiX L)=QcK L 8:=by
 unfold Qau QiX QcK;rw [Vx]
def lkG:List (Int×List (Int×Int)) ->Int ->List (Int×Int)
 | [],_=>[]
 | p::g,r=>if p.1=r then p.2 else lkG g r
theorem Qer:∀(g:List (Int×List (Int×Int))) (before left:Int),okR before left g ->∀r,Srt (lkG g r)/\ (lkG g r≠[] ->before<r/\ 0<=r/\ r<=7)/\ (r∈g.map Prod.fst↔lkG g r≠[])
 | [],_,_,_,r=>⟨⟨List.Pairwise.nil,fun p hp=>by cases hp⟩,fun h=>absurd rfl h,by simp [lkG]⟩
 | p::g,before,left,⟨o1,o2,o3,o4,o5,o6,o7⟩,r=>by
  obtain⟨k,m,q⟩:=Qer g p.1 _ o7 r;by_cases e:p.1=r
  ·have j:lkG (p::g) r=p.2:=if_pos e;rw [j];exact⟨(Qkl _ 1 o6 oM).1,fun _=>oM,by simp [e,o4]⟩
  ·have j:lkG (p::g) r=lkG g r:=if_neg e;rw [j];refine⟨k,fun h=>oH (m h),?_⟩;rw [Vm,YD,q];constructor
   ·rintro(h|h)
    ·exact absurd h.symm e
    ·exact h
   ·exact .inr
theorem QdL:∀(g:List (Int×List (Int×Int))) (before left:Int),okR before left g ->(g.map Prod.fst).Pairwise (fun x y=>x<y)/\∀x∈g.map Prod.fst,before<x
 | [],_,_,_=>⟨List.Pairwise.nil,fun x j=>by cases j⟩
 | p::g,before,left,⟨o1,o2,o3,o4,o5,o6,o7⟩=>by
  obtain⟨m,k⟩:=QdL g p.1 _ o7;refine⟨List.pairwise_cons.2 ⟨k,m⟩,fun x j=> ?_⟩;rcases List.mem_cons.1 j with rfl|j
  ·exact o1
  ·have:=k x j;omega
theorem Qkd:∀(xs ys:List Int),xs.Pairwise (fun x y=>x<y) ->ys.Pairwise (fun x y=>x<y) ->(∀x,x∈xs↔x∈ys) ->xs=ys
 | [],[],_,_,_=>rfl
 | [],b::s,_,_,h=>by have:=(h b).2 Vt;cases this
 | a::t,[],_,_,h=>by have:=(h a).1 Vt;cases this
 | a::t,b::s,hx,hy,h=>by
  obtain⟨k,q⟩:=List.pairwise_cons.1 hx;obtain⟨m,r⟩:=List.pairwise_cons.1 hy;have e:a=b:=by
   rcases List.mem_cons.1 ((h a).1 Vt) with e|e
   ·exact e
   ·rcases List.mem_cons.1 ((h b).2 Vt) with j|j
    ·exact j.symm
    ·have:=k b j;have:=m a e;omega
  subst e;congr 1;refine Qkd t s q r (fun x=>⟨fun hm=> ?_,fun hm=> ?_⟩)
  ·rcases List.mem_cons.1 ((h x).1 (VT _ hm)) with e|e
   ·have:=k x hm;omega
   ·exact e
  ·rcases List.mem_cons.1 ((h x).2 (VT _ hm)) with e|e
   ·have:=m x hm;omega
   ·exact e
theorem QmC:∀(g:List (Int×List (Int×Int))) (before left:Int),okR before left g ->(g.map Prod.fst).map (fun r=>(r,lkG g r))=g
 | [],_,_,_=>rfl
 | p::g,before,left,⟨o1,o2,o3,o4,o5,o6,o7⟩=>by
  have k:=QmC g p.1 _ o7;have j:=(QdL g p.1 _ o7).2;rw [Vm,Vm];have e:lkG (p::g) p.1=p.2:=if_pos rfl;rw [e];congr 1;refine Eq.trans (Vr (fun r hm=> ?_)) k;have:lkG (p::g) r=lkG g r:=if_neg (oH (j r hm));rw [this]
theorem Qlr {g:List (Int×List (Int×Int))}(h:okR (-1) left g):QiX (lkG g)=g:=by
 have e:KS (lkG g) 8=g.map Prod.fst:=by
  refine Qkd _ _ (Qja _ 8) (QdL g _ _ h).1 (fun x=> ?_);obtain⟨_,k,m⟩:=Qer g _ _ h x;rw [Qd5,m];constructor
  ·rintro⟨_,_,c⟩ e;rw [e] at c;cases c
  ·intro j;have:=k j;exact⟨oM,oM,by cases hl:lkG g x with|nil=>exact absurd hl j|cons _ _=>rfl⟩
 unfold QiX;rw [e];exact QmC g _ _ h
theorem Qgr:∀(g:List (Int×List (Int×Int))) (before left:Int),okR before left g ->0<=left ->((Qau g).length:Int)<=left
 | [],_,_,_,h0=>by simpa [Qau] using h0
 | p::g,before,left,⟨o1,o2,o3,o4,o5,o6,o7⟩,h0=>by
  have j:=Qgr g p.1 _ o7 oM;rw [Qfa,Vg];simp only [tag,YC] at*;omega
def lR (l:List Rn)(i:Nat):Int:=(l.getD i (0,0,0)).1
def lF (l:List Rn)(i:Nat):Int:=(l.getD i (0,0,0)).2.1
def lT (l:List Rn)(i:Nat):Int:=(l.getD i (0,0,0)).2.2
theorem Qgs (l:List Rn):flat (lR l) (lF l) (lT l) l.length=l:=by
 refine List.ext_getElem (by simp [flat]) (fun i h1 h2=> ?_);simp [flat,lR,lF,lT,UR,h2]
theorem Qkn {l:List Rn}(h:QdF l):QeM (lR l) (lF l) (lT l) l.length:=by
 intro i hi;have e:∀j,(hj:j<l.length) ->l.getD j (0,0,0)=l[j]:=fun j hj=>by simp [UR,hj]
 refine⟨?_,fun h0=> ?_⟩
 ·have:=h.2 _ (UW hi);rw [<- e i hi] at this;exact Qd0 this
 ·have:=List.pairwise_iff_getElem.1 h.1 (i - 1) i oM hi oM;rw [<- e i hi,<- e (i - 1) oM] at this;unfold QaJ;exact decide_eq_true this
theorem QlO {l l':List (Int×Int)}(h:Srt l)(h':Srt l')(he:∀x,In l x↔In l' x):l=l':=by
 have:=uniq (Qh5 h (Int.le_refl 0) oM) (Qh5 h' (Int.le_refl 0) oM) (fun r x=>by rw [QkM,QkM,he]);unfold tag at this;have v:∀(a b:List (Int×Int)),a.map (fun p=>((0:Int),p.1,p.2))=b.map (fun p=>((0:Int),p.1,p.2)) ->a=b:=by
  intro a;induction a with
  | nil=>intro b j;cases b with|nil=>rfl|cons _ _=>simp at j
  | cons p a ih=>
   intro b j;cases b with
   | nil=>simp at j
   | cons q b=>
    rw [Vm,Vm] at j;injection j with h1 h2;have k:p=q:=by
     have m:=congrArg (fun z:Rn=>z.2.1) h1;have u:=congrArg (fun z:Rn=>z.2.2) h1;exact Prod.ext m u
    rw [k,ih b h2]
 exact v _ _ this
theorem Qcw {g:List (Int×List (Int×Int))}(h:okR (-1) 1000 g):
  QdC (lR (Qau g)) (lF (Qau g)) (lT (Qau g)) (Qau g).length=true/\ Lk (lR (Qau g)) (lF (Qau g)) (lT (Qau g)) (Qau g).length=lkG g/\ QeJ (lkG g)=Qi6 g/\ QcK (lkG g) 8=Qau g:=by
 have k:∀r,Srt (lkG g r):=fun r=>(Qer g _ _ h r).1;have m:=Qlr h;have j:QcK (lkG g) 8=Qau g:=by rw [<- Qfb,m]
 have v:QdF (Qau g):=j▸(Qdz k 8 zL).1;have q:=Qkn v;have y:=Qgr g _ _ h oM;refine⟨Qax.2 ⟨q,oM⟩,funext fun r=> ?_,by rw [Qih,m],j⟩;refine QlO (QbT _ q r).1 (k r) (fun x=> ?_);rw [<- Qeb,Qgs,<- j,(Qdz k 8 zL).2.1];constructor
 ·rintro⟨_,_,u⟩;exact u
 ·intro hi;have:=(Qer g _ _ h r).2.1 (fun e=>by rw [e] at hi;exact Qh8 hi);exact⟨oM,oM,hi⟩
theorem QmI (L:Int ->List (Int×Int)):∀(ks:List Int) (before left:Int),ks.Pairwise (fun x y=>x<y) ->(∀r∈ks,before<r/\ 0<=r/\ r<=7/\ L r≠[]/\ Srt (L r)) ->((ks.flatMap fun r=>tag r (L r)).length:Int)<=left ->okR before left (ks.map fun r=>(r,L r))
 | [],_,_,_,_,_=>trivial
 | k::ks,before,left,hp,ha,hl=>by
  obtain⟨o,i⟩:=List.pairwise_cons.1 hp;obtain⟨m,q,u,v,j⟩:=ha k Vt;rw [Vz,Vg] at hl;have b:(tag k (L k)).length=(L k).length:=by simp [tag]
  refine⟨m,q,u,v,by show (((L k).length:Nat):Int)<=left;omega,QkC _ _ j (fun p hp=>(j.2 p hp).1),QmI L ks k _ i (fun r hr=> ?_) ?_⟩
  ·obtain⟨_,z,h,g,t⟩:=ha r (VT _ hr);exact⟨o r hr,z,h,g,t⟩
  ·show _<=left - (((L k).length:Nat):Int);omega
theorem Qi5(h:QdC R F T n=true):okR (-1) 1000 (QiX (Lk R F T n))/\ Qi6 (QiX (Lk R F T n))=QeJ (Lk R F T n)/\ Qau (QiX (Lk R F T n))=flat R F T n:=by
 obtain⟨k,v⟩:=Qax.1 h;have j:∀r,Srt (Lk R F T n r):=fun r=>(QbT n k r).1;have m:QcK (Lk R F T n) 8=flat R F T n:=by
  refine uniq (Qdz j 8 zL).1 (Qcv n k) (fun r x=> ?_);rw [Qeb,(Qdz j 8 zL).2.1];constructor
  ·rintro⟨_,_,u⟩;exact u
  ·intro hi;have:=QdU n k r (fun e=>by rw [e] at hi;exact Qh8 hi);exact⟨oM,oM,hi⟩
 refine⟨QmI _ _ _ _ (Qja _ 8) (fun r hr=> ?_) ?_,(Qih _).symm,by rw [Qfb,m]⟩
 ·obtain⟨y,z,q⟩:=(Qd5 _ 8 r).1 hr;exact⟨oM,oM,oM,(fun e=>by rw [e] at q;cases q),j r⟩
 ·have:(QcK (Lk R F T n) 8).length=n:=by rw [m];simp [flat]
  unfold QcK at this;omega
noncomputable def Qa7 (f:Nat ->Int)(n:Nat)(rep:Int):Nat ->Int ->Nat ->Option (List Rn×Nat)
 | 0,_,x=>Uq ([],x)
 | k+1,last,x=>(rd f n x 1000000000).bind fun a=>(rd f n a.2 1000000000).bind fun b=>
   (Qa7 f n rep k (last+2+(a.1:Int)+(b.1:Int)) b.2).bind fun c=>Uq ((rep,last+2+(a.1:Int),last+2+(a.1:Int)+(b.1:Int))::c.1,c.2)
noncomputable def QaR (f:Nat ->Int)(n:Nat):Nat ->Nat ->Option (List Rn×Nat)
 | 0,x=>Uq ([],x)
 | k+1,x=>(rd f n x 8).bind fun a=>(rd f n a.2 1000).bind fun b=>(Qa7 f n (a.1:Int) b.1 (-1) b.2).bind fun c=>(QaR f n k c.2).bind fun d=>Uq (c.1++d.1,d.2)
noncomputable def Qeo (f:Nat ->Int)(n x:Nat):Option (List Rn×Nat):=(rd f n x 8).bind fun a=>QaR f n a.1 a.2
theorem Qfh {f:Nat ->Int}(hf:Byt f){n:Nat}(rep:Int):∀(l:List (Int×Int)) (last:Int) (x:Nat), -1<=last ->okS (last+2) l ->At f x (QbJ (last+2) l) ->x+(QbJ (last+2) l).length<=n ->
  Qa7 f n rep l.length last x=Uq (tag rep l,x+(QbJ (last+2) l).length)
 | [],last,x,_,_,_,_=>by simp [Qa7,tag,QbJ]
 | p::l,last,x,h0,⟨o1,o2,o3,o4⟩,ha,hn=>by
  have j:At f x (uvF 9 (p.1 - (last+2)).toNat++uvF 9 (p.2 - p.1).toNat++QbJ (p.2+2) l):=ha;have g:x+(uvF 9 (p.1 - (last+2)).toNat++uvF 9 (p.2 - p.1).toNat++QbJ (p.2+2) l).length<=n:=hn;rw [At.app,At.app] at j;simp only [Vg,<- Uy] at j g;obtain⟨⟨k,m⟩,q⟩:=j;have r:rd f n x 1000000000=Uq ((p.1 - (last+2)).toNat,x+(uvF 9 (p.1 - (last+2)).toNat).length):=(Qav hf).2 ⟨oM,oM,k,rfl,oM⟩;have u:rd f n (x+(uvF 9 (p.1 - (last+2)).toNat).length) 1000000000=Uq ((p.2 - p.1).toNat,x+(uvF 9 (p.1 - (last+2)).toNat).length+(uvF 9 (p.2 - p.1).toNat).length):=(Qav hf).2 ⟨oM,oM,m,rfl,oM⟩;have v:=Qfh hf (n:=n) rep l p.2 (x+(uvF 9 (p.1 - (last+2)).toNat).length+(uvF 9 (p.2 - p.1).toNat).length) oM o4 q oM;have y:last+2+(((p.1 - (last+2)).toNat:Nat):Int)=p.1:=oM;have z:p.1+(((p.2 - p.1).toNat:Nat):Int)=p.2:=oM;show Qa7 f n rep (l.length+1) last x=_;unfold Qa7;rw [r,YB];dsimp only;rw [u,YB];dsimp only;rw [y,z,v,YB];have h:x+(QbJ (last+2) (p::l)).length=x+(uvF 9 (p.1 - (last+2)).toNat).length+(uvF 9 (p.2 - p.1).toNat).length+(QbJ (p.2+2) l).length:=by
   show x+(uvF 9 (p.1 - (last+2)).toNat++uvF 9 (p.2 - p.1).toNat++QbJ (p.2+2) l).length=_;simp only [Vg];omega
  rw [h];simp [tag]
theorem Qg3 {f:Nat ->Int}(hf:Byt f){n:Nat}:∀(g:List (Int×List (Int×Int))) (before left:Int) (x:Nat),left<=1000 ->okR before left g ->At f x (Qdt g) ->x+(Qdt g).length<=n ->
  QaR f n g.length x=Uq (Qau g,x+(Qdt g).length)
 | [],_,_,x,_,_,_,_=>by simp [QaR,Qau,Qdt]
 | p::g,before,left,x,hl,⟨o1,o2,o3,o4,o5,o6,o7⟩,ha,hn=>by
  have j:At f x (uvF 9 p.1.toNat++uvF 9 p.2.length++QbJ 1 p.2++Qdt g):=ha;have o:x+(uvF 9 p.1.toNat++uvF 9 p.2.length++QbJ 1 p.2++Qdt g).length<=n:=hn;rw [At.app,At.app,At.app] at j;simp only [Vg,<- Uy] at j o;obtain⟨⟨⟨k,m⟩,q⟩,r⟩:=j;have u:rd f n x 8=Uq (p.1.toNat,x+(uvF 9 p.1.toNat).length):=(Qav hf).2 ⟨oM,oM,k,rfl,oM⟩;have v:rd f n (x+(uvF 9 p.1.toNat).length) 1000=Uq (p.2.length,x+(uvF 9 p.1.toNat).length+(uvF 9 p.2.length).length):=(Qav hf).2 ⟨oM,oM,m,rfl,oM⟩;have y:=Qfh hf (n:=n) p.1 p.2 (-1) (x+(uvF 9 p.1.toNat).length+(uvF 9 p.2.length).length) oM o6 q (by show _+(QbJ 1 p.2).length<=n;omega);have z:=Qg3 hf (n:=n) g p.1 (left - p.2.length) (x+(uvF 9 p.1.toNat).length+(uvF 9 p.2.length).length+(QbJ 1 p.2).length) oM o7 r oM;have t:((p.1.toNat:Nat):Int)=p.1:=oM;show QaR f n (g.length+1) x=_;unfold QaR;rw [u,YB];dsimp only;rw [v,YB];dsimp only;rw [t,y,YB];dsimp only;rw [show (-1:Int)+2=1 from rfl,z,YB];have h:x+(Qdt (p::g)).length=x+(uvF 9 p.1.toNat).length+(uvF 9 p.2.length).length+(QbJ 1 p.2).length+(Qdt g).length:=by
   show x+(uvF 9 p.1.toNat++uvF 9 p.2.length++QbJ 1 p.2++Qdt g).length=_;simp only [Vg];omega
  rw [h,Qfa]
theorem Ql2(hf:Byt f){x:Nat}(hx:x<=n){g:List (Int×List (Int×Int))}(h:Qhw f n x=Uq (g,x')):Qeo f n x=Uq (Qau g,x'):=by
 obtain⟨m,j,k,r⟩:=(Qcj hf hx).1 h;unfold Qi6 at j k;rw [At.app] at j;rw [Vg] at k;have u:=Qkk g (-1) 1000 m oM oM;have q:rd f n x 8=Uq (g.length,x+(uvF 9 g.length).length):=(Qav hf).2 ⟨oM,oM,j.1,rfl,oM⟩;unfold Qeo;rw [q,YB];dsimp only;rw [Qg3 hf g (-1) 1000 _ oM m j.2 oM,k,Uy]
variable {EX : Nat -> Option Value}
theorem QaM.toR {w:Ur}{D:DataW Value}{G:Int ->Value}(h:QaM w bm n D G L):QcM w bm n D G L:=⟨h.own,h.at',h.has',fun r=>QdR (h.rows r)⟩
theorem Qic:∀(g:List (Int×List (Int×Int))) (L0:Int ->List (Int×Int)) (r:Int),(g.map Prod.fst).Pairwise (fun x y=>x<y) ->g.foldl (fun L p=>upd L p.1 p.2) L0 r=if r∈g.map Prod.fst then lkG g r else L0 r
 | [],L0,r,_=>oP
 | p::g,L0,r,h=>by
  obtain⟨q,u⟩:=List.pairwise_cons.1 h;rw [YE,Qic g _ r u];by_cases e:r=p.1
  ·subst e;rw [if_neg (fun j=>by have:=q _ j;omega),Qap,if_pos oP];exact(if_pos rfl).symm
  ·have m:lkG (p::g) r=lkG g r:=if_neg (fun e3=>e e3.symm);rw [Qai _ _ e,m];by_cases j:r∈g.map Prod.fst
   ·rw [if_pos j];exact(if_pos (VT _ j)).symm
   ·rw [if_neg j];exact(if_neg (fun h3=>by rcases List.mem_cons.1 h3 with k|k;exact e k;exact j k)).symm
theorem QmD {g:List (Int×List (Int×Int))}{before:Int}(h:okR before left g):lkS g=lkG g:=by
 funext r;unfold lkS;rw [Qic g _ r (QdL g _ _ h).1];split
 ·rfl
 ·rename_i hm;have:=(Qer g _ _ h r).2.2;cases e:lkG g r with
  | nil=>rfl
  | cons q t=>exact absurd (this.2 (by rw [e];simp)) hm
theorem Qhn:∀(g:List (Int×List (Int×Int))) (before left:Int),okR before left g ->0<=left ->∀r,((lkG g r).length:Int)<=left
 | [],_,_,_,h0,r=>by simpa [lkG] using h0
 | p::g,before,left,⟨o1,o2,o3,o4,o5,o6,o7⟩,h0,r=>by
  have j:=Qhn g p.1 _ o7 oM r;by_cases e:p.1=r
  ·rw [show lkG (p::g) r=p.2 from if_pos e];exact o5
  ·rw [show lkG (p::g) r=lkG g r from if_neg e];omega
noncomputable def rdC (f:Nat ->Int)(n:Nat)(x:Int):Option (List (Int×List (Int×Int))×Nat):=(rdI f n x 8).bind (fun a=>QaF f n a.1 (-1) 1000 a.2)
theorem QfM (f:Nat ->Int)(n p:Nat):rdC f n (p:Int)=Qhw f n p:=by unfold rdC Qhw;rw [Qa5]
theorem QpE(hf:Byt f){x:Int}{g:List (Int×List (Int×Int))}(h:rdC f n x=Uq (g,x')):0<=x/\ x<=n/\ okR (-1) 1000 g:=by
 have j:0<=x:=by
  rcases Int.lt_or_le x 0 with j|j
  ·unfold rdC rdI at h;rw [if_neg oM] at h;cases h
  ·exact j
 obtain⟨p,rfl⟩:∃p:Nat,x=(p:Int):=⟨x.toNat,oM⟩;rw [QfM] at h;have m:p<=n:=by
  unfold Qhw at h;obtain⟨a,k,_⟩:=Option.bind_eq_some_iff.1 h;have:=(Qav hf).1 (show rd f n p 8=Uq (a.1,a.2) from k);omega
 exact⟨j,oM,((Qcj hf m).1 h).1⟩
theorem QqF (cb B:Nat)(a:Option Us)(n c:Nat)(x:Int)(f:Nat ->Int)(aT aS aL aE:Us)(w:Ur)(hn:n<=1048576)(hf:Byt f)(hcur:Cur EX w cb a n c x)(hs:Seg w a n f)(hab:∀y,a=Uq y ->y.block≠cb)(hE:QcL w B aT aS aL aE)(hBc:B<=cb):
  Cl 131 #[Uk (Uc cb)] w fun e w'=>w.grownBy w' (Uq cb)/\
   ((∃(g:List (Int×List (Int×Int))) (x' bm p:Nat) (D:DataW Value) (G:Int ->Value),rdC f n x=Uq (g,x')/\ e=Ui (Ul #[.map (Uq bm),.nilIface])/\ QcM w' bm p D G (lkS g)/\ Cur EX w' cb a n c (x':Int)/\ w.heap.size<=bm/\∀r g,(G r).ownBlock=Uq g ->w.heap.size<=g) \/
    (rdC f n x=Up/\∃(pb:Nat) (u:Value) (y:Int),e=Ui (Ul #[.map Up,.iface 214 (Uk (Uc pb))])/\ w.heap.size<=pb/\ Plc w' pb x u/\ Cur EX w' cb a n c y)):=by
 have E:=hcur.lt;have Y:=@run_makeMap prog;obtain⟨W,z⟩:=zE (w.alloc (.map #[] 0));have b:Bl w W:=z▸zO _ _;have A:Hid (QcM W w.heap.size 0 (.map []) (fun _=> Ue) (fun _=>[])):=z▸hid (Qf3 w).toR;have i:=hid (Qk3 cb B w.heap.size a n c x f aT aS aL aE w W _ _ hn hf (hcur.bw b E) hs hab hE hBc E zL (Qag (Qbo w (Uq cb)) b) A (fun r g hg=>by cases hg));obtain⟨H,I,J,_⟩:=hcur;clear hs hE A b;go_enter func131,ntmps131;go_wp2_with fail;try rw [z]
 clear z Y;refine i.mono ?_;rintro e w1 ⟨k,⟨g,Q,p,D,G,m,rfl,O,j,M⟩|⟨m,t,v,y,rfl,j⟩⟩
 ·have o:=hid (show rdC f n x=Uq (g,Q) from m);have h:=hid k;have q:=hid j;have V:=hid O;have U:=hid M;clear k m j O i M;go_wp2_with fail;go_ret2;exact⟨h,.inl ⟨g,Q,_,p,D,G,o,rfl,V,q,Uu _,U⟩⟩
 ·have o:=hid (show rdC f n x=Up from m);have Z:=k.size;have h:=hid k;have q:=hid j;clear k m j i;go_wp2_with fail;go_ret2;have s:Bl w1 (w1.alloc (Uj #[Um {data:=#[99,111,110,116,101,120,116]},Ud x,.iface t v] 216)):=zO _ _;exact⟨Qag h s,.inr ⟨o,w1.heap.size,.iface t v,_,rfl,Z,⟨oP,oP,oP⟩,q.bw s q.lt⟩⟩
theorem Qj6(h:k<l.length):l.take (k+1)=l.take k++[gL l k]:=by
 rw [VP];simp [gL,UR,h]
theorem QeV (l:List Lf)(p:List ByteArray)(y:Ky):∀k,k<=l.length ->dsK l p y k=(l.take k).filter fun z=>yes (nx p z=Uq y)
 | 0,_=>by simp [dsK]
 | k+1,h=>by
  rw [Qj6 oM,YF,<- QeV l p y k oM];by_cases e:nx p (gL l k)=Uq y
  ·rw [Qb7 e];simp [Qal e]
  ·rw [QbV e];simp [Qaj e]
noncomputable def kF (p:List ByteArray):List Ky ->List Lf ->List Ky
 | acc,[]=>acc
 | acc,z::l=>kF p (match nx p z with|none=>acc|some y=>if yes (acc.getLast? =Uq y)=true then acc else acc++[y]) l
theorem Qg0 (p:List ByteArray):∀(l m:List Lf) (acc:List Ky),kF p acc (l++m)=kF p (kF p acc l) m
 | [],_,_=>rfl
 | z::l,m,acc=>by rw [VJ];simp only [kF];exact Qg0 p l m _
theorem Qpw (l:List Lf)(p:List ByteArray):∀k,k<=l.length ->kS l p k=kF p [] (l.take k)
 | 0,_=>by simp [kS,kF]
 | k+1,h=>by
  rw [Qj6 oM,Qg0,<- Qpw l p k oM];cases e:nx p (gL l k) with
  | none=>rw [QcD e];simp only [kF,e]
  | some y=>rw [QcE e];simp only [kF,e]
theorem Qhh {p:List ByteArray}:∀{l:List Lf} {acc:List Ky},(∀z∈l,nx p z=Up) ->kF p acc l=acc
 | [],_,_=>rfl
 | z::l,acc,h=>by
  unfold kF;rw [h z Vt];exact Qhh (fun x hx=>h x (VT _ hx))
theorem QjM {p:List ByteArray}{y:Ky}:∀{l:List Lf} {acc:List Ky},acc.getLast? =Uq y ->(∀z∈l,nx p z=Uq y) ->kF p acc l=acc
 | [],_,_,_=>rfl
 | z::l,acc,ha,h=>by
  unfold kF;rw [h z Vt];simp only [Qal ha,if_true];exact QjM ha (fun x hx=>h x (VT _ hx))
theorem Qpv{acc:List Ky}(hl:l≠[])(ha:acc.getLast? ≠Uq y)(h:∀z∈l,nx p z=Uq y):kF p acc l=acc++[y]:=by
 cases l with
 | nil=>exact absurd rfl hl
 | cons z l=>
  unfold kF;rw [h z Vt];simp only [Qaj ha];exact QjM oP (fun x hx=>h x (VT _ hx))
abbrev Gr3:=Ky×List Lf×List Int
theorem Qg1 {p:List ByteArray}:∀{G:List Gr3} {acc:List Ky},(G.map Prod.fst).Pairwise (fun x y=>Qb9 x y<0) ->(∀g∈G,g.2.1≠[]/\∀z∈g.2.1,nx p z=Uq g.1) ->(∀y,acc.getLast? =Uq y ->∀g∈G,Qb9 y g.1<0) ->kF p acc (G.flatMap fun g=>g.2.1)=acc++G.map Prod.fst
 | [],acc,_,_,_=>by simp [kF]
 | g::G,acc,h1,h2,h3=>by
  rw [Vz,Qg0];rw [Vm,YG] at h1;obtain⟨k,m⟩:=h1;have j:=h2 g Vt;rw [Qpv j.1 (fun e=>by have:=h3 _ e g Vt;rw [QaH.key.irr] at this;omega) j.2];rw [Qg1 m (fun x hx=>h2 x (VT _ hx)) (fun y hy x hx=>by
   simp at hy;subst hy;exact k x.1 (List.mem_map.2 ⟨x,hx,rfl⟩))]
  simp
def EnT:Nat ->List ByteArray ->List Lf ->List Int ->Prop
 | 0,_,_,_=>False
 | d+1,p,B,U=>∃G:List Gr3,B=G.flatMap (fun g=>g.2.1)/\ U=uvF 9 G.length++G.flatMap (fun g=>Qae g.1.1++([g.1.2]++g.2.2))/\ (G.map Prod.fst).Pairwise (fun x y=>Qb9 x y<0)/\∀g∈G,(g.2.1≠[]/\∀z∈g.2.1,nx p z=Uq g.1)/\ (if g.1.2=3 then EnT d (p++[g.1.1]) g.2.1 g.2.2 else g.2.2=mB g.2.1 g.1.2)
theorem Qm8 {x:Ky}(h:Qb9 x y<0):x≠y:=fun e=>by rw [e,QaH.key.irr] at h;omega
theorem QcT(h:∀z∈l,nx p z≠Uq y):(l.filter fun z=>yes (nx p z=Uq y))=[]:=by
 rw [List.filter_eq_nil_iff];intro z j;rw [Qaj (h z j)];simp
theorem Qlk(h:∀z∈l,nx p z=Uq y):(l.filter fun z=>yes (nx p z=Uq y))=l:=by
 rw [List.filter_eq_self];intro z j;exact Qal (h z j)
theorem QdH {G:List Gr3}{z:Lf}(h:z∈G.flatMap fun g=>g.2.1):∃g∈G,z∈g.2.1:=by simpa using h
theorem Qmh:∀(d:Nat) (p:List ByteArray) (B:List Lf) (U:List Int) (A C:List Lf),EnT d p B U ->(∀z∈A,nx p z=Up) ->(∀z∈C,nx p z=Up) ->U=tB (A++(B++C)) d p
 | 0,_,_,_,_,_,h,_,_=>h.elim
 | d+1,p,B,U,A,C,⟨G,hB,hU,hk,hG⟩,hA,hC=>by
  obtain⟨l,v⟩:=zE (A++(B++C));rw [v,QfV];have M:kS l p l.length=G.map Prod.fst:=by
   rw [Qpw l p _ zL,VQ,<- v,Qg0,Qhh hA,Qg0,hB,Qg1 hk (fun g hg=>(hG g hg).1) (fun y hy=>by simp at hy),Qhh hC];simp
  rw [M,YC,Vx,hU];congr 1;refine QbC (fun g hg=> ?_);obtain⟨t,o,Q⟩:=List.append_of_mem hg;subst Q;have i:=hk;rw [Vl,Vm,List.pairwise_append,YG] at i;obtain⟨_,⟨V,_⟩,Y⟩:=i;have s:∀z∈t.flatMap (fun g=>g.2.1),nx p z≠Uq g.1:=fun z hz e=>by
   obtain⟨j,k,r⟩:=QdH hz;have:=(hG j (by simp [k])).1.2 z r;rw [this] at e;exact Qm8 (Y j.1 (List.mem_map.2 ⟨j,k,rfl⟩) g.1 Vt) (Option.some.inj e)
  have E:∀z∈o.flatMap (fun g=>g.2.1),nx p z≠Uq g.1:=fun z hz e=>by
   obtain⟨j,k,r⟩:=QdH hz;have:=(hG j (by simp [k])).1.2 z r;rw [this] at e;exact Qm8 (V j.1 (List.mem_map.2 ⟨j,k,rfl⟩)) (Option.some.inj e).symm
  have b:l=(A++t.flatMap fun g=>g.2.1)++(g.2.1++((o.flatMap fun g=>g.2.1)++C)):=by
   rw [<- v,hB,Vw,Vz];simp
  unfold kB;congr 2;have q:=(hG g hg).2;by_cases u:g.1.2=3
  ·rw [if_pos u] at q ⊢;have O:g.1=(g.1.1,3):=(by rw [<- u]);have m:∀z,nx p z≠Uq g.1 ->nx (p++[g.1.1]) z=Up:=fun z hz=>by
    cases e:nx (p++[g.1.1]) z with
    | none=>rfl
    | some y=>exact absurd (by rw [O];exact Qdc.2 (by rw [e];simp)) hz
   rw [b];refine Qmh d (p++[g.1.1]) g.2.1 g.2.2 _ _ q (fun z hz=>m z ?_) (fun z hz=>m z ?_)
   ·rcases List.mem_append.1 hz with h|h
    ·rw [hA z h];simp
    ·exact s z h
   ·rcases List.mem_append.1 hz with h|h
    ·exact E z h
    ·rw [hC z h];simp
  ·rw [if_neg u] at q ⊢;rw [q,QeV l p g.1 _ zL,VQ,b,YF,YF,YF,YF];rw [QcT (l:=A) (fun z hz=>by rw [hA z hz];simp),QcT s,QcT E,QcT (l:=C) (fun z hz=>by rw [hC z hz];simp),Qlk (hG g hg).1.2];simp
structure LGd (K:Int ->Int ->Bool)(kind:Int)(p:List ByteArray)(z:Lf):Prop where
 p:z.p=p
 fl:z.fl=decide (kind=2)
 k:K z.r z.q=true
 v:z.v.size<=200
 e:kind=2 ->z.v=ByteArray.empty
def KOk (K:Int ->Int ->Bool):Prop:=∀r q,K r q=true ->0<=r/\ r<=7/\ 1<=q/\ q<=1000000000
section
variable {f : Nat -> Int} {n : Nat} {K : Int -> Int -> Bool}
theorem Qin (hf:Byt f)(hK:KOk K){kind:Int}(hk:kind=1 \/kind=2){p:List ByteArray}{before:Dt}{acc:List Lf}{x:Nat}{z:Lf}{x':Nat}:
  Qe3 f n K kind p before acc x=Uq (z,x')↔LGd K kind p z/\ Qbg before (z.r,z.q)<0/\ (∀y∈acc,¬(y.r=z.r/\ y.q=z.q))/\ acc.length≠1000/\ At f x (lfB kind z)/\ x'=x+(lfB kind z).length/\ x'<=n:=by
 unfold Qe3 lfB;constructor
 ·intro h;obtain⟨⟨r,x1⟩,o,h⟩:=Qab.1 h;obtain⟨⟨q,x2⟩,j,h⟩:=Qab.1 h;simp only at h j;obtain⟨r1,r2,V,s,r5⟩:=(Qav hf).1 o;obtain⟨T,W,U,N,X⟩:=(Qav hf).1 j;split at h
  ·rename_i hy;obtain⟨m,Y,u,g⟩:=QcJ.1 hy;rcases hk with rfl|rfl
   ·rw [if_neg oD] at h;obtain⟨⟨t,x3⟩,b,h⟩:=Qab.1 h;simp only [Option.some.injEq,Prod.mk.injEq] at h;obtain⟨rfl,rfl⟩:=h;obtain⟨t1,B,t3,C⟩:=(Qde hf oD).1 b;refine⟨⟨rfl,oP,Y,by simp only;omega,fun h=>oM⟩,m,u,g,?_,?_,C⟩
    ·simp only [Yw,if_true];rw [At.app,At.app];exact⟨V,s▸U,by rw [<- s,<- N];exact B⟩
    ·simp only [Yw,if_true,Vg];omega
   ·rw [if_pos rfl] at h;simp only [Option.some.injEq,Prod.mk.injEq] at h;obtain⟨rfl,rfl⟩:=h;refine⟨⟨rfl,oP,Y,oP,fun _=>rfl⟩,m,u,g,?_,?_,X⟩
    ·simp only [Yw];rw [At.app,At.app];exact⟨V,s▸U,by rw [if_neg oD];intro i hi;simp at hi⟩
    ·simp only [Yw,Vg];rw [if_neg oD];simp;omega
  ·cases h
 ·rintro⟨⟨E,M,O,D,J⟩,m,u,g,Q,k,L⟩;obtain⟨F,P,R,S⟩:=hK _ _ O;rw [At.app,At.app] at Q;rw [Vg,Vg] at k;obtain⟨Z,G,A⟩:=Q;have H:((z.r.toNat:Nat):Int)=z.r:=oM;have I:((z.q.toNat:Nat):Int)=z.q:=oM;have o:rd f n x 7=Uq (z.r.toNat,x+(uvF 9 z.r.toNat).length):=(Qav hf).2 ⟨oM,oM,Z,rfl,oM⟩;have j:rd f n (x+(uvF 9 z.r.toNat).length) 1000000000=Uq (z.q.toNat,x+(uvF 9 z.r.toNat).length+(uvF 9 z.q.toNat).length):=(Qav hf).2 ⟨oM,oM,G,rfl,oM⟩;rw [o];simp only [YB];rw [j];simp only [YB,H,I];rw [if_pos (Qal ⟨m,O,u,g⟩)];rcases hk with rfl|rfl
  ·rw [if_neg oD];rw [if_pos rfl] at A k;have b:Qc4 f n (x+(uvF 9 z.r.toNat).length+(uvF 9 z.q.toNat).length) 200=Uq (z.v,x'):=(Qde hf oD).2 ⟨oM,A,oM,L⟩;rw [b];simp only [YB,Option.some.injEq,Prod.mk.injEq,and_true];rw [<- E];have:z.fl=false:=(by rw [M];decide);rw [<- this]
  ·rw [if_pos rfl];rw [if_neg oD] at k;simp only [Option.some.injEq,Prod.mk.injEq];refine⟨?_,by simp at k;omega⟩;rw [<- E,<- J rfl];have:z.fl=true:=(by rw [M];decide);rw [<- this]
def OkB (K:Int ->Int ->Bool)(kind:Int)(p:List ByteArray):Dt ->List Lf ->List Lf ->Prop
 | _,_,[]=>True
 | before,acc,z::B=>LGd K kind p z/\ Qbg before (z.r,z.q)<0/\ (∀y∈acc,¬(y.r=z.r/\ y.q=z.q))/\ acc.length≠1000/\ OkB K kind p (z.r,z.q) (acc++[z]) B
theorem QdQ (hf:Byt f)(hK:KOk K){kind:Int}(hk:kind=1 \/kind=2){p:List ByteArray}:∀(k:Nat) {before:Dt} {acc acc':List Lf} {x x':Nat},
  Qhx f n K kind p k before acc x=Uq (acc',x')/\ x<=n↔∃B,acc'=acc++B/\ B.length=k/\ OkB K kind p before acc B/\ At f x (B.flatMap (lfB kind))/\ x'=x+(B.flatMap (lfB kind)).length/\ x'<=n
 | 0,before,acc,acc',x,x'=>by
  unfold Qhx;constructor
  ·rintro⟨h,u⟩;simp only [Option.some.injEq,Prod.mk.injEq] at h;obtain⟨rfl,rfl⟩:=h;exact⟨[],oP,rfl,trivial,fun i hi=>by simp at hi,oP,u⟩
  ·rintro⟨B,rfl,j,_,_,rfl,m⟩;obtain rfl:=List.length_eq_zero_iff.1 j;simp at m ⊢;exact m
 | k+1,before,acc,acc',x,x'=>by
  unfold Qhx;constructor
  ·rintro⟨h,u⟩;obtain⟨⟨z,H⟩,y,h⟩:=Qab.1 h;obtain⟨g,t,o,b,s,A,G⟩:=(Qin hf hK hk).1 y;obtain⟨B,E,M,O,Q,U,V⟩:=(QdQ hf hK hk k).1 ⟨h,G⟩;refine⟨z::B,by rw [E];simp,by simp [M],⟨g,t,o,b,O⟩,?_,?_,V⟩
   ·rw [Vz,At.app];exact⟨s,A▸Q⟩
   ·rw [Vz,Vg,U,A];omega
  ·rintro⟨B,rfl,j,Y,v,u,m⟩;cases B with
   | nil=>simp at j
   | cons z B=>
    obtain⟨g,t,o,b,s⟩:=Y;rw [Vz,At.app] at v;rw [Vz,Vg] at u;have y:Qe3 f n K kind p before acc x=Uq (z,x+(lfB kind z).length):=(Qin hf hK hk).2 ⟨g,t,o,b,v.1,rfl,oM⟩;have Z:=(QdQ hf hK hk k (before:=(z.r,z.q)) (acc:=acc++[z]) (acc':=acc++z::B) (x:=x+(lfB kind z).length) (x':=x')).2 ⟨B,oP,oW j,s,v.2,oM,m⟩;refine⟨?_,oM⟩;rw [y];exact Z.1
theorem Qim (hf:Byt f){before y:Ky}{x x':Nat}:
  Qgd f n before x=Uq (y,x')↔y.1.size≠0/\ y.1.size<=40/\ Qb9 before y<0/\ At f x (Qae y.1++[y.2])/\ x'=x+(Qae y.1++[y.2]).length/\ x'<=n:=by
 unfold Qgd;constructor
 ·intro h;obtain⟨⟨t,O⟩,k,h⟩:=Qab.1 h;obtain⟨E,z,g,M⟩:=(Qde hf oD).1 k;split at h
  ·rename_i hy;obtain⟨o,b,p⟩:=QcJ.1 hy;simp only [Option.some.injEq,Prod.mk.injEq] at h;obtain⟨rfl,rfl⟩:=h;refine⟨o,by simp only;omega,p,?_,oS,by simp only at b;omega⟩;rw [At.app];refine⟨z,fun i hi=> ?_⟩;have:i=0:=oW hi;subst this;simp [g]
  ·cases h
 ·rintro⟨q,s,r,j,m,A⟩;rw [At.app] at j;rw [Vg] at m;have u:x'=x+(Qae y.1).length+1:=by simpa [Uy] using m
  have k:Qc4 f n x 40=Uq (y.1,x+(Qae y.1).length):=(Qde hf oD).2 ⟨oM,j.1,rfl,oM⟩;have v:f (x+(Qae y.1).length)=y.2:=by
   have:=j.2 0 oP;simpa using this
  rw [k];simp only [YB];rw [v,if_pos (Qal ⟨q,oM,r⟩),u]
def RD (K:Int ->Int ->Bool)(R:List ByteArray ->List Lf ->List Lf ->List Int ->Prop)(p:List ByteArray)(y:Ky)(acc B:List Lf)(U:List Int):Prop:=
 if y.2=3 then R (p++[y.1]) acc B U else(y.2=1 \/y.2=2)/\ B≠[]/\ B.length<=1000/\ OkB K y.2 (p++[y.1]) (0,0) acc B/\ U=mB B y.2
def RK (K:Int ->Int ->Bool)(R:List ByteArray ->List Lf ->List Lf ->List Int ->Prop)(p:List ByteArray):Ky ->List Lf ->List Gr3 ->Prop
 | _,_,[]=>True
 | before,acc,g::G=>(g.1.1.size≠0/\ g.1.1.size<=40/\ Qb9 before g.1<0)/\ RD K R p g.1 acc g.2.1 g.2.2/\ RK K R p g.1 (acc++g.2.1) G
def gB (g:Gr3):List Int:=Qae g.1.1++([g.1.2]++g.2.2)
def RT (K:Int ->Int ->Bool):Nat ->List ByteArray ->List Lf ->List Lf ->List Int ->Prop
 | 0,_,_,_,_=>False
 | d+1,p,acc,B,U=>∃G:List Gr3,B=G.flatMap (fun g=>g.2.1)/\ U=uvF 9 G.length++G.flatMap gB/\ G.length<=1000/\ (G=[] ->p.length=0)/\ (G≠[] ->p.length<8)/\ RK K (RT K d) p (ByteArray.empty,0) acc G
def Rds (f:Nat ->Int)(n:Nat)(r:List ByteArray ->List Lf ->Nat ->Option (List Lf×Nat))(R:List ByteArray ->List Lf ->List Lf ->List Int ->Prop):Prop:=
 ∀p acc x acc' x',r p acc x=Uq (acc',x')/\ x<=n↔∃B U,acc'=acc++B/\ R p acc B U/\ At f x U/\ x'=x+U.length/\ x'<=n
theorem Qil (hf:Byt f)(hK:KOk K){r:List ByteArray ->List Lf ->Nat ->Option (List Lf×Nat)}{R:List ByteArray ->List Lf ->List Lf ->List Int ->Prop}(hR:Rds f n r R)(p:List ByteArray)(y:Ky)(acc:List Lf)(x:Nat)(acc':List Lf)(x':Nat):
  Qik f n K r p y acc x=Uq (acc',x')/\ x<=n↔∃B U,acc'=acc++B/\ RD K R p y acc B U/\ At f x U/\ x'=x+U.length/\ x'<=n:=by
 unfold Qik RD;by_cases z:y.2=3
 ·simp only [if_pos z];exact hR (p++[y.1]) acc x acc' x'
 ·simp only [if_neg z];by_cases j:y.2=1 \/y.2=2
  ·rw [if_pos j];constructor
   ·rintro⟨h,u⟩;obtain⟨⟨c,G⟩,q,h⟩:=Qab.1 h;simp only at h;split at h
    ·cases h
    ·rename_i h0;obtain⟨V,Y,s,v,A⟩:=(Qav hf).1 q;obtain⟨B,g,m,t,o,i,b⟩:=(QdQ hf hK j c).1 ⟨h,A⟩;refine⟨B,mB B y.2,g,⟨j,fun e=>h0 (by rw [<- m,e];rfl),oM,t,rfl⟩,?_,?_,b⟩
     ·unfold mB;rw [At.app,m];exact⟨s,v▸o⟩
     ·unfold mB;rw [Vg,m,i,v];omega
   ·rintro⟨B,U,rfl,⟨_,E,Z,M,rfl⟩,k,u,O⟩;unfold mB at k u;rw [At.app] at k;rw [Vg] at u;have q:rd f n x 1000=Uq (B.length,x+(uvF 9 B.length).length):=(Qav hf).2 ⟨oM,oM,k.1,rfl,oM⟩;have Q:=(QdQ hf hK j B.length (before:=(0,0)) (acc:=acc) (acc':=acc++B) (x:=x+(uvF 9 B.length).length) (x':=x')).2 ⟨B,rfl,rfl,M,k.2,oM,O⟩;refine⟨?_,oM⟩;rw [q];simp only [YB];rw [if_neg (fun e=>E (List.length_eq_zero_iff.1 e))];exact Q.1
  ·rw [if_neg j];constructor
   ·rintro⟨h,_⟩;cases h
   ·rintro⟨B,U,_,⟨h,_⟩,_⟩;exact absurd h j
theorem QdP (hf:Byt f)(hK:KOk K){r:List ByteArray ->List Lf ->Nat ->Option (List Lf×Nat)}{R:List ByteArray ->List Lf ->List Lf ->List Int ->Prop}(hR:Rds f n r R)(p:List ByteArray):∀(k:Nat) (before:Ky) (acc:List Lf) (x:Nat) (acc':List Lf) (x':Nat),
  Qkx f n K r p k before acc x=Uq (acc',x')/\ x<=n↔∃G:List Gr3,acc'=acc++G.flatMap (fun g=>g.2.1)/\ G.length=k/\ RK K R p before acc G/\ At f x (G.flatMap gB)/\ x'=x+(G.flatMap gB).length/\ x'<=n
 | 0,before,acc,x,acc',x'=>by
  unfold Qkx;constructor
  ·rintro⟨h,u⟩;simp only [Option.some.injEq,Prod.mk.injEq] at h;obtain⟨rfl,rfl⟩:=h;exact⟨[],oP,rfl,trivial,fun i hi=>by simp at hi,oP,u⟩
  ·rintro⟨G,rfl,m,_,_,rfl,q⟩;obtain rfl:=List.length_eq_zero_iff.1 m;simp at q ⊢;exact q
 | k+1,before,acc,x,acc',x'=>by
  unfold Qkx;constructor
  ·rintro⟨h,u⟩;obtain⟨⟨y,x1⟩,z,h⟩:=Qab.1 h;obtain⟨⟨Y,O⟩,v,h⟩:=Qab.1 h;obtain⟨t,o,b,y4,s,y6⟩:=(Qim hf).1 z;obtain⟨B,U,Z,H,I,E,J⟩:=(Qil hf hK hR p y acc x1 Y O).1 ⟨v,y6⟩;subst Z;obtain⟨G,L,N,X,C,D,F⟩:=(QdP hf hK hR p k y (acc++B) O acc' x').1 ⟨h,J⟩;refine⟨(y,B,U)::G,by rw [L];simp,by simp [N],⟨⟨t,o,b⟩,H,X⟩,?_,?_,F⟩
   ·rw [Vz,At.app];have j:gB (y,B,U)=(Qae y.1++[y.2])++U:=(by simp [gB]);rw [j,At.app];refine⟨⟨y4,s▸I⟩,?_⟩;rw [Vg,<- Uy,<- s,<- E];exact C
   ·rw [Vz,Vg];have j:gB (y,B,U)=(Qae y.1++[y.2])++U:=(by simp [gB]);rw [j,Vg,D,E,s];omega
  ·rintro⟨G,rfl,m,S,M,u,q⟩;cases G with
   | nil=>simp at m
   | cons g G=>
    obtain⟨y,B,U⟩:=g;obtain⟨⟨t,o,b⟩,P,T⟩:=S;have j:gB (y,B,U)=(Qae y.1++[y.2])++U:=(by simp [gB]);rw [Vz,At.app,j,At.app] at M;rw [Vz,Vg,j,Vg] at u;obtain⟨⟨Q,V⟩,A⟩:=M;rw [Vg,<- Uy] at A;have z:Qgd f n before x=Uq (y,x+(Qae y.1++[y.2]).length):=(Qim hf).2 ⟨t,o,b,Q,rfl,oM⟩;have v:=(Qil hf hK hR p y acc (x+(Qae y.1++[y.2]).length) (acc++B) (x+(Qae y.1++[y.2]).length+U.length)).2 ⟨B,U,rfl,P,V,rfl,oM⟩;have W:=(QdP hf hK hR p k y (acc++B) (x+(Qae y.1++[y.2]).length+U.length) (acc++((y,B,U)::G).flatMap fun g=>g.2.1) x').2 ⟨G,oP,oW m,T,A,oM,q⟩;refine⟨?_,oM⟩;rw [z];simp only [YB];rw [v.1];exact W.1
theorem Qiq (hf:Byt f)(hK:KOk K):∀d,Rds f n (Qc1 f n K d) (RT K d)
 | 0=>fun p acc x acc' x'=>by
  constructor
  ·rintro⟨h,_⟩;cases h
  ·rintro⟨B,U,_,h,_⟩;exact h.elim
 | d+1=>fun p acc x acc' x'=>by
  have t:=Qiq hf hK d;unfold Qc1;constructor
  ·rintro⟨h,u⟩;obtain⟨⟨c,O⟩,r,h⟩:=Qab.1 h;simp only at h;obtain⟨Q,V,v,k,y⟩:=(Qav hf).1 r;split at h
   ·rename_i j;subst j;split at h
    ·rename_i hp;simp only [Option.some.injEq,Prod.mk.injEq] at h;obtain⟨rfl,rfl⟩:=h;exact⟨[],uvF 9 0,oP,⟨[],rfl,oP,oP,fun _=>hp,fun h=>absurd rfl h,trivial⟩,v,k,y⟩
    ·cases h
   ·rename_i j;split at h
    ·cases h
    ·rename_i z;obtain⟨G,o,m,i,b,s,A⟩:=(QdP hf hK t p c _ acc O acc' x').1 ⟨h,y⟩;refine⟨_,uvF 9 G.length++G.flatMap gB,o,⟨G,rfl,rfl,oM,fun e=>absurd (by rw [<- m,e];rfl) j,fun _=>oM,i⟩,?_,?_,A⟩
     ·rw [At.app,m];exact⟨v,k▸b⟩
     ·rw [Vg,m,s,k];omega
  ·rintro⟨B,U,rfl,⟨G,rfl,rfl,Y,j,z,E⟩,q,u,M⟩;rw [At.app] at q;rw [Vg] at u;have r:rd f n x 1000=Uq (G.length,x+(uvF 9 G.length).length):=(Qav hf).2 ⟨oM,oM,q.1,rfl,oM⟩;refine⟨?_,oM⟩;rw [r];simp only [YB];by_cases e:G=[]
   ·subst e;rw [if_pos (by rfl),if_pos (j rfl)];simp at u ⊢;omega
   ·rw [if_neg (fun e'=>e (List.length_eq_zero_iff.1 e')),if_neg (oH (z e))];exact((QdP hf hK t p G.length _ acc (x+(uvF 9 G.length).length) (acc++G.flatMap fun g=>g.2.1) x').2 ⟨G,rfl,rfl,E,q.2,oM,M⟩).1
end
def Qmk (p:List ByteArray):Prop:=∀s∈p,1<=s.size/\ s.size<=40
theorem Qmk.snoc(h:Qmk p)(h0:s.size≠0)(h1:s.size<=40):Qmk (p++[s]):=fun t ht=>by
 rcases List.mem_append.1 ht with j|j
 ·exact h t j
 ·simp at j;subst j;omega
theorem Qmk.pth(h:Qmk p)(h1:1<=p.length)(h8:p.length<=8):Qb6 p:=⟨h1,h8,fun i hi=>h _ (by simp [gS,UR,hi])⟩
abbrev lfT (x:Lf):List ByteArray×(Int×Dt):=(x.p,(kd x.fl,(x.r,x.q)))
theorem Qmt:QaH (fun x y:List ByteArray×(Int×Dt)=>orI (QaN x.1 y.1) ((fun x y:Int×Dt=>orI (QaV x.1 y.1) (Qbg x.2 y.2)) x.2 y.2)):=QaH.path.pair (QaH.int.pair QaH.dot)
theorem Qi4 (a b:Lf):QaQ a b<0 \/lfT a=lfT b \/QaQ b a<0:=by
 rcases Int.lt_trichotomy (QaQ a b) 0 with h|h|h
 ·exact .inl h
 ·exact .inr (.inl ((Qmt.z (lfT a) (lfT b)).1 h))
 ·exact .inr (.inr ((Qmt.neg (lfT b) (lfT a)).2 h))
theorem Qrk(h:lfT a=lfT b):nx p a=nx p b:=by
 have j:a.p=b.p:=congrArg Prod.fst h;have k:kd a.fl=kd b.fl:=congrArg (fun t=>t.2.1) h;unfold nx;rw [j,k]
theorem QqB{z:Ky}(ha:nx p a=Uq y)(hb:nx p b=Uq z)(h:Qb9 y z<0):QaQ a b<0:=by
 rcases Qi4 a b with j|j|j
 ·exact j
 ·rw [Qrk j,hb] at ha;obtain rfl:=Option.some.inj ha;rw [QaH.key.irr] at h;omega
 ·have:=QbQ j hb ha;have:=(QaH.key.neg y z).1 h;omega
theorem QnW{z:Lf}(h:z.p=p++[s]):nx p z=Uq (s,kd z.fl):=by
 rw [Qbh,h];refine⟨⟨YH _ _,oP⟩,?_⟩;unfold Qas;rw [if_neg oP];simp [gS,UR]
theorem QgD(h1:a.p=b.p)(h2:a.fl=b.fl):QaQ a b=Qbg (a.r,a.q) (b.r,b.q):=by
 unfold QaQ;rw [h1,h2];have j:QaN b.p b.p=0:=(QaH.path.z _ _).2 rfl;have k:QaV (kd b.fl) (kd b.fl)=0:=(QaH.int.z _ _).2 rfl;rw [j,k];simp [orI];rfl
theorem Qjx(h:Qbg (a.r,a.q) (b.r,b.q)<0):Dif a b:=fun e=>by
 rw [e.1,e.2,QaH.dot.irr] at h;omega
section
variable {K : Int -> Int -> Bool}
theorem Qgj {kind:Int}{p:List ByteArray}:∀{B:List Lf} {before:Dt} {acc:List Lf},OkB K kind p before acc B ->acc.length<=1000 ->
  (∀z∈B,LGd K kind p z/\ Qbg before (z.r,z.q)<0)/\ B.Pairwise (fun x y=>Qbg (x.r,x.q) (y.r,y.q)<0)/\ (∀y∈acc,∀z∈B,Dif y z)/\ (acc++B).length<=1000
 | [],_,acc,_,h=>⟨fun z hz=>by simp at hz,List.Pairwise.nil,fun y _ z hz=>by simp at hz,oW h⟩
 | z::B,before,acc,⟨h1,h2,h3,h4,h5⟩,h=>by
  obtain⟨k,m,u,v⟩:=Qgj h5 oS;refine⟨fun x j=> ?_,List.pairwise_cons.2 ⟨fun x j=>(k x j).2,m⟩,fun y hy x j=> ?_,oW v⟩
  ·rcases List.mem_cons.1 j with rfl|j
   ·exact⟨h1,h2⟩
   ·exact⟨(k x j).1,QaH.dot.tr _ _ _ h2 (k x j).2⟩
  ·rcases List.mem_cons.1 j with rfl|j
   ·exact h3 y hy
   ·exact u y (by simp [hy]) x j
theorem Qml {kind:Int}{p:List ByteArray}:∀{B:List Lf} {before:Dt} {acc:List Lf},(∀z∈B,LGd K kind p z/\ Qbg before (z.r,z.q)<0) ->B.Pairwise (fun x y=>Qbg (x.r,x.q) (y.r,y.q)<0) ->(∀y∈acc,∀z∈B,Dif y z) ->(acc++B).length<=1000 ->OkB K kind p before acc B
 | [],_,_,_,_,_,_=>trivial
 | z::B,before,acc,h1,h2,h3,h4=>by
  obtain⟨k,m⟩:=List.pairwise_cons.1 h2;refine⟨(h1 z Vt).1,(h1 z Vt).2,fun y j=>h3 y j z Vt,by simp at h4;omega,?_⟩;refine Qml (fun x hx=>⟨(h1 x (VT _ hx)).1,k x hx⟩) m (fun y j x hx=> ?_) (oW h4);rcases List.mem_append.1 j with j|j
  ·exact h3 y j x (VT _ hx)
  ·simp at j;subst j;exact Qjx (k x hx)
structure VB (K:Int ->Int ->Bool)(B:List Lf):Prop where
 ok:∀z∈B,Qc0 z/\ K z.r z.q=true
 ord:B.Pairwise (fun x y=>QaQ x y<0)
 dif:B.Pairwise Dif
theorem VB.app {A B:List Lf}(h:VB K A)(k:VB K B)(h1:∀a∈A,∀b∈B,QaQ a b<0)(h2:∀a∈A,∀b∈B,Dif a b):VB K (A++B):=
 ⟨fun z hz=>(List.mem_append.1 hz).elim (h.ok z) (k.ok z),List.pairwise_append.2 ⟨h.ord,k.ord,h1⟩,List.pairwise_append.2 ⟨h.dif,k.dif,h2⟩⟩
theorem VB.parts {A B:List Lf}(h:VB K (A++B)):VB K A/\ VB K B/\ (∀a∈A,∀b∈B,Dif a b):=by
 obtain⟨q,r,_⟩:=List.pairwise_append.1 h.ord;obtain⟨j,k,m⟩:=List.pairwise_append.1 h.dif;exact⟨⟨fun z hz=>h.ok z (by simp [hz]),q,j⟩,⟨fun z hz=>h.ok z (by simp [hz]),r,k⟩,m⟩
theorem QdZ {v:ByteArray}:emB v=true↔v=ByteArray.empty:=by
 unfold emB;rw [Lib.toList_data];obtain⟨⟨l⟩⟩:=v;cases l with
 | nil=>simp;rfl
 | cons a l=>simp;intro h;injection h with h;injection h with h;cases h
theorem LGd.ok1 {kind:Int}{p:List ByteArray}{z:Lf}(h:LGd K kind p z)(hp:Qb6 p):Qc0 z:=by
 refine⟨by rw [h.p];exact hp,h.v,fun hf=> ?_⟩;rw [h.fl] at hf;exact QdZ.2 (h.e (of_decide_eq_true hf))
theorem LGd.kd' {kind:Int}(hk:kind=1 \/kind=2){p:List ByteArray}{z:Lf}(h:LGd K kind p z):kd z.fl=kind:=by
 rw [h.fl];rcases hk with rfl|rfl<;>rfl
def GrS (K:Int ->Int ->Bool)(E:List ByteArray ->List Lf ->List Int ->Prop)(p:List ByteArray)(acc:List Lf)(g:Gr3):Prop:=
 (g.2.1≠[]/\∀z∈g.2.1,nx p z=Uq g.1)/\ (if g.1.2=3 then E (p++[g.1.1]) g.2.1 g.2.2 else g.2.2=mB g.2.1 g.1.2)/\ VB K g.2.1/\ (∀y∈acc,∀z∈g.2.1,Dif y z)/\ (acc++g.2.1).length<=1000
def Qqh (K:Int ->Int ->Bool)(d:Nat):Prop:=∀p acc B U,RT K d p acc B U ->Qmk p ->acc.length<=1000 ->EnT d p B U/\ VB K B/\ (∀z∈B,nx p z≠Up)/\ (∀y∈acc,∀z∈B,Dif y z)/\ (acc++B).length<=1000/\ (p≠[] ->B≠[])
theorem QkX {d:Nat}(ih:Qqh K d){p:List ByteArray}(hp:Qmk p)(h8:p.length<8){acc:List Lf}(ha:acc.length<=1000){g:Gr3}(hn:g.1.1.size≠0/\ g.1.1.size<=40)(h:RD K (RT K d) p g.1 acc g.2.1 g.2.2):GrS K (EnT d) p acc g:=by
 unfold RD at h;unfold GrS;have u:=hp.snoc hn.1 hn.2;by_cases m:g.1.2=3
 ·rw [if_pos m] at h ⊢;obtain⟨y,t,o,i,s,A⟩:=ih _ _ _ _ h u ha;refine⟨⟨A oP,fun z hz=> ?_⟩,y,t,i,s⟩;have E:g.1=(g.1.1,3):=by rw [<- m]
  rw [E];exact Qdc.2 (o z hz)
 ·rw [if_neg m] at h ⊢;obtain⟨M,O,H,Q,U⟩:=h;obtain⟨j,v,Z,G⟩:=Qgj Q ha;have Y:Qb6 (p++[g.1.1]):=u.pth oP oS;refine⟨⟨O,fun z hz=> ?_⟩,U,⟨fun z hz=>⟨(j z hz).1.ok1 Y,(j z hz).1.k⟩,?_,v.imp Qjx⟩,Z,G⟩
  ·rw [QnW (j z hz).1.p,(j z hz).1.kd' M]
  ·refine List.Pairwise.imp_of_mem ?_ v;intro a b q r V;rw [QgD ((j a q).1.p.trans (j b r).1.p.symm) ((j a q).1.fl.trans (j b r).1.fl.symm)];exact V
theorem QhD {d:Nat}(ih:Qqh K d){p:List ByteArray}(hp:Qmk p)(h8:p.length<8):∀{G:List Gr3} {before:Ky} {acc:List Lf},acc.length<=1000 ->RK K (RT K d) p before acc G ->
  (∀g∈G,(g.2.1≠[]/\∀z∈g.2.1,nx p z=Uq g.1)/\ (if g.1.2=3 then EnT d (p++[g.1.1]) g.2.1 g.2.2 else g.2.2=mB g.2.1 g.1.2))/\ (G.map Prod.fst).Pairwise (fun x y=>Qb9 x y<0)/\ (∀g∈G,Qb9 before g.1<0)/\
  VB K (G.flatMap fun g=>g.2.1)/\ (∀y∈acc,∀z∈G.flatMap (fun g=>g.2.1),Dif y z)/\ (acc++G.flatMap fun g=>g.2.1).length<=1000
 | [],before,acc,ha,_=>⟨fun g hg=>by simp at hg,oP,fun g hg=>by simp at hg,⟨fun z m=>by simp at m,oP,oP⟩,fun y _ z m=>by simp at m,oW ha⟩
 | g::G,before,acc,ha,⟨⟨n1,n2,n3⟩,hD,hR⟩=>by
  obtain⟨v,s,A,E,M⟩:=QkX ih hp h8 ha ⟨n1,n2⟩ hD;obtain⟨r,t,q,o,u,i⟩:=QhD ih hp h8 M hR;refine⟨fun x j=> ?_,?_,fun x j=> ?_,?_,fun y hy z m=> ?_,?_⟩
  ·rcases List.mem_cons.1 j with rfl|j
   ·exact⟨v,s⟩
   ·exact r x j
  ·rw [Vm,YG];refine⟨fun k hk=> ?_,t⟩;obtain⟨x,j,rfl⟩:=List.mem_map.1 hk;exact q x j
  ·rcases List.mem_cons.1 j with rfl|j
   ·exact n3
   ·exact QaH.key.tr _ _ _ n3 (q x j)
  ·rw [Vz];refine A.app o (fun a ha' b hb=> ?_) (fun a ha' b hb=>u a (by simp [ha']) b hb);obtain⟨x,j,h⟩:=QdH hb;exact QqB (v.2 a ha') ((r x j).1.2 b h) (q x j)
  ·rw [Vz] at m;rcases List.mem_append.1 m with m|m
   ·exact E y hy z m
   ·exact u y (by simp [hy]) z m
  ·rw [Vz,<- Vu];exact i
theorem QhE:∀d,Qqh K d
 | 0=>fun p acc B U h _ _=>h.elim
 | d+1=>fun p acc B U ⟨G,hB,hU,hl,h0,h8,hR⟩ hp ha=>by
  by_cases j:G=[]
  ·subst j;obtain rfl:B=[]:=hB;refine⟨⟨[],rfl,hU,oP,fun g k=>by simp at k⟩,⟨fun z hz=>by simp at hz,oP,oP⟩,fun z hz=>by simp at hz,fun y _ z hz=>by simp at hz,oW ha,fun hne=>absurd (List.length_eq_zero_iff.1 (h0 rfl)) hne⟩
  ·obtain⟨m,r,o,u,v,t⟩:=QhD (QhE d) hp (h8 j) ha hR;subst hB;refine⟨⟨G,rfl,hU,r,m⟩,u,fun z hz=> ?_,v,t,fun _ e=> ?_⟩
   ·obtain⟨g,k,q⟩:=QdH hz;rw [(m g k).1.2 z q];simp
   ·cases G with
    | nil=>exact j rfl
    | cons g G=>
     rw [Vz,List.append_eq_nil_iff] at e;exact(m g Vt).1.1 e.1
end
theorem Qed:∀{G:List Gr3},(∀g∈G,g.2.1≠[]) ->G.length<=(G.flatMap fun g=>g.2.1).length
 | [],_=>oP
 | g::G,h=>by
  have j:=Qed (G:=G) (fun x hx=>h x (VT _ hx));have:1<=g.2.1.length:=List.length_pos_iff.2 (h g Vt);rw [Vz,Vg,List.length_cons];omega
theorem QfF(hx:Qc0 x)(h:nx p x=Uq y):y.1.size≠0/\ p.length<8:=by
 rw [Qbh] at h;obtain⟨⟨_,m⟩,e⟩:=h;have j:gS x.p p.length=y.1:=congrArg Prod.fst e;have k:=(hx.1.2.2 p.length m).1;rw [j] at k;have:=hx.1.2.1;exact⟨oM,oM⟩
theorem QjQ{k:Int}(h:s.size≠0):Qb9 (ByteArray.empty,0) (s,k)<0:=by
 have e:ltS ByteArray.empty s=true:=by
  unfold ltS;rw [Lib.toList_data,Lib.toList_data];obtain⟨⟨l⟩⟩:=s;cases l with
  | nil=>exact absurd rfl h
  | cons a l=>rfl
 unfold Qb9 QbM;simp [e,orI]
section
variable {K : Int -> Int -> Bool}
def Qqe (K:Int ->Int ->Bool)(d:Nat):Prop:=∀p acc B U,EnT d p B U ->VB K B ->(∀y∈acc,∀z∈B,Dif y z) ->(acc++B).length<=1000 ->p.length+d=9 ->(p≠[] ->B≠[]) ->RT K d p acc B U
theorem Qqg {d:Nat}(hK:KOk K)(ih:Qqe K d){p:List ByteArray}(hd:p.length+(d+1)=9){acc:List Lf}{g:Gr3}(h1:g.2.1≠[]/\∀z∈g.2.1,nx p z=Uq g.1)(h2:if g.1.2=3 then EnT d (p++[g.1.1]) g.2.1 g.2.2 else g.2.2=mB g.2.1 g.1.2)
  (hv:VB K g.2.1) (hx:∀y∈acc,∀z∈g.2.1,Dif y z) (hl:(acc++g.2.1).length<=1000):RD K (RT K d) p g.1 acc g.2.1 g.2.2:=by
 unfold RD;by_cases m:g.1.2=3
 ·rw [if_pos m] at h2 ⊢;exact ih _ _ _ _ h2 hv hx hl oS (fun _=>h1.1)
 ·rw [if_neg m] at h2 ⊢;have j:∀z∈g.2.1,z.p=p++[g.1.1]/\ kd z.fl=g.1.2:=fun z j=>Qb3 m (h1.2 z j);obtain⟨z0,t⟩:=YI _ h1.1;have v:g.1.2=1 \/g.1.2=2:=by rw [<- (j z0 t).2];exact Qhi _
  refine⟨v,h1.1,by simp at hl;omega,Qml (fun z hz'=>⟨⟨(j z hz').1,?_,(hv.ok z hz').2,(hv.ok z hz').1.2.1,fun e=> ?_⟩,?_⟩) ?_ hx hl,h2⟩
  ·have:=(j z hz').2;cases e:z.fl
   ·rw [e] at this;rw [<- this];rfl
   ·rw [e] at this;rw [<- this];rfl
  ·have:=(j z hz').2;rw [e] at this;refine QdZ.1 ((hv.ok z hz').1.2.2 ?_);cases k:z.fl
   ·rw [k] at this;simp [kd] at this
   ·rfl
  ·obtain⟨o,_,i,_⟩:=hK _ _ (hv.ok z hz').2;unfold Qbg orI QaV;simp only;by_cases e:0<z.r
   ·simp [e]
   ·have k:z.r=0:=oM;simp [k];omega
  ·refine List.Pairwise.imp_of_mem ?_ hv.ord;intro a b q u h;rwa [QgD ((j a q).1.trans (j b u).1.symm) (QjP ((j a q).2.trans (j b u).2.symm))] at h
theorem Qoz {d:Nat}(hK:KOk K)(ih:Qqe K d){p:List ByteArray}(hd:p.length+(d+1)=9):∀{G:List Gr3} {before:Ky} {acc:List Lf},
  (∀g∈G,(g.2.1≠[]/\∀z∈g.2.1,nx p z=Uq g.1)/\ (if g.1.2=3 then EnT d (p++[g.1.1]) g.2.1 g.2.2 else g.2.2=mB g.2.1 g.1.2)) ->(G.map Prod.fst).Pairwise (fun x y=>Qb9 x y<0) ->(∀g∈G,Qb9 before g.1<0) ->
  VB K (G.flatMap fun g=>g.2.1) ->(∀y∈acc,∀z∈G.flatMap (fun g=>g.2.1),Dif y z) ->(acc++G.flatMap fun g=>g.2.1).length<=1000 ->RK K (RT K d) p before acc G
 | [],_,_,_,_,_,_,_,_=>trivial
 | g::G,before,acc,h1,h2,h3,h4,h5,h6=>by
  rw [Vz] at h4 h5 h6;obtain⟨v1,v2,v3⟩:=h4.parts;rw [Vm,YG] at h2;obtain⟨k,q⟩:=h1 g Vt;obtain⟨z0,m⟩:=YI _ k.1;have r:=QfF (v1.ok z0 m).1 (k.2 z0 m);have u:=Qeu (v1.ok z0 m).1 (k.2 z0 m);refine⟨⟨r.1,u,h3 g Vt⟩,Qqg hK ih hd k q v1 (fun y j z hz=>h5 y j z (by simp [hz])) (by simp at h6 ⊢;omega),?_⟩;refine Qoz hK ih hd (fun x hx=>h1 x (VT _ hx)) h2.2 (fun x hx=>h2.1 x.1 (List.mem_map.2 ⟨x,hx,rfl⟩)) v2 (fun y j z hz=> ?_) (by rw [Vu];exact h6);rcases List.mem_append.1 j with j|j
  ·exact h5 y j z (by simp [hz])
  ·exact v3 y j z hz
theorem Qo0 (hK:KOk K):∀d,Qqe K d
 | 0=>fun p acc B U h=>h.elim
 | d+1=>fun p acc B U ⟨G,hB,hU,hk,hG⟩ hv hx hl hd hp=>by
  subst hB;have q:=Qed (G:=G) (fun g j=>(hG g j).1.1);refine⟨G,rfl,hU,by rw [Vg] at hl;omega,fun e=> ?_,fun e=> ?_,Qoz hK (Qo0 hK d) hd hG hk (fun g j=> ?_) hv hx hl⟩
  ·by_cases m:p=[]
   ·rw [m];rfl
   ·exact absurd (by rw [e];rfl) (hp m)
  ·obtain⟨g,j⟩:=YI _ e;obtain⟨z,k⟩:=YI _ (hG g j).1.1;have:z∈G.flatMap fun g=>g.2.1:=(by simpa using ⟨g.1.1,g.1.2,g.2.1,⟨g.2.2,j⟩,k⟩);exact(QfF (hv.ok z this).1 ((hG g j).1.2 z k)).2
  ·obtain⟨z,k⟩:=YI _ (hG g j).1.1;have:z∈G.flatMap fun g=>g.2.1:=(by simpa using ⟨g.1.1,g.1.2,g.2.1,⟨g.2.2,j⟩,k⟩);exact QjQ (QfF (hv.ok z this).1 ((hG g j).1.2 z k)).1
end
theorem Qge {R F T:Nat ->Int}{n:Nat}{l:List Lf}(h:QbU R F T n l l.length):∀(d:Nat) (p:List ByteArray),p.length+d=9 ->0<d ->EnT d p (uL l p l.length) (tB l d p)
 | 0,_,_,h0=>oM
 | d+1,p,hd,_=>by
  obtain⟨A,E⟩:=Qem p h l.length zL;have b:∀y∈kS l p l.length,∃j,j<l.length/\ nx p (gL l j)=Uq y:=fun y m=>(E y).1 m;refine⟨(kS l p l.length).map fun y=>(y,dsK l p y l.length,if y.2=3 then tB l d (p++[y.1]) else mB (dsK l p y l.length) y.2),?_,?_,?_,?_⟩
  ·rw [Vx,<- Qef p h l.length zL]
  ·rw [QfV,YC,Vx];rfl
  ·rw [List.map_map];simpa [Function.comp_def] using A
  ·intro g t;obtain⟨y,m,rfl⟩:=List.mem_map.1 t;obtain⟨j,r,u⟩:=b y m;refine⟨⟨?_,fun z hz=> ?_⟩,?_⟩
   ·exact List.ne_nil_of_mem (QaZ.2 ⟨j,r,u,rfl⟩)
   ·obtain⟨i,_,hi,rfl⟩:=QaZ.1 hz;exact hi
   ·by_cases k:y.2=3
    ·simp only [if_pos k];have q:y=(y.1,3):=(by rw [<- k]);have v:dsK l p y l.length=uL l (p++[y.1]) l.length:=by
      conv=>lhs;rw [q]
      exact Qjy l p y.1 l.length
     rw [v];have o:nx (p++[y.1]) (gL l j)≠Up:=Qdc.1 (q▸u);have s:=(QfG.1 o).2;have M:=(h j r).1.1.2.1;simp at s;exact Qge h d (p++[y.1]) oS oM
    ·simp only [if_neg k]
theorem Qmo:VB (fun r q=>QbD R F T r q q n) l↔QbU R F T n l l.length/\ Dis l l.length:=by
 have k:∀{i:Nat} (hi:i<l.length),gL l i=l[i]:=fun{i} hi=>by simp [gL,UR,hi]
 constructor
 ·intro h;refine⟨fun i hi=> ?_,fun i hi j hj=> ?_⟩
  ·rw [k hi];refine⟨(h.ok _ (UW hi)).1,(h.ok _ (UW hi)).2,fun h0=> ?_⟩;rw [k (by omega:i - 1<l.length)];exact List.pairwise_iff_getElem.1 h.ord (i - 1) i oM hi oM
  ·rw [k hi,k (by omega:j<l.length)];exact List.pairwise_iff_getElem.1 h.dif j i oM hi hj
 ·rintro⟨m,u⟩;refine⟨fun z hz=> ?_,List.pairwise_iff_getElem.2 fun i j hi hj hij=> ?_,List.pairwise_iff_getElem.2 fun i j hi hj hij=> ?_⟩
  ·obtain⟨i,hi,rfl⟩:=YJ hz;have:=m i hi;rw [k hi] at this;exact⟨this.1,this.2.1⟩
  ·have:=m.lt j hij hj;rwa [k hi,k hj] at this
  ·have:=u j hj i hij;rwa [k hi,k hj] at this
theorem Qd1(hf:Byt f)(hK:KOk (fun r q=>QbD R F T r q q m)){x:Nat}:
  Qc1 f n (fun r q=>QbD R F T r q q m) 9 [] [] x=Uq (l,x')/\ x<=n↔(QbU R F T m l l.length/\ Dis l l.length/\ l.length<=1000)/\ At f x (tB l 9 [])/\ x'=x+(tB l 9 []).length/\ x'<=n:=by
 rw [Qiq hf hK 9 [] [] x l x'];constructor
 ·rintro⟨B,U,g,p,j,u,k⟩;rw [VI] at g;subst g;obtain⟨o,i,A,E,v,M⟩:=QhE 9 [] [] l U p (fun s hs=>by simp at hs) oP;have b:U=tB l 9 []:=by
   have:=Qmh 9 [] l U [] [] o (fun z hz=>by simp at hz) (fun z hz=>by simp at hz);simpa using this
  subst b;obtain⟨v1,v2⟩:=Qmo.1 i;simp only [VI] at v ⊢;exact⟨⟨v1,v2,v⟩,j,u,k⟩
 ·rintro⟨⟨v1,v2,v3⟩,j,u,k⟩;have t:=Qge v1 9 [] rfl oD;rw [QkO v1 _ zL,VQ] at t;exact⟨l,tB l 9 [],rfl,Qo0 hK 9 [] [] l _ t (Qmo.2 ⟨v1,v2⟩) (fun y hy=>by simp at hy) (oW v3) rfl (fun h=>absurd rfl h),j,u,k⟩
variable {EX : Nat -> Option Value}
theorem Qrf {w:Ur}{D:DataW Value}{G:Int ->Value}(h:QcM w bm n D G L)(r q:Int)(hr:(Lit.int Uh r).wf=true)(hs:Srt (L r))(hl:(L r).length<=1000000):
  Cl 178 #[.map (Uq bm),Uo #[Ud r,Ud q]] w (Rt w (Un (inB (L r) q q))):=Qpk (fun w' hb=>⟨(h.bw hb).look r hr,_,(h.bw hb).rows r⟩:LkR w bm r (G r) (L r)) q hs hl
noncomputable def rdD (f:Nat ->Int)(n x:Nat):Option ((Nat×Nat)×Nat):=(rd f n x 7).bind fun a=>(rd f n a.2 1000000000).bind fun b=>Uq ((a.1,b.1),b.2)
theorem Qrb (cb B:Nat)(a:Option Us)(n c x:Nat)(f:Nat ->Int)(aT aS aL aE:Us)(w:Ur)(hn:n<=1048576)(hf:Byt f)(hcur:Cur EX w cb a n c (x:Int))(hs:Seg w a n f)(hab:∀y,a=Uq y ->y.block≠cb)(hE:QcL w B aT aS aL aE)(hBc:B<=cb):
  Cl 224 #[Uk (Uc cb)] w fun e w'=>w.grownBy w' (Uq cb)/\
   ((∃r q x':Nat,rdD f n x=Uq ((r,q),x')/\ e=Ui (Ul #[Uo #[Ud (r:Int),Ud (q:Int)],.nilIface])/\ Cur EX w' cb a n c (x':Int)) \/
    (rdD f n x=Up/\∃(r q:Int) (t:TypeId) (v:Value) (y:Int),e=Ui (Ul #[Uo #[Ud r,Ud q],.iface t v])/\ Cur EX w' cb a n c y)):=by
 have b:=hcur.lt;obtain⟨W,j⟩:=zE (w.alloc (Uj #[Ud 0,Ud 0] 115));have D:Bl w W:=j▸zO _ _;have zW:W.heap.size=w.heap.size+1:=j▸oP;have i:w.grownBy W (Uq cb):=Qag (Qbo w (Uq cb)) D;have H:Hid (∀w1,W.grownBy w1 (Uq cb) ->w1.cell? (Ub w.heap.size)=Uq (Ud 0)/\ w1.cell? (Ua w.heap.size 1)=Uq (Ud 0)/\ w1.frozen? (Ub w.heap.size)=false/\ w1.frozen? (Ua w.heap.size 1)=false):=by
  intro w1 g;have G:=g.block w.heap.size oM oS;refine⟨?_,?_,?_,?_⟩
  ·rw [UB G,<- j];simp
  ·rw [UB G,<- j];simp
  ·have e:w1.frozen? (Ub w.heap.size)=W.frozen? (Ub w.heap.size):=(by unfold Yq;rw [G]);rw [e,<- j];simp
  ·have e:w1.frozen? (Ua w.heap.size 1)=W.frozen? (Ua w.heap.size 1):=(by unfold Yq;rw [G]);rw [e,<- j];simp
 have S:cb<W.heap.size:=oM;have N:=hid (QbP cb B a n c x 7 f aT aS aL aE W hn hf (hcur.bw D b) (hs.grown i hab) hab (hE.grown i hBc b) hBc oM oM);have J:=hid (hE.grown i hBc b);have R:=hid (hs.grown i hab);have C:=hid i;clear hE hcur hs i D;go_enter func224,ntmps224;go_wp2_with fail;try rw [j]
 clear j;refine N.mono ?_;rintro e w1 ⟨m,⟨V,T,u,hV,rfl,A⟩|⟨u,t,v,y,rfl,A⟩⟩
 ·rw [Qa5] at u;have X:=hid (QbP cb B a n c T 1000000000 f aT aS aL aE w1 hn hf A (R.grown m hab) hab (J.grown m hBc S) hBc oM oM);have h:=hid m;have Y:=hid u;clear m u A N J;go_wp2_with fail;refine X.mono ?_;rintro e w2 ⟨o,⟨M,x2,z,hM,rfl,E⟩|⟨z,t,v,y,rfl,E⟩⟩
  ·rw [Qa5] at z;obtain⟨k0,O,z0,F⟩:=H _ (Qaf h o);have K:=hid (Qaf C (Qaf h o));have L:=hid z;have I:=hid E;clear o z E X;go_wp2_with fail;obtain⟨Z,k,Q,U,s,p⟩:=Qor (Ud ((V:Int))) (Ud ((M:Int))) K I b k0 O;rw [<- k];clear k;refine zF (v:=Ul #[Uo #[Ud ((V:Int)),Ud ((M:Int))],.nilIface]) (by simp [results,results224,go_sem,Q,U]) ⟨s,.inl ⟨V,M,x2,?_,rfl,p⟩⟩;unfold rdD;rw [Y.out];simp only [YB];rw [L.out];rfl
  ·rw [Qa5] at z;obtain⟨k0,O,z0,F⟩:=H _ (Qaf h o);have K:=hid (Qaf C (Qaf h o));have L:=hid z;have I:=hid E;clear o z E X;go_wp2_with fail;obtain⟨Z,k,Q,U,s,p⟩:=Qor (Ud (V:Int)) (Ud 0) K I b k0 O;rw [<- k];clear k;refine zF (v:=Ul #[Uo #[Ud (V:Int),Ud 0],.iface t v]) (by simp [results,results224,go_sem,Q,U]) ⟨s,.inr ⟨?_,_,_,_,_,_,rfl,p⟩⟩;unfold rdD;rw [Y.out];simp only [YB];rw [L.out];rfl
 ·rw [Qa5] at u;obtain⟨k0,O,z0,F⟩:=H _ m;have h:=hid (Qaf C m);have Y:=hid u;have P:=hid A;clear m u A N J;go_wp2_with fail;obtain⟨Z,k,Q,U,s,p⟩:=Qor (Ud 0) (Ud 0) h P b k0 O;rw [<- k];clear k;refine zF (v:=Ul #[Uo #[Ud 0,Ud 0],.iface t v]) (by simp [results,results224,go_sem,Q,U]) ⟨s,.inr ⟨?_,_,_,_,_,_,rfl,p⟩⟩;unfold rdD;rw [Y.out];rfl
structure UsD (w:Ur)(ub:Nat)(acc:List Lf)(D:DataW Value):Prop where
 own:w.ownsMap prog 115 QgL ub acc.length D
 tidy:Tidy D
 has':∀r q kl,keyOf prog 115 (Qga r q)=Uq kl ->(has D kl=true↔∃y∈acc,y.r=r/\ y.q=q)
 sz:size D=acc.length
 val:∀r q kl,keyOf prog 115 (Qga r q)=Uq kl ->D.atKey kl (.held (Uo #[]))=.held (Uo #[])
def UsM (w:Ur)(ub:Nat)(acc:List Lf):Prop:=∃D,UsD w ub acc D
theorem UsM.same {w:Ur}(h:UsM w ub acc)(e:w'.heap[ub]? =w.heap[ub]?):UsM w' ub acc:=by
 obtain⟨D,h⟩:=h;exact⟨D,QbR h.own e,h.tidy,h.has',h.sz,h.val⟩
theorem UsM.lt {w:Ur}(h:UsM w ub acc):ub<w.heap.size:=by
 obtain⟨D,h⟩:=h;exact h.own.lt
theorem UsM.made (w:Ur):UsM (w.alloc (.map #[] 0)) w.heap.size []:=
 ⟨.map [],UO w _ _ _,tidy_empty,fun r q kl hk=>⟨fun h=>by simp [has] at h,fun⟨y,hy,_⟩=>by simp at hy⟩,by simp [size],fun r q kl hk=>rfl⟩
theorem UsD.step {w:Ur}{D:DataW Value}{z:Lf}{kl:Lit}(h:UsD w ub acc D)(hk:keyOf prog 115 (Qga z.r z.q)=Uq kl)(hf:∀y∈acc,¬(y.r=z.r/\ y.q=z.q))
  (ho:w'.ownsMap prog 115 QgL ub (acc.length+1) (D.put kl (.held (Uo #[])))):UsD w' ub (acc++[z]) (D.put kl (.held (Uo #[]))):=by
 have u:=Qat.key hk;have i:=size_put (k:=kl) h.tidy (.held (Uo #[]));have o:¬has D kl=true:=fun hh=>by
  obtain⟨y,j,e⟩:=(h.has' _ _ _ hk).1 hh;exact hf y j e
 refine⟨oW ho,h.tidy.put u _,fun r q kl' hk'=> ?_,?_,fun r q kl' hk'=> ?_⟩
 ·by_cases e:kl'=kl
  ·subst e;obtain⟨g,t⟩:=QeU hk hk';rw [has_put_same h.tidy.isMap u];exact⟨fun _=>⟨z,oP,g,t⟩,fun _=>rfl⟩
  ·rw [has_put_other e,h.has' r q kl' hk'];constructor
   ·rintro⟨y,j,m⟩;exact⟨y,by simp [j],m⟩
   ·rintro⟨y,j,m,v⟩;rcases List.mem_append.1 j with j|j
    ·exact⟨y,j,m,v⟩
    ·simp at j;subst j;rw [m,v,hk'] at hk;injection hk with hk;exact absurd hk e
 ·rw [i,if_neg o,h.sz];simp
 ·by_cases e:kl'=kl
  ·subst e;rw [atKey_put_same h.tidy.isMap u]
  ·rw [atKey_put_other e];exact h.val r q kl' hk'
def exT (kb ub:Nat)(i:Nat):Option Value:=if i=2 then Uq (.map (Uq kb)) else if i=3 then Uq (.map (Uq ub)) else Up
def UsP (Kb:Bool)(ub:Nat)(acc:List Lf)(z:Lf)(w:Ur)(e:Ending)(w':Ur):Prop:=
 (Kb=true/\ (∀y∈acc,¬(y.r=z.r/\ y.q=z.q))/\ acc.length≠1000/\ e=Ui .nilIface/\ UsM w' ub (acc++[z])/\ w.grownBy w' (Uq ub)) \/
 (¬(Kb=true/\ (∀y∈acc,¬(y.r=z.r/\ y.q=z.q))/\ acc.length≠1000)/\ (∃t v,e=Ui (.iface t v))/\ Bl w w')
theorem Qmg (w:Ur):(zeroValue 347).run prog w=.ok (Uo #[]) w:=oK
theorem Qrm (tb B kb ub nn:Nat)(a:Option Us)(n c:Nat)(x:Int)(aT aS aL aE:Us)(D:DataW Value)(G:Int ->Value)(L:Int ->List (Int×Int))(acc:List Lf)(z:Lf)(w:Ur)
  (hcur:Cur (exT kb ub) w tb a n c x) (hE:QcL w B aT aS aL aE) (j:B<=w.heap.size) (hU:UsM w ub acc) (hG:QcM w kb nn D G L) (hS:∀r,Srt (L r)/\ (L r).length<=1000000) (hr:(Lit.int Uh z.r).wf=true) (hq:(Lit.int Uh z.q).wf=true) (hl:acc.length<=1000):
  Cl 225 #[Uk (Uc tb),Uo #[Ud z.r,Ud z.q]] w fun e w'=>UsP (inB (L z.r) z.q z.q) ub acc z w e w':=by
 obtain⟨P,hP⟩:=zE (UsP (inB (L z.r) z.q z.q) ub acc z w);rw [hP];have U:=hid hP;clear hP;obtain⟨W,o⟩:=zE (w.alloc (Uj #[Ud z.r,Ud z.q] 115));have H:Bl w W:=o▸zO _ _;have x0:W.cell? (Ub w.heap.size)=Uq (Ud z.r):=o▸oP;have x1:W.cell? (Ua w.heap.size 1)=Uq (Ud z.q):=o▸oP;have zb:w.heap.size<W.heap.size:=o▸oP;have J:=hcur.bw H hcur.lt;have zt:=J.lt;have kc:W.cell? (Ua tb 2)=Uq (.map (Uq kb)):=(J.2.2.2 2 oM).1.trans rfl;have uc:W.cell? (Ua tb 3)=Uq (.map (Uq ub)):=(J.2.2.2 3 oM).1.trans rfl;have Q:=hid (fun w1(I:Bl W w1)=>Qrf (hG.bw (Qaa H I)) z.r z.q hr (hS z.r).1 (hS z.r).2);obtain⟨Kb,Hk⟩:=zE (inB (L z.r) z.q z.q);rw [Hk] at Q U;have Ho:=hid H;have HE:=hid hE;have HU:=hid hU;obtain⟨F,Hl⟩:=QdY hr hq;have i:=hid Hl;clear Hk hE hU hG hS hcur J H Hl;obtain⟨S,X⟩:=zE z.r;obtain⟨R,N⟩:=zE z.q;rw [X] at x0 Q;rw [N] at x1 Q;rw [X,N] at o i ⊢;have b:=hid (And.intro X N);clear X N hr hq;go_enter func225,ntmps225;go_wp2_with fail;try rw [o]
 clear o;have Y:Hid (∀w',Bl W w' ->(Bl W w'/\ w'.cell? (Ua tb 2)=Uq (.map (Uq kb))/\ w'.cell? (Ub w.heap.size)=Uq (Ud S)/\ w'.cell? (Ua w.heap.size 1)=Uq (Ud R))):=hid (fun w' j=>⟨j,(j.cell (p:=(Ua tb _)) zt).trans kc,(j.cell (p:=(Ua w.heap.size _)) zb).trans x0,(j.cell (p:=(Ua w.heap.size _)) zb).trans x1⟩);refine zS Y (fun qh=> ?_);refine tZ 0 7 ?_;refine tZ 1 8 ?_;refine tZ 2 9 ?_;refine tZ 3 10 ?_;refine tZ 4 11 ?_;refine cZ 5 ?_;intro K hK;go_simp;refine(Q _ qh.1).mono ?_;rintro e w1 ⟨rfl,I⟩;have j:=Qaa qh.1 I;refine hK.out _ _ (Y _ j) (fun qh=> ?_);clear hK K;try simp only [zP]
 refine tZ 6 13 ?_;refine zD ?_;obtain⟨_,_,y0,y1⟩:=Y _ j;have Hm:=(j.cell (p:=(Ua tb 3)) zt).trans uc;have m:=hid (Qaa Ho j);have Hf:=hid (HE.bw (m.mono oM));have Z:=hid (HU.same (m.block ub HU.lt));have Hj:=hid j.size;clear qh j I Y Q kc uc x0 x1 HE HU;cases Kb with
 | false=>
  obtain⟨ev,ge⟩:=Hf.x7;clear y0 y1 Hm;go_wp2_with fail;rw [<- U.out];exact .inr ⟨(fun h=>by cases h.1),⟨_,_,rfl⟩,m⟩
 | true=>
  obtain⟨V,g⟩:=Z.out;have Hc:∀v:Ur,v.heap[ub]? =w1.heap[ub]? ->(Instr.lookup 207 (.map (Uq ub)) (Uo #[Ud S,Ud R]) true).run prog v=.ok (Ul #[Uo #[],Un (has V F)]) v:=fun v hv=>by
   have ho:v.ownsMap prog 115 QgL ub acc.length V:=QbR g.own hv;obtain⟨u,ps,He,hu⟩:=ho.look_ok Qat underlying207 (Qmg v) (zd:=.held (Uo #[])) (zp:=[]) rfl i;have C:=QdG hu;have Ht:=g.val S R F i;rw [Ht] at C;injection C with C;rw [<- C] at He;exact He
  have Hr:=Hc w1.drew rfl;have A:Bl w1 (w1.alloc (Uj #[] 347)):=zO _ _;have Hn:w.heap.size<w1.heap.size:=Ut zb Hj;have Hu:tb<w1.heap.size:=Ut zt Hj;have Hv:=(A.cell (p:=(Ub w.heap.size)) Hn).trans y0;have Hw:=(A.cell (p:=(Ua w.heap.size 1)) Hn).trans y1;have Hx:=(A.cell (p:=(Ua tb 3)) Hu).trans Hm;have Hh:=Hc (w1.alloc (Uj #[] 347)).drew (A.block ub Z.lt);have t:=hid A;clear A;have Ha:∀(v:Ur) (ty:TypeId),v.heap[ub]? =w1.heap[ub]? ->(Builtin.len_ #[207] ty #[.map (Uq ub)]).run prog v=.ok (Ud (acc.length:Int)) v:=fun v ty hv=>by
   have ho:v.ownsMap prog 115 QgL ub acc.length V:=QbR g.own hv;have:=ho.len underlying207 ty;rw [g.sz] at this;exact this
  have Hq:=hid Ha;have Hb:=g.has' S R F i;obtain⟨T,hT⟩:=zE (has V F);rw [hT] at Hr Hh Hb;have Hd:=hid Hb;clear Hc Hb hT Ha;cases T with
  | true=>
   have Hg:Hid (¬((∀y∈acc,¬(y.r=z.r/\ y.q=z.q))/\ acc.length≠1000)):=hid (fun h=>by
    obtain⟨y,hy,e1,e2⟩:=Hd.1 rfl;exact h.1 y hy ⟨e1.trans b.1.symm,e2.trans b.2.symm⟩)
   have O:=Hf.bw (t.mono (Ux j m.size));obtain⟨ev,ge⟩:=O.x8;clear O;go_wp2_with fail;go_region;all_goals go_wp2_with fail
   all_goals (rw [<- U.out];exact .inr ⟨fun h=>Hg.out h.2,⟨_,_,rfl⟩,(Qaa m t).drew⟩)
  | false=>
   have Hi:Hid (∀y∈acc,¬(y.r=z.r/\ y.q=z.q)):=hid (fun y hy e=>by
    have:=Hd.2 ⟨y,hy,e.1.trans b.1,e.2.trans b.2⟩;cases this)
   have Hs:=Hq (w1.alloc (Uj #[] 347)).drew 3 (t.block ub Z.lt);by_cases M:acc.length=1000
   ·have Hg:Hid (¬((∀y∈acc,¬(y.r=z.r/\ y.q=z.q))/\ acc.length≠1000)):=hid (fun h=>h.2 M);have O:=Hf.bw (t.mono (Ux j m.size));obtain⟨ev,ge⟩:=O.gM;have dl:((acc.length:Int)==1000)=true:=(by rw [M];rfl);rw [M] at Hs;clear O M;go_wp2_with fail;go_region;all_goals go_wp2_with fail
    all_goals (rw [<- U.out];exact .inr ⟨fun h=>Hg.out h.2,⟨_,_,rfl⟩,(Qaa m t).drew⟩)
   ·obtain⟨w9,r9,o9,E⟩:=(QbR (w':=(w1.alloc (Uj #[] 347)).drew.drew) g.own (t.block ub Z.lt)).update Qat underlying207 oL i (val:=Uo #[]) (d:=.held (Uo #[])) (ps:=[]) rfl;have H9:Hid (UsM w9 ub (acc++[z])/\ w.grownBy w9 (Uq ub)):=hid ⟨⟨_,g.step (by have:=i.out;rw [<- b.1,<- b.2] at this;exact this) Hi o9⟩,by
     have s:=(Qaa m t);exact⟨E.os.trans s.os,E.tape.trans s.tape,E.output.trans s.output,Ux s.size E.size,fun k hk hne=>(E.block k (Ut hk s.size) hne).trans (s.block k hk)⟩⟩
    have dl:((acc.length:Int)==1000)=false:=oS;have Hp:=hid M;unfold Qga at r9;clear o9 E g M;go_wp2_with fail;go_region;all_goals go_wp2_with fail
    all_goals go_region
    all_goals go_wp2_with fail
    all_goals (rw [<- U.out];exact .inl ⟨rfl,Hi,Hp,rfl,H9.1,H9.2⟩)
structure G2 (tb ub:Nat)(w w':Ur):Prop where
 os:w'.os=w.os
 tape:w'.tape=w.tape
 output:w'.output=w.output
 size:w.heap.size<=w'.heap.size
 block:∀k,k<w.heap.size ->k≠tb ->k≠ub ->w'.heap[k]? =w.heap[k]?
theorem G2.trans{a b c:Ur}(h:G2 tb ub a b)(k:G2 tb ub b c):G2 tb ub a c:=
 ⟨k.os.trans h.os,k.tape.trans h.tape,k.output.trans h.output,Ux h.size k.size,fun g hg h1 h2=>(k.block g (Ut hg h.size) h1 h2).trans (h.block g hg h1 h2)⟩
theorem G2.bw{w:Ur}(h:Bl w w'):G2 tb ub w w':=⟨h.os,h.tape,h.output,h.size,fun k hk _ _=>h.block k hk⟩
theorem G2.t{w:Ur}(h:w.grownBy w' (Uq tb)):G2 tb ub w w':=⟨h.os,h.tape,h.output,h.size,fun k hk h1 _=>h.block k hk (fun e=>h1 (by injection e))⟩
theorem G2.u{w:Ur}(h:w.grownBy w' (Uq ub)):G2 tb ub w w':=⟨h.os,h.tape,h.output,h.size,fun k hk _ h2=>h.block k hk (fun e=>h2 (by injection e))⟩
theorem G2.cell{w:Ur}(h:G2 tb ub w w')(hk:k<w.heap.size)(h1:k≠tb)(h2:k≠ub):w'.cell? (Ua k i)=w.cell? (Ua k i):=UB (a:=(Ua k i)) (h.block k hk h1 h2)
theorem G2.frozen{w:Ur}(h:G2 tb ub w w')(hk:k<w.heap.size)(h1:k≠tb)(h2:k≠ub):w'.frozen? (Ua k i)=w.frozen? (Ua k i):=Ys (a:=(Ua k i)) (h.block k hk h1 h2)
theorem G2.set{w:Ur}(h:G2 tb ub w w')(q:Us)(v:Value)(hq:w.heap.size<=q.block):G2 tb ub w (w'.setCell q v):=
 ⟨h.os,h.tape,h.output,by simpa [UC] using h.size,fun k hk h1 h2=>(zH _ _ _ _ oM).trans (h.block k hk h1 h2)⟩
structure TS (w:Ur)(tb B kb ub bs hi:Nat)(a:Option Us)(n c:Nat)(f:Nat ->Int)(aT aS aL aE:Us)(L:Int ->List (Int×Int))(x:Int)(acc:List Lf):Prop where
 cur:Cur (exT kb ub) w tb a n c x
 seg:Seg w a n f
 err:QcL w B aT aS aL aE
 us:UsM w ub acc
 grp:∃nn D G,QcM w kb nn D G L/\∀r g,(G r).ownBlock=Uq g ->bs<=g/\ g<hi
 ab:∀y,a=Uq y ->y.block≠tb/\ y.block≠ub/\ y.block<hi
 ne:tb≠ub
 bt:B<=tb
 bu:B<=ub
 tl:tb<bs
 ul:ub<bs
 kl:bs<=kb
 kh:kb<hi
section
variable {w w' : Ur} {tb B kb ub bs hi : Nat} {a : Option Us} {n c : Nat} {f : Nat -> Int} {aT aS aL aE : Us} {L : Int -> List (Int × Int)} {x x' : Int} {acc acc' : List Lf}
theorem TS.lt (h:TS w tb B kb ub bs hi a n c f aT aS aL aE L x acc):B<=w.heap.size:=Ux h.bt (YN h.cur.lt)
theorem TS.t (h:TS w tb B kb ub bs hi a n c f aT aS aL aE L x acc)(g:w.grownBy w' (Uq tb))(cu:Cur (exT kb ub) w' tb a n c x'):TS w' tb B kb ub bs hi a n c f aT aS aL aE L x' acc:=by
 obtain⟨q,D,G,m,j⟩:=h.grp;refine⟨cu,h.seg.grown g (fun y hy=>(h.ab y hy).1),h.err.grown g h.bt h.cur.lt,h.us.same (g.block ub h.us.lt (fun e=>h.ne (by injection e with e;exact e.symm))),⟨q,D,G,m.gr g (fun e=> ?_) (fun r k hk e=> ?_),j⟩,h.ab,h.ne,h.bt,h.bu,h.tl,h.ul,h.kl,h.kh⟩
 ·injection e with e;have:=h.tl;have:=h.kl;omega
 ·injection e with e;have:=h.tl;have:=(j r k hk).1;omega
theorem TS.u (h:TS w tb B kb ub bs hi a n c f aT aS aL aE L x acc)(g:w.grownBy w' (Uq ub))(us:UsM w' ub acc'):TS w' tb B kb ub bs hi a n c f aT aS aL aE L x acc':=by
 obtain⟨q,D,G,m,j⟩:=h.grp;refine⟨h.cur.at' (g.block tb h.cur.lt (fun e=>h.ne (by injection e))),h.seg.grown g (fun y hy=>(h.ab y hy).2.1),h.err.grown g h.bu h.us.lt,us,⟨q,D,G,m.gr g (fun e=> ?_) (fun r k hk e=> ?_),j⟩,h.ab,h.ne,h.bt,h.bu,h.tl,h.ul,h.kl,h.kh⟩
 ·injection e with e;have:=h.ul;have:=h.kl;omega
 ·injection e with e;have:=h.ul;have:=(j r k hk).1;omega
theorem TS.bw (h:TS w tb B kb ub bs hi a n c f aT aS aL aE L x acc)(hb:Bl w w'):TS w' tb B kb ub bs hi a n c f aT aS aL aE L x acc:=by
 obtain⟨m,D,G,j,k⟩:=h.grp;exact⟨h.cur.bw hb h.cur.lt,h.seg.bw hb,h.err.bw (hb.mono h.lt),h.us.same (hb.block ub h.us.lt),⟨m,D,G,j.bw hb,k⟩,h.ab,h.ne,h.bt,h.bu,h.tl,h.ul,h.kl,h.kh⟩
theorem TS.setF (h:TS w tb B kb ub bs hi a n c f aT aS aL aE L x acc)(q:Us)(v:Value)(hq:hi<=q.block):TS (w.setCell q v) tb B kb ub bs hi a n c f aT aS aL aE L x acc:=by
 obtain⟨u,D,G,m,j⟩:=h.grp;have z:=h.tl;have t:=h.ul;have o:=h.kl;have i:=h.kh;have b:=h.bt;have g:w.grownBy (w.setCell q v) (Uq q.block):=⟨rfl,rfl,rfl,by simp [UC],fun k hk hne=>zH _ _ _ _ (fun e=>hne (by rw [e]))⟩;refine⟨h.cur.at' (zH _ _ _ _ oM),h.seg.grown g (fun y hy=>oH ((h.ab y hy).2.2)),h.err.bw ((Below.refl B w).setCell (p:=q) oM v),h.us.same (zH _ _ _ _ oM),⟨u,D,G,m.gr g (fun e=>oI e) (fun r k hk e=>by injection e with e;have:=(j r k hk).2;omega),j⟩,h.ab,h.ne,h.bt,h.bu,h.tl,h.ul,h.kl,h.kh⟩
end
section
variable {w v v' : Ur} {tb B kb ub bs hi : Nat} {a : Option Us} {n c : Nat} {f : Nat -> Int} {aT aS aL aE : Us} {L : Int -> List (Int × Int)} {x x' : Int} {acc acc' : List Lf}
structure RB (v:Ur)(b:Nat):Prop where
 c0:∃u,v.cell? (Ub b)=Uq (Ud u)
 c1:∃u,v.cell? (Ua b 1)=Uq (Ud u)
 c2:∃u,v.cell? (Ua (b+1) 0)=Uq (Um u)
 f0:∀i,v.frozen? (Ua b i)=false
 f1:∀i,v.frozen? (Ua (b+1) i)=false
 lt:b+1<v.heap.size
theorem RB.q2 {v:Ur}{b:Nat}(h:RB v b):(∃u,v.cell? (Ub b)=Uq (Ud u))/\ (∃u,v.cell? (Ua b 1)=Uq (Ud u)):=⟨h.c0,h.c1⟩
theorem RB.q3 {v:Ur}{b:Nat}(h:RB v b):(∃u,v.cell? (Ub b)=Uq (Ud u))/\ (∃u,v.cell? (Ua b 1)=Uq (Ud u))/\ (∃u,v.cell? (Ua (b+1) 0)=Uq (Um u)):=⟨h.c0,h.c1,h.c2⟩
theorem RB.g2 {b:Nat}(h:RB v b)(g:G2 tb ub v v')(h1:tb<b)(h2:ub<b):RB v' b:=by
 have l:=h.lt;obtain⟨m,k0⟩:=h.c0;obtain⟨q,j⟩:=h.c1;obtain⟨r,k⟩:=h.c2;exact⟨⟨m,(g.cell oM oM oM).trans k0⟩,⟨q,(g.cell oM oM oM).trans j⟩,⟨r,(g.cell oM oM oM).trans k⟩,fun i=>(g.frozen oM oM oM).trans (h.f0 i),fun i=>(g.frozen oM oM oM).trans (h.f1 i),Ut l g.size⟩
theorem RB.fill {b:Nat}(h:RB v b)(g:G2 tb ub w v)(hb:w.heap.size<=b)(r q:Int)(s:ByteArray):
  ∃Z,Z=((v.setCell (Ub b) (Ud r)).setCell (Ua b 1) (Ud q)).setCell (Ua (b+1) 0) (Um s)/\ Z.cell? (Ub b)=Uq (Ud r)/\ Z.cell? (Ua b 1)=Uq (Ud q)/\ Z.cell? (Ua (b+1) 0)=Uq (Um s)/\ G2 tb ub w Z:=by
 obtain⟨m,k0⟩:=h.c0;obtain⟨u,j⟩:=h.c1;obtain⟨y,k⟩:=h.c2;refine⟨_,rfl,?_,?_,?_,((g.set _ _ hb).set _ _ hb).set _ _ oS⟩
 ·rw [UF _ _ _ _ oP,UI _ _ _ _ oP];exact UH _ _ _ k0
 ·rw [UF _ _ _ _ oP];exact UH _ _ _ (by rw [UI _ _ _ _ oP];exact j)
 ·exact UH _ _ _ (by rw [UF _ _ _ _ oP,UF _ _ _ _ oP];exact k)
theorem TS.fill {b:Nat}(t:TS v tb B kb ub bs hi a n c f aT aS aL aE L x acc)(ht:hi<=b)(r q:Int)(s:ByteArray):TS (((v.setCell (Ub b) (Ud r)).setCell (Ua b 1) (Ud q)).setCell (Ua (b+1) 0) (Um s)) tb B kb ub bs hi a n c f aT aS aL aE L x acc:=
 ((t.setF _ _ ht).setF _ _ ht).setF _ _ oS
theorem UsM.swap {z z':Lf}(h:UsM v ub (acc++[z]))(er:z'.r=z.r)(eq:z'.q=z.q):UsM v ub (acc++[z']):=by
 obtain⟨D,h⟩:=h;have u:(acc++[z']).length=(acc++[z]).length:=oP;refine⟨D,by rw [u];exact h.own,h.tidy,fun r q kl hk=> ?_,by rw [u];exact h.sz,h.val⟩;rw [h.has' r q kl hk];simp only [List.mem_append,List.mem_singleton];constructor
 ·rintro⟨y,m|rfl,j,k⟩
  ·exact⟨y,.inl m,j,k⟩
  ·exact⟨z',.inr rfl,er.trans j,eq.trans k⟩
 ·rintro⟨y,m|rfl,j,k⟩
  ·exact⟨y,.inl m,j,k⟩
  ·exact⟨z,.inr rfl,er.symm.trans j,eq.symm.trans k⟩
theorem TS.swap {z:Lf}(h:TS v tb B kb ub bs hi a n c f aT aS aL aE L x (acc++[z]))(z':Lf)(er:z'.r=z.r)(eq:z'.q=z.q):TS v tb B kb ub bs hi a n c f aT aS aL aE L x (acc++[z']):=
 ⟨h.cur,h.seg,h.err,h.us.swap er eq,h.grp,h.ab,h.ne,h.bt,h.bu,h.tl,h.ul,h.kl,h.kh⟩
end
theorem QiU (w:Ur)(c0 c1 c2:Array Value)(t0 t1 t2:TypeId):(∀i,(((w.alloc (.cells c0 t0)).alloc (.cells c1 t1)).alloc (.cells c2 t2)).cell? (Ua w.heap.size i)=c0[i]?)/\ (∀i,(((w.alloc (.cells c0 t0)).alloc (.cells c1 t1)).alloc (.cells c2 t2)).cell? (Ua (w.heap.size+1) i)=c1[i]?)/\ (∀i,(((w.alloc (.cells c0 t0)).alloc (.cells c1 t1)).alloc (.cells c2 t2)).cell? (Ua (w.heap.size+1+1) i)=c2[i]?)/\ (∀i,(((w.alloc (.cells c0 t0)).alloc (.cells c1 t1)).alloc (.cells c2 t2)).frozen? (Ua (w.heap.size+1) i)=false)/\ (∀i,(((w.alloc (.cells c0 t0)).alloc (.cells c1 t1)).alloc (.cells c2 t2)).frozen? (Ua (w.heap.size+1+1) i)=false):=by
 refine⟨fun i=> ?_,fun i=> ?_,fun i=> ?_,fun i=> ?_,fun i=> ?_⟩
 ·rw [YM _ _ _ oS,YM _ _ _ oP,UJ _ _ _ _ rfl]
 ·rw [YM _ _ _ oP,UJ _ _ _ _ oP]
 ·rw [UJ _ _ _ _ oP]
 ·rw [World.frozen?_alloc_past _ _ _ oP,UK _ _ _ _ oP]
 ·rw [UK _ _ _ _ oP]
def LfP (w:Ur)(tb B kb ub bs hi:Nat)(a:Option Us)(n c:Nat)(f:Nat ->Int)(aT aS aL aE:Us)(L:Int ->List (Int×Int))(x:Nat)(acc:List Lf)(kind:Int)(p:List ByteArray)(before:Dt)(e:Ending)(w':Ur):Prop:=G2 tb ub w w'/\
 ((∃z x',Qe3 f n (fun r q=>inB (L r) q q) kind p before acc x=Uq (z,x')/\ e=Ui (Ul #[Uo #[Ud z.r,Ud z.q],Uo #[Um z.v],.nilIface])/\ TS w' tb B kb ub bs hi a n c f aT aS aL aE L ((x':Nat):Int) (acc++[z])) \/
  (Qe3 f n (fun r q=>inB (L r) q q) kind p before acc x=Up/\∃r q s t v,e=Ui (Ul #[Uo #[Ud r,Ud q],Uo #[Um s],.iface t v])))
theorem Qq6 (tb B kb ub bs hi:Nat)(a:Option Us)(n c:Nat)(f:Nat ->Int)(aT aS aL aE:Us)(L:Int ->List (Int×Int))(x:Nat)(acc:List Lf)(kind:Int)(p:List ByteArray)(br bq:Int)(w:Ur)(hn:n<=1048576)(hnc:n<=c)(hcc:c<=9223372036854775807)(hf:Byt f)(hk:kind=1 \/kind=2)
  (hT:TS w tb B kb ub bs hi a n c f aT aS aL aE L (x:Int) acc) (hhi:hi<=w.heap.size) (hS:∀r,Srt (L r)/\ (L r).length<=1000000) (hl:acc.length<=1000):
  Cl 193 #[Uk (Uc tb),Ud kind,Uo #[Ud br,Ud bq]] w fun e w'=>LfP w tb B kb ub bs hi a n c f aT aS aL aE L x acc kind p (br,bq) e w':=by
 obtain⟨P,hP⟩:=zE (LfP w tb B kb ub bs hi a n c f aT aS aL aE L x acc kind p (br,bq));rw [hP];have HP:=hid hP;clear hP;obtain⟨W,hW⟩:=zE (((w.alloc (Uj #[Ud br,Ud bq] 115)).alloc (Uj #[Ud 0,Ud 0] 115)).alloc (Uj #[Um ⟨#[]⟩] 225));have b0:Bl w W:=hW▸((zO _ _).alloc oP _).alloc oS _;have zW:W.heap.size=w.heap.size+1+1+1:=hW▸oP;obtain⟨m0,m1,m2,m3,m4⟩:=QiU w #[Ud br,Ud bq] #[Ud 0,Ud 0] #[Um ⟨#[]⟩] 115 115 225;rw [hW] at m0 m1 m2 m3 m4;have x0:W.cell? (Ub w.heap.size)=Uq (Ud br):=m0 0;have x1:W.cell? (Ua w.heap.size 1)=Uq (Ud bq):=m0 1;have R0:RB W (w.heap.size+1):=⟨⟨0,m1 0⟩,⟨0,m1 1⟩,⟨⟨#[]⟩,m2 0⟩,m3,m4,oM⟩;clear m0 m1 m2 m3 m4;have T0:=hT.bw b0;have H7:tb<w.heap.size:=hT.cur.lt;have Ga:ub<w.heap.size:=hT.us.lt;have HD:=hid (Qrb tb B a n c x f aT aS aL aE W hn hf T0.cur T0.seg (fun y hy=>(hT.ab y hy).1) T0.err hT.bt);have H2:=hid T0;have Ht:=hid R0;have Hs:=hid (G2.bw (tb:=tb) (ub:=ub) b0);have HS:=hid hS;have HF:=hid hf;have HZ:=hid zW;have HX:=hid (And.intro x0 x1);have Hy:=hT.bt;clear hT T0 R0 b0 hS hf zW x0 x1;go_enter func193,ntmps193;go_wp2_with fail;try rw [hW]
 clear hW;have N:tb<w.heap.size+1:=oM;have X:ub<w.heap.size+1:=oM;refine HD.mono ?_;rintro e w1 ⟨J,⟨r,q,x',j,rfl,K⟩|⟨j,r,q,t,v,y,rfl,K⟩⟩;rotate_left
 ·have HN:Hid (Qe3 f n (fun r q=>inB (L r) q q) kind p (br,bq) acc x=Up):=hid (by
   unfold rdD at j;unfold Qe3;cases h1:rd f n x 7 with
   | none=>rfl
   | some a1=>
    rw [h1] at j;simp only [YB] at j ⊢;cases h2:rd f n a1.2 1000000000 with
    | none=>rfl
    | some a2=>rw [h2] at j;cases j)
  have Hh:=hid (Hs.trans (G2.t J));have Hj:=hid (Ht.g2 (G2.t (ub:=ub) J) N X);have b:Bl w1 (w1.alloc (Uj #[Ud r,Ud q] 115)):=zO _ _;obtain⟨F,Hc⟩:=zE (w1.alloc (Uj #[Ud r,Ud q] 115));rw [Hc] at b;have Hi:=hid (Hh.trans (G2.bw b));have S:=Hj.g2 (G2.bw (tb:=tb) (ub:=ub) b) N X;obtain⟨u0,k0⟩:=S.c0;obtain⟨u1,k1⟩:=S.c1;obtain⟨u2,k2⟩:=S.c2;have M:=S.f0;have O:=S.f1;have Hk:=hid S;clear b J j K S HD;go_wp2_with fail;obtain⟨Z,z,U,Y,H,i⟩:=Hk.fill Hi oM 0 0 ⟨#[]⟩;rw [<- z];clear z;refine zF (v:=Ul #[Uo #[Ud 0,Ud 0],Uo #[Um ⟨#[]⟩],.iface t v]) (by simp [results,results193,go_sem,U,Y,H]) ?_;rw [<- HP.out];exact⟨i,.inr ⟨HN,_,_,_,_,_,rfl⟩⟩
 ·have Hr:=hid j;have T1:=H2.t J K;have H9:(r:Int)<=7/\ (q:Int)<=1000000000:=by
   unfold rdD at j;obtain⟨a1,h1,j⟩:=Qab.1 j;obtain⟨a2,h2,j⟩:=Qab.1 j;simp only [Option.some.injEq,Prod.mk.injEq] at j;obtain⟨⟨rfl,rfl⟩,_⟩:=j;exact⟨((Qav HF (V:=a1.1) (x':=a1.2)).1 h1).2.1,((Qav HF (V:=a2.1) (x':=a2.2)).1 h2).2.1⟩
  have Hh:=hid (Hs.trans (G2.t J));have Hj:=hid (Ht.g2 (G2.t (ub:=ub) J) N X);obtain⟨F,Hc⟩:=zE (w1.alloc (Uj #[Ud (r:Int),Ud (q:Int)] 115));have b:Bl w1 F:=Hc▸zO _ _;have A:F.cell? (Ub w1.heap.size)=Uq (Ud (r:Int)):=Hc▸oP;have E:F.cell? (Ua w1.heap.size 1)=Uq (Ud (q:Int)):=Hc▸oP;have dl:w1.heap.size<F.heap.size:=Hc▸oP;have Gb:w.heap.size+1+1+1<=w1.heap.size:=oJ J.size HZ;have Hi:=hid (Hh.trans (G2.bw b));have Hk:=hid (Hj.g2 (G2.bw (tb:=tb) (ub:=ub) b) N X);have Hu:=hid (T1.bw b);have y0:F.cell? (Ub w.heap.size)=Uq (Ud br):=((G2.t (ub:=ub) J).trans (G2.bw b)).cell (oH HZ) oM oM|>.trans HX.1;have y1:F.cell? (Ua w.heap.size 1)=Uq (Ud bq):=((G2.t (ub:=ub) J).trans (G2.bw b)).cell (oH HZ) oM oM|>.trans HX.2;have Hb:=hid (And.intro A E);have Hp:=hid (QdX br bq (r:Int) (q:Int) F);clear J j K T1 b HD Hh Hj;go_wp2_with fail;clear Hc A E y0 y1;refine Hp.mono ?_;rintro e w2 ⟨rfl,T⟩;have He:=hid (Hi.trans (G2.bw T));have I:=hid (Hk.g2 (G2.bw (tb:=tb) (ub:=ub) T) N X);have o:=hid (Hu.bw T);have A:=(T.cell (p:=(Ub w1.heap.size)) dl).trans Hb.1;have E:=(T.cell (p:=(Ua w1.heap.size 1)) dl).trans Hb.2;have Hw:=Ut dl T.size;obtain⟨cv,Hl⟩:=zE (Qms br bq (r:Int) (q:Int));have Hq:=hid Hl;rw [Hl];clear Hp T Hi Hk Hu Hb Hl dl;have Ha:Hid (Qe3 f n (fun r q=>inB (L r) q q) kind p (br,bq) acc x=if yes (cv<0/\ inB (L (r:Int)) (q:Int) (q:Int)=true/\ (∀y∈acc,¬(y.r=(r:Int)/\ y.q=(q:Int)))/\ acc.length≠1000)=true then(if kind=2 then Uq (⟨p,true,(r:Int),(q:Int),ByteArray.empty⟩,x') else(Qc4 f n x' 200).bind fun t=>Uq (⟨p,false,(r:Int),(q:Int),t.1⟩,t.2)) else Up):=hid (by
   have j:=Hr.out;unfold rdD at j;obtain⟨a1,h1,j⟩:=Qab.1 j;obtain⟨a2,h2,j⟩:=Qab.1 j;simp only [Option.some.injEq,Prod.mk.injEq] at j;obtain⟨⟨rfl,rfl⟩,rfl⟩:=j;unfold Qe3;rw [h1];simp only [YB];rw [h2,<- Hq.out];rfl)
  clear Hr Hq;by_cases Hl:0<=cv
  ·have HN:Hid (Qe3 f n (fun r q=>inB (L r) q q) kind p (br,bq) acc x=Up):=hid (by rw [Ha.out,Qaj (fun h=>oM)];rfl);obtain⟨ev,ge⟩:=o.err.gO;obtain⟨u0,k0⟩:=I.c0;obtain⟨u1,k1⟩:=I.c1;obtain⟨u2,k2⟩:=I.c2;have M:=I.f0;have O:=I.f1;have lo:10<w.heap.size:=Ut (Ut oD o.err.lG) (Ux Hy (YN H7));have H4:(w2.setCell (Ua (w.heap.size+1) 0) (Ud 0)).cell? (Ub 10)=Uq (.iface 363 ev):=(by rw [UF _ _ _ _ oS];exact ge);have H5:((w2.setCell (Ua (w.heap.size+1) 0) (Ud 0)).setCell (Ua (w.heap.size+1) 1) (Ud 0)).cell? (Ub 10)=Uq (.iface 363 ev):=(by rw [UF _ _ _ _ oS];exact H4);have H8:(((w2.setCell (Ua (w.heap.size+1) 0) (Ud 0)).setCell (Ua (w.heap.size+1) 1) (Ud 0)).setCell (Ua (w.heap.size+1+1) 0) (Um ⟨#[]⟩)).cell? (Ub 10)=Uq (.iface 363 ev):=(by rw [UF _ _ _ _ oS];exact H5);have Hd:w.heap.size<=w.heap.size+1:=oM;clear Ha o A E lo;go_wp2_with fail;go_region;all_goals go_wp2_with fail
   all_goals (
    obtain⟨Z,z,U,Y,H,i⟩:=I.fill He Hd 0 0 ⟨#[]⟩;rw [<- z];clear z;refine zF (v:=Ul #[Uo #[Ud 0,Ud 0],Uo #[Um ⟨#[]⟩],.iface 363 ev]) (by simp [results,results193,go_sem,U,Y,H]) ?_;rw [<- HP.out];exact⟨i.trans (G2.bw zI.drew),.inr ⟨HN,_,_,_,_,_,rfl⟩⟩)
  ·have Ho:cv<0:=oM;obtain⟨nn,D,G,H0,H6⟩:=o.grp;have zr:(Lit.int Uh (r:Int)).wf=true:=wfI oM oM;have zq:(Lit.int Uh (q:Int)).wf=true:=wfI oM oM;have HU:=hid (Qrm tb B kb ub nn a n c (x':Int) aT aS aL aE D G L acc ⟨p,decide (kind=2),(r:Int),(q:Int),ByteArray.empty⟩ w2 o.cur o.err o.lt o.us H0 HS zr zq hl);clear H0 H6 zr zq;have k:=hid (And.intro A (And.intro E Hw));go_wp2_with fail;clear A E Hw;refine HU.mono ?_;clear HU;rintro e w3 (⟨hK,Hz,Hg,rfl,us,g3⟩|⟨hN,⟨t,v,rfl⟩,b3⟩);rotate_left
   ·have HN:Hid (Qe3 f n (fun r q=>inB (L r) q q) kind p (br,bq) acc x=Up):=hid (by rw [Ha.out,Qaj (fun h=>hN h.2)];rfl);have R:=hid (He.trans (G2.bw b3));have m:=hid (I.g2 (G2.bw (tb:=tb) (ub:=ub) b3) N X);obtain⟨u0,k0⟩:=m.c0;obtain⟨u1,k1⟩:=m.c1;obtain⟨u2,k2⟩:=m.c2;have M:=m.f0;have O:=m.f1;have Hd:w.heap.size<=w.heap.size+1:=oM;clear Ha o He I hN b3 k;go_wp2_with fail;obtain⟨Z,z,U,Y,H,i⟩:=m.fill R Hd 0 0 ⟨#[]⟩;rw [<- z];clear z;refine zF (v:=Ul #[Uo #[Ud 0,Ud 0],Uo #[Um ⟨#[]⟩],.iface t v]) (by simp [results,results193,go_sem,U,Y,H]) ?_;rw [<- HP.out];exact⟨i,.inr ⟨HN,_,_,_,_,_,rfl⟩⟩
   ·have HY:Hid (Qe3 f n (fun r q=>inB (L r) q q) kind p (br,bq) acc x=if kind=2 then Uq (⟨p,true,(r:Int),(q:Int),ByteArray.empty⟩,x') else(Qc4 f n x' 200).bind fun t=>Uq (⟨p,false,(r:Int),(q:Int),t.1⟩,t.2)):=hid (by rw [Ha.out,Qal ⟨Ho,hK,Hz,Hg⟩];rfl);have C:=hid (o.u g3 us);have R:=hid (He.trans (G2.u g3));have m:=hid (I.g2 (G2.u (tb:=tb) g3) N X);have A:w3.cell? (Ub w1.heap.size)=Uq (Ud (r:Int)):=((G2.u (tb:=tb) g3).cell k.2.2 oM oM).trans k.1;have E:w3.cell? (Ua w1.heap.size 1)=Uq (Ud (q:Int)):=((G2.u (tb:=tb) g3).cell k.2.2 oM oM).trans k.2.1;have Hx:w1.heap.size<w3.heap.size:=Ut k.2.2 g3.size;have Hd:w.heap.size<=w.heap.size+1:=oM;have H1:hi<=w.heap.size+1:=oM;clear Ha o He I hK Hz Hg us g3 k;rcases hk with rfl|rfl
    ·have Hv:=hid (QpU (EX:=exT kb ub) tb B a n c x' 200 f aT aS aL aE w3 hn hnc hcc HF C.seg C.cur C.err Hy (fun y hy=>(C.ab y hy).1) oM oM);have k:=hid (And.intro A (And.intro E Hx));go_wp2_with fail;clear A E Hx;refine Hv.mono ?_;clear Hv;rintro e w4 ⟨Q,⟨s,x2,hs,rfl,K⟩|⟨hs,t,v,y,rfl,K⟩⟩
     ·have Hn:Hid (Qe3 f n (fun r q=>inB (L r) q q) 1 p (br,bq) acc x=Uq (⟨p,false,(r:Int),(q:Int),s⟩,x2)):=hid (by rw [HY.out,if_neg oD,hs];rfl);have H3:=hid ((C.t Q K).swap ⟨p,false,(r:Int),(q:Int),s⟩ rfl rfl);have Hm:=hid (R.trans (G2.t Q));have g:=hid (m.g2 (G2.t (ub:=ub) Q) N X);have A:w4.cell? (Ub w1.heap.size)=Uq (Ud (r:Int)):=((G2.t (ub:=ub) Q).cell k.2.2 oM oM).trans k.1;have E:w4.cell? (Ua w1.heap.size 1)=Uq (Ud (q:Int)):=((G2.t (ub:=ub) Q).cell k.2.2 oM oM).trans k.2.1;obtain⟨u0,k0⟩:=g.c0;obtain⟨u1,k1⟩:=g.c1;obtain⟨u2,k2⟩:=g.c2;have M:=g.f0;have O:=g.f1;clear HY C R m hs K Q k;go_wp2_with fail;obtain⟨Z,z,U,Y,H,i⟩:=g.fill Hm Hd (r:Int) (q:Int) s;have Hf:=H3.fill H1 (r:Int) (q:Int) s;rw [<- z] at Hf ⊢;clear z;refine zF (v:=Ul #[Uo #[Ud (r:Int),Ud (q:Int)],Uo #[Um s],.nilIface]) (by simp [results,results193,go_sem,U,Y,H]) ?_;rw [<- HP.out];exact⟨i,.inl ⟨_,_,Hn,rfl,Hf⟩⟩
     ·have Hn:Hid (Qe3 f n (fun r q=>inB (L r) q q) 1 p (br,bq) acc x=Up):=hid (by rw [HY.out,if_neg oD,hs];rfl);have Hm:=hid (R.trans (G2.t Q));have g:=hid (m.g2 (G2.t (ub:=ub) Q) N X);have A:w4.cell? (Ub w1.heap.size)=Uq (Ud (r:Int)):=((G2.t (ub:=ub) Q).cell k.2.2 oM oM).trans k.1;have E:w4.cell? (Ua w1.heap.size 1)=Uq (Ud (q:Int)):=((G2.t (ub:=ub) Q).cell k.2.2 oM oM).trans k.2.1;obtain⟨u0,k0⟩:=g.c0;obtain⟨u1,k1⟩:=g.c1;obtain⟨u2,k2⟩:=g.c2;have M:=g.f0;have O:=g.f1;clear HY C R m hs K Q k;go_wp2_with fail;obtain⟨Z,z,U,Y,H,i⟩:=g.fill Hm Hd (r:Int) (q:Int) ⟨#[]⟩;rw [<- z];clear z;refine zF (v:=Ul #[Uo #[Ud (r:Int),Ud (q:Int)],Uo #[Um ⟨#[]⟩],.iface t v]) (by simp [results,results193,go_sem,U,Y,H]) ?_;rw [<- HP.out];exact⟨i,.inr ⟨Hn,_,_,_,_,_,rfl⟩⟩
    ·obtain⟨u0,k0⟩:=m.c0;obtain⟨u1,k1⟩:=m.c1;obtain⟨u2,k2⟩:=m.c2;have M:=m.f0;have O:=m.f1;go_wp2_with fail;obtain⟨Z,z,U,Y,H,i⟩:=m.fill R Hd (r:Int) (q:Int) ⟨#[]⟩;have Hf:=C.fill H1 (r:Int) (q:Int) ⟨#[]⟩;rw [<- z] at Hf ⊢;clear z;refine zF (v:=Ul #[Uo #[Ud (r:Int),Ud (q:Int)],Uo #[Um ⟨#[]⟩],.nilIface]) (by simp [results,results193,go_sem,U,Y,H]) ?_;rw [<- HP.out];exact⟨i,.inl ⟨_,_,HY,rfl,Hf⟩⟩
def NxP (EX:Nat ->Option Value)(f:Nat ->Int)(n x:Nat)(cb:Nat)(a:Option Us)(c:Nat)(w:Ur)(e:Ending)(w':Ur):Prop:=w.grownBy w' (Uq cb)/\
 ((x<n/\ e=Ui (Ul #[Ug .u8 (f x),.nilIface])/\ Cur EX w' cb a n c ((x+1:Nat):Int)) \/
  (¬x<n/\∃(t:TypeId) (v:Value),e=Ui (Ul #[Ug .u8 0,.iface t v])/\ Cur EX w' cb a n c (x:Int)))
theorem QqA {EX:Nat ->Option Value}(cb B:Nat)(a:Option Us)(n c x:Nat)(f:Nat ->Int)(aT aS aL aE:Us)(w:Ur)(hn:n<=1048576)(hs:Seg w a n f)(hcur:Cur EX w cb a n c (x:Int))(hE:QcL w B aT aS aL aE):
  Cl 190 #[Uk (Uc cb)] w fun e w'=>NxP EX f n x cb a c w e w':=by
 by_cases j:x<n
 ·rcases hs with h|⟨b,off,rfl,q,m⟩
  ·omega
  refine(Qki cb b off n c x (f x) w hn hcur j (m x j)).mono ?_;rintro e w' ⟨rfl,k,g⟩;exact⟨g,.inl ⟨j,rfl,k⟩⟩
 ·refine(QfE cb a n c (x:Int) aE w hn hcur (.inr oM) hE.gE).mono ?_;rintro e w' ⟨rfl,b⟩;exact⟨Qag ⟨rfl,rfl,rfl,Uu _,fun _ _ _=>rfl⟩ b,.inr ⟨j,_,_,rfl,hcur.bw b hcur.lt⟩⟩
noncomputable def QiZ (f:Nat ->Int)(n x:Nat):Option (Ky×Nat):=(Qc4 f n x 40).bind fun a=>if yes (a.1.size≠0/\ a.2<n)=true then Uq ((a.1,f a.2),a.2+1) else Up
theorem Qky (f:Nat ->Int)(n:Nat)(before:Ky)(x:Nat):Qgd f n before x=(QiZ f n x).bind fun a=>if yes (Qb9 before a.1<0)=true then Uq a else Up:=by
 unfold Qgd QiZ;cases h:Qc4 f n x 40 with
 | none=>rfl
 | some a=>
  simp only [YB];by_cases j:a.1.size≠0/\ a.2<n
  ·rw [Qal j];simp only [if_true,YB];by_cases k:Qb9 before (a.1,f a.2)<0
   ·rw [Qal k,Qal ⟨j.1,j.2,k⟩]
   ·rw [Qaj k,Qaj (fun h=>k h.2.2)]
  ·rw [Qaj j,Qaj (fun h=>j ⟨h.1,h.2.1⟩)];rfl
structure KB (v:Ur)(b:Nat):Prop where
 c0:∃u,v.cell? (Ub b)=Uq (Um u)
 c1:∃u,v.cell? (Ua b 1)=Uq (Ud u)
 f0:∀i,v.frozen? (Ua b i)=false
 lt:b<v.heap.size
theorem KB.q2 {v:Ur}{b:Nat}(h:KB v b):(∃u,v.cell? (Ub b)=Uq (Um u))/\ (∃u,v.cell? (Ua b 1)=Uq (Ud u)):=⟨h.c0,h.c1⟩
section
variable {w v v' : Ur} {tb B : Nat}
theorem KB.made (w:Ur)(u:ByteArray)(i:Int)(t:TypeId):KB (w.alloc (Uj #[Um u,Ud i] t)) w.heap.size:=
 ⟨⟨u,oP⟩,⟨i,oP⟩,fun i=>by rw [UK _ _ _ _ rfl],oP⟩
theorem KB.gr {b:Nat}(h:KB v b)(g:v.grownBy v' (Uq tb))(h1:b≠tb):KB v' b:=by
 have l:=h.lt;have e:=g.block b l (fun e=>h1 (by injection e));obtain⟨k,k0⟩:=h.c0;obtain⟨m,j⟩:=h.c1;exact⟨⟨k,(UB (a:=(Ub b)) e).trans k0⟩,⟨m,(UB (a:=(Ua b 1)) e).trans j⟩,fun i=>(Ys (a:=(Ua b i)) e).trans (h.f0 i),Ut l g.size⟩
theorem KB.fill {b:Nat}(h:KB v b)(g:w.grownBy v (Uq tb))(hb:w.heap.size<=b)(s:ByteArray)(i:Int):
  ∃Z,Z=(v.setCell (Ub b) (Um s)).setCell (Ua b 1) (Ud i)/\ Z.cell? (Ub b)=Uq (Um s)/\ Z.cell? (Ua b 1)=Uq (Ud i)/\ w.grownBy Z (Uq tb)/\∀k,k≠b ->Z.heap[k]? =v.heap[k]? :=by
 obtain⟨q,k0⟩:=h.c0;obtain⟨r,m⟩:=h.c1;have j:∀k,k≠b ->((v.setCell (Ub b) (Um s)).setCell (Ua b 1) (Ud i)).heap[k]? =v.heap[k]? :=fun k hk=>(zH _ _ _ _ oS).trans (zH _ _ _ _ oS);refine⟨_,rfl,?_,?_,⟨g.os,g.tape,g.output,by simpa [UC] using g.size,fun k hk hne=>(j k oM).trans (g.block k hk hne)⟩,j⟩
 ·rw [UI _ _ _ _ oP];exact UH _ _ _ k0
 ·exact UH _ _ _ (by rw [UI _ _ _ _ oP];exact m)
end
def NkP (EX:Nat ->Option Value)(f:Nat ->Int)(n x:Nat)(cb:Nat)(a:Option Us)(c:Nat)(w:Ur)(e:Ending)(w':Ur):Prop:=w.grownBy w' (Uq cb)/\
 ((∃y x',QiZ f n x=Uq (y,x')/\ e=Ui (Ul #[Uo #[Um y.1,Ud y.2],.nilIface])/\ Cur EX w' cb a n c ((x':Nat):Int)) \/
  (QiZ f n x=Up/\∃(t:TypeId) (v:Value) (y:Int),e=Ui (Ul #[Uo #[Um ⟨#[]⟩,Ud 0],.iface t v])/\ Cur EX w' cb a n c y))
theorem Qg8 {EX:Nat ->Option Value}(tb B:Nat)(a:Option Us)(n c:Nat)(f:Nat ->Int)(aT aS aL aE:Us)(x:Nat)(w:Ur)(hn:n<=1048576)(hnc:n<=c)(hcc:c<=9223372036854775807)(hf:Byt f)
  (i:Seg w a n f) (hcur:Cur EX w tb a n c (x:Int)) (hE:QcL w B aT aS aL aE) (hbt:B<=tb) (hab:∀y,a=Uq y ->y.block≠tb):
  Cl 167 #[Uk (Uc tb)] w fun e w'=>NkP EX f n x tb a c w e w':=by
 obtain⟨P,hP⟩:=zE (NkP EX f n x tb a c w);rw [hP];have J:=hid hP;clear hP;obtain⟨W,X⟩:=zE (w.alloc (Uj #[Um ⟨#[]⟩,Ud 0] 230));have u:Bl w W:=X▸zO _ _;have K:Hid (KB W w.heap.size):=hid (X▸KB.made _ _ _ _);have Ha:=hcur.lt;have I:Hid (w.grownBy W (Uq tb)):=hid ⟨u.os,u.tape,u.output,u.size,fun k hk _=>u.block k hk⟩;have G:=hid (hcur.bw u hcur.lt);have L:=hid (i.bw u);have H:=hid (hE.bw (u.mono (Ux hbt (YN Ha))));have HT:=hid (QpU (EX:=EX) tb B a n c x 40 f aT aS aL aE W hn hnc hcc hf L G H hbt hab oM oM);have HF:=hid hf;have z:w.heap.size≠tb:=oM;have C:w.heap.size<=w.heap.size:=Uu _;clear i hcur hE hf u;go_enter func167,ntmps167;go_wp2_with fail;try rw [X]
 clear X;refine HT.mono ?_;clear HT;rintro e w1 ⟨o,⟨s,U,i,rfl,m⟩|⟨i,t,v,y,rfl,m⟩⟩
 ·have p:=hid (I.trans o);have j:=hid (K.gr o z);have b:=hid m;have V:=hid (H.grown o hbt G.lt);have R:=hid (L.grown o hab);have S:=hid i;clear o i m I K G L H;by_cases N:s=⟨#[]⟩
  ·subst N;have Y:Hid (QiZ f n x=Up):=hid (by unfold QiZ;rw [S.out];simp only [YB];rw [Qaj (fun h=>h.1 rfl)];rfl);obtain⟨T,ge⟩:=V.x2;have lo:11<w.heap.size:=Ut (Ut oD V.lG) (Ux hbt (YN Ha));obtain⟨u0,k0⟩:=j.c0;obtain⟨u1,k1⟩:=j.c1;have A:=j.f0;have Hb:(w1.setCell (Ub w.heap.size) (Um ⟨#[]⟩)).cell? (Ub 11)=Uq (.iface 363 T):=(by rw [UF _ _ _ _ oS];exact ge);have Hf:((w1.setCell (Ub w.heap.size) (Um ⟨#[]⟩)).setCell (Ua w.heap.size 1) (Ud 0)).cell? (Ub 11)=Uq (.iface 363 T):=(by rw [UF _ _ _ _ oS];exact Hb);clear lo;go_wp2_with fail;go_region;all_goals go_wp2_with fail
   all_goals (
    obtain⟨Z,q,M,O,E,g⟩:=j.fill p C ⟨#[]⟩ 0;rw [<- q];clear q;refine zF (v:=Ul #[Uo #[Um ⟨#[]⟩,Ud 0],.iface 363 T]) (by simp [results,results167,go_sem,M,O]) ?_;rw [<- J.out];exact⟨Qag E zI.drew,.inr ⟨Y,_,_,_,rfl,(b.at' (g tb (Ne.symm z))).bw zI.drew (b.at' (g tb (Ne.symm z))).lt⟩⟩)
  ·have Hc:s.toList.isEmpty=false:=by
    cases e:s.toList.isEmpty with
    | false=>rfl
    | true=>exact absurd (QdZ.1 e) N
   have HX:=hid (QqA (EX:=EX) tb B a n c U f aT aS aL aE w1 hn R b V);have hz:s.size≠0:=fun e=>N (by
    obtain⟨d⟩:=s;have:d=#[]:=Array.eq_empty_of_size_eq_zero e;rw [this])
   go_wp2_with fail;refine HX.mono ?_;clear HX Hc N;rintro e w2 ⟨Q,⟨hx,rfl,m⟩|⟨hx,t,v,rfl,m⟩⟩
   ·have HY:Hid (QiZ f n x=Uq ((s,f U),U+1)):=hid (by unfold QiZ;rw [S.out];simp only [YB];rw [Qal ⟨hz,hx⟩];rfl);have F:=hid (p.trans Q);have r:=hid (j.gr Q z);have D:=hid m;obtain⟨u0,k0⟩:=r.c0;obtain⟨u1,k1⟩:=r.c1;have A:=r.f0;obtain⟨Hd,He⟩:=HF U;clear Q m p j b R V;go_wp2_with fail;obtain⟨Z,q,M,O,E,g⟩:=r.fill F C s (f U);try rw [<- q]
    clear q;refine zF (v:=Ul #[Uo #[Um s,Ud (f U)],.nilIface]) (by simp [results,results167,go_sem,M,O]) ?_;rw [<- J.out];exact⟨E,.inl ⟨_,_,HY,rfl,D.at' (g tb (Ne.symm z))⟩⟩
   ·have Y:Hid (QiZ f n x=Up):=hid (by unfold QiZ;rw [S.out];simp only [YB];rw [Qaj (fun h=>hx h.2)];rfl);have F:=hid (p.trans Q);have r:=hid (j.gr Q z);have D:=hid m;obtain⟨u0,k0⟩:=r.c0;obtain⟨u1,k1⟩:=r.c1;have A:=r.f0;clear Q m p j b R V;go_wp2_with fail;obtain⟨Z,q,M,O,E,g⟩:=r.fill F C ⟨#[]⟩ 0;rw [<- q];clear q;refine zF (v:=Ul #[Uo #[Um ⟨#[]⟩,Ud 0],.iface t v]) (by simp [results,results167,go_sem,M,O]) ?_;rw [<- J.out];exact⟨E,.inr ⟨Y,_,_,_,rfl,D.at' (g tb (Ne.symm z))⟩⟩
 ·have Y:Hid (QiZ f n x=Up):=hid (by unfold QiZ;rw [i];rfl);have p:=hid (I.trans o);have j:=hid (K.gr o z);have b:=hid m;obtain⟨u0,k0⟩:=j.c0;obtain⟨u1,k1⟩:=j.c1;have A:=j.f0;clear o i m I K G L H;go_wp2_with fail;obtain⟨Z,q,M,O,E,g⟩:=j.fill p C ⟨#[]⟩ 0;rw [<- q];clear q;refine zF (v:=Ul #[Uo #[Um ⟨#[]⟩,Ud 0],.iface t v]) (by simp [results,results167,go_sem,M,O]) ?_;rw [<- J.out];exact⟨E,.inr ⟨Y,_,_,_,rfl,b.at' (g tb (Ne.symm z))⟩⟩
theorem Qgn (x y:Ky)(w:Ur):Cl 161 #[Uo #[Um x.1,Ud x.2],Uo #[Um y.1,Ud y.2]] w fun e w'=>e=Ui (Ud (Qb9 x y))/\ Bw w w':=by
 obtain⟨s,k⟩:=x;obtain⟨q,m⟩:=y;dsimp only;obtain⟨W,u⟩:=zE ((w.alloc (Uj #[Um s,Ud k] 230)).alloc (Uj #[Um q,Ud m] 230));have b:Bw w W:=by rw [<- u];exact⟨Qak _ _ _,Uu _⟩
 have t:Bx2 W w.heap.size (Um s) (Ud k):=u▸(Bx2.made w _ _ _).allocs _;have o:Bx2 W (w.heap.size+1) (Um q) (Ud m):=by rw [<- u];simpa using Bx2.made (w.alloc (Uj #[Um s,Ud k] 230)) (Um q) (Ud m) 230
 have v:=hid b;have h:=hid t;have g:=hid o;clear b t o;go_enter func161,ntmps161;go_wp2_with fail;try rw [u]
 clear u;have z:Hid (∀w',Bw W w' ->(Bw W w'/\ w'.cell? (Ub w.heap.size)=Uq (Um s)/\ w'.cell? (Ua w.heap.size 1)=Uq (Ud k)/\ w'.cell? (Ua (w.heap.size+1) 0)=Uq (Um q)/\ w'.cell? (Ua (w.heap.size+1) 1)=Uq (Ud m))):=hid (fun w' r=>by
  have x0:=h.bw r.1 h.lt;have p:=g.bw r.1 g.lt;exact⟨r,x0.c0,x0.c1,p.c0,p.c1⟩)
 refine zA z ⟨zI.drew,UA _⟩ (fun qh=> ?_);refine tZ 0 5 ?_;refine tZ 1 6 ?_;refine tZ 2 7 ?_;refine tZ 3 8 ?_;refine tZ 5 10 ?_;refine tZ 6 11 ?_;refine tZ 7 12 ?_;refine tZ 8 13 ?_;refine cZ 4 ?_;intro K j;go_simp;refine(Qjp s q _).mono ?_;rintro e w1 ⟨rfl,rfl⟩;refine j.out _ _ qh (fun qh=> ?_);clear j K;try simp only [zP]
 refine cZ 9 ?_;intro K j;go_simp;refine(Qcb k m _).mono ?_;rintro e w2 ⟨rfl,rfl⟩;refine j.out _ _ qh (fun qh=> ?_);clear j K;try simp only [zP]
 refine cZ 10 ?_;intro K j;go_simp;have r:Bw W (W.drew.alloc (Uj #[Ud (QbM s q),Ud (QaV k m)] 3)):=⟨qh.1.1.alloc qh.1.1.size _,qh.1.2⟩;refine j.out _ _ (z _ r) (fun qh=> ?_);clear j K;try simp only [zP]
 refine cZ 11 ?_;intro K j;go_simp;refine(Qjn _ 2 2 (fun i=>if i=0 then QbM s q else QaV k m) _ oM (fun i hi=> ?_)).mono ?_
 ·match i,hi with
  | 0,_=>simp
  | 1,_=>simp
 rintro e E ⟨rfl,rfl⟩;refine j.out _ _ qh (fun qh=> ?_);clear j K;try simp only [zP]
 refine tZ 12 4 ?_;refine zD ?_;have A:Hid (Bw w (W.drew.alloc (Uj #[Ud (QbM s q),Ud (QaV k m)] 3))):=hid ⟨v.1.trans (qh.1.1.mono v.1.size),Ux v.2 qh.1.2⟩;clear qh r;go_wp2_with fail;go_ret;exact⟨QbG nz2,A⟩
def KyP (EX:Nat ->Option Value)(f:Nat ->Int)(n x:Nat)(before:Ky)(cb:Nat)(a:Option Us)(c:Nat)(w:Ur)(e:Ending)(w':Ur):Prop:=w.grownBy w' (Uq cb)/\
 ((∃y x',Qgd f n before x=Uq (y,x')/\ e=Ui (Ul #[Uo #[Um y.1,Ud y.2],.nilIface])/\ Cur EX w' cb a n c ((x':Nat):Int)) \/
  (Qgd f n before x=Up/\∃(t:TypeId) (v:Value),e=Ui (Ul #[Uo #[Um ⟨#[]⟩,Ud 0],.iface t v])))
theorem Qrg {EX:Nat ->Option Value}(tb B:Nat)(a:Option Us)(n c:Nat)(f:Nat ->Int)(aT aS aL aE:Us)(x:Nat)(bs:ByteArray)(bk:Int)(w:Ur)(hn:n<=1048576)(hnc:n<=c)(hcc:c<=9223372036854775807)(hf:Byt f)
  (g:Seg w a n f) (hcur:Cur EX w tb a n c (x:Int)) (hE:QcL w B aT aS aL aE) (hbt:B<=tb) (hab:∀y,a=Uq y ->y.block≠tb):
  Cl 150 #[Uk (Uc tb),Uo #[Um bs,Ud bk]] w fun e w'=>KyP EX f n x (bs,bk) tb a c w e w':=by
 obtain⟨P,hP⟩:=zE (KyP EX f n x (bs,bk) tb a c w);rw [hP];have F:=hid hP;clear hP;obtain⟨W,A⟩:=zE ((w.alloc (Uj #[Um bs,Ud bk] 230)).alloc (Uj #[Um ⟨#[]⟩,Ud 0] 230));have r:Bl w W:=A▸Qak _ _ _;have zW:W.heap.size=w.heap.size+1+1:=A▸oP;have X0:Bx2 W w.heap.size (Um bs) (Ud bk):=A▸(Bx2.made w _ _ _).allocs _;have L:Hid (KB W (w.heap.size+1)):=hid (by rw [<- A];simpa using KB.made (w.alloc (Uj #[Um bs,Ud bk] 230)) ⟨#[]⟩ 0 230);have Hi:=hcur.lt;have K:Hid (w.grownBy W (Uq tb)):=hid ⟨r.os,r.tape,r.output,r.size,fun k hk _=>r.block k hk⟩;have E:=hid (hcur.bw r hcur.lt);have R:=hid (g.bw r);have J:=hid (hE.bw (r.mono (Ux hbt (YN Hi))));have HT:=hid (Qg8 (EX:=EX) tb B a n c f aT aS aL aE x W hn hnc hcc hf R E J hbt hab);have Hj:=E.2.1;have b:=hid X0;have HZ:=hid zW;have G:w.heap.size+1≠tb:=oM;have Hb:w.heap.size≠tb:=oM;have Hc:w.heap.size<=w.heap.size+1:=oM;clear g hcur hE hf r X0 zW;go_enter func150,ntmps150;go_wp2_with fail;try rw [A]
 clear A Hj;refine HT.mono ?_;clear HT;rintro e w1 ⟨p,⟨y,x1,g,rfl,U⟩|⟨g,t,v,y,rfl,U⟩⟩
 ·have Q:Hid (Qgd f n (bs,bk) x=if yes (Qb9 (bs,bk) y<0)=true then Uq (y,x1) else Up):=hid (by rw [Qky,g];rfl);obtain⟨s,k⟩:=y;dsimp only;obtain⟨X,Ha⟩:=zE (w1.alloc (Uj #[Um s,Ud k] 230));have j:Bl w1 X:=Ha▸zO _ _;have z:=Qag p j;have o:=hid (K.trans z);have m:=hid (L.gr z G);have S:Bx2 X w1.heap.size (Um s) (Ud k):=Ha▸Bx2.made _ _ _ _;have Hg:=HZ.out;have Hh:=p.size;have X1:Bx2 X w.heap.size (Um bs) (Ud bk):=by
   have e:=z.block w.heap.size oM (fun e=>Hb (by injection e));exact⟨(UB (a:=(Ub w.heap.size)) e).trans b.c0,(UB (a:=(Ua w.heap.size 1)) e).trans b.c1,fun i=>(Ys (a:=(Ua w.heap.size i)) e).trans (b.f i),Ut b.lt z.size⟩
  have M:=hid (U.bw j U.lt);have Hd:=hid ((J.grown p hbt E.lt).bw (j.mono oM));have HK:=hid (Qgn (bs,bk) (s,k) X);obtain⟨y0,y1⟩:=S.q2;obtain⟨z0,z1⟩:=X1.q2;have N:=hid S;clear p z g U K L E R J b j S X1 Hg Hh;go_wp2_with fail;clear Ha y0 y1 z0 z1;refine HK.mono ?_;rintro e w2 ⟨rfl,u,_⟩;obtain⟨cv,He⟩:=zE (Qb9 (bs,bk) (s,k));rw [He] at Q ⊢;have C:=hid (Hd.bw (u.mono (Ux hbt (YN M.lt))));clear HK He Hd;by_cases hc:0<=cv
  ·have O:Hid (Qgd f n (bs,bk) x=Up):=hid (by rw [Q.out,Qaj oM];rfl);obtain⟨ev,ge⟩:=C.gO;have j:Bl w2 (w2.alloc (Uj #[Um ⟨#[107,101,121]⟩,Ud (x:Int),.iface 363 ev] 216)):=zO _ _;have D:=hid (Qag (Qag o u) j);have q:=hid (m.gr (Qag (Qag ⟨rfl,rfl,rfl,Uu _,fun _ _ _=>rfl⟩ u) j) G);obtain⟨u0,k0⟩:=q.c0;obtain⟨u1,k1⟩:=q.c1;have V:=q.f0;clear o m M N C Q j u;go_wp2_with fail;obtain⟨Z,h,H,I,Y,T⟩:=q.fill D Hc ⟨#[]⟩ 0;rw [<- h];clear h;refine zF (v:=Ul #[Uo #[Um ⟨#[]⟩,Ud 0],.iface 214 (Uk (Uc w2.heap.size))]) (by simp [results,results150,go_sem,H,I]) ?_;rw [<- F.out];exact⟨Y,.inr ⟨O,_,_,rfl⟩⟩
  ·have O:Hid (Qgd f n (bs,bk) x=Uq ((s,k),x1)):=hid (by rw [Q.out,Qal oM];rfl);have D:=hid (Qag o u);have q:=hid (m.gr (tb:=tb) (Qag ⟨rfl,rfl,rfl,Uu _,fun _ _ _=>rfl⟩ u) G);have Hf:=hid (M.bw u M.lt);have Y3:=N.bw u N.lt;obtain⟨y0,y1⟩:=Y3.q2;obtain⟨u0,k0⟩:=q.c0;obtain⟨u1,k1⟩:=q.c1;have V:=q.f0;clear o m M N C Q u Y3;go_wp2_with fail;obtain⟨Z,h,H,I,Y,T⟩:=q.fill D Hc s k;rw [<- h];clear h;refine zF (v:=Ul #[Uo #[Um s,Ud k],.nilIface]) (by simp [results,results150,go_sem,H,I]) ?_;rw [<- F.out];exact⟨Y,.inl ⟨_,_,O,rfl,Hf.at' (T tb (Ne.symm G))⟩⟩
 ·have O:Hid (Qgd f n (bs,bk) x=Up):=hid (by rw [Qky,g];rfl);have j:Bl w1 ((w1.alloc (Uj #[Um ⟨#[]⟩,Ud 0] 230)).alloc (Uj #[Um ⟨#[107,101,121]⟩,Ud (x:Int),.iface t v] 216)):=Qak _ _ _;have z:=Qag p j;have o:=hid (K.trans z);have m:=hid (L.gr z G);obtain⟨u0,k0⟩:=m.c0;obtain⟨u1,k1⟩:=m.c1;have V:=m.f0;clear p z g U K L E R J b j;go_wp2_with fail;obtain⟨Z,h,H,I,Y,T⟩:=m.fill o Hc ⟨#[]⟩ 0;rw [<- h];clear h;refine zF (v:=Ul #[Uo #[Um ⟨#[]⟩,Ud 0],.iface 214 (Uk (Uq (Ua (w1.heap.size+1) 0)))]) (by simp [results,results150,go_sem,H,I]) ?_;rw [<- F.out];exact⟨Y,.inr ⟨O,_,_,rfl⟩⟩
section
variable {w w' v v' : Ur} {tb B kb ub bs hi : Nat} {a : Option Us} {n c : Nat} {f : Nat -> Int} {aT aS aL aE : Us} {L : Int -> List (Int × Int)} {x x' : Int} {acc acc' : List Lf}
theorem TS.gr (h:TS w tb B kb ub bs hi a n c f aT aS aL aE L x acc){b:Nat}(g:w.grownBy w' (Uq b))(hb:hi<=b):TS w' tb B kb ub bs hi a n c f aT aS aL aE L x acc:=by
 obtain⟨u,D,G,m,j⟩:=h.grp;have v:=h.tl;have z:=h.ul;have t:=h.kl;have o:=h.kh;have i:=h.bt;have q:Below B w w':=⟨g.os,g.tape,g.output,g.size,fun k hk=>g.block k (oH h.lt) (fun e=>oI e)⟩;exact⟨h.cur.at' (g.block tb h.cur.lt (fun e=>oI e)),h.seg.grown g (fun y hy=>oH ((h.ab y hy).2.2)),h.err.bw q,h.us.same (g.block ub h.us.lt (fun e=>oI e)),⟨u,D,G,m.gr g (fun e=>oI e) (fun r k hk e=>by injection e with e;have:=(j r k hk).2;omega),j⟩,h.ab,h.ne,h.bt,h.bu,h.tl,h.ul,h.kl,h.kh⟩
theorem G2.gr (h:G2 tb ub w v){b:Nat}(g:v.grownBy v' (Uq b))(hb:w.heap.size<=b):G2 tb ub w v':=
 ⟨g.os.trans h.os,g.tape.trans h.tape,g.output.trans h.output,Ux h.size g.size,fun k hk h1 h2=>(g.block k (Ut hk h.size) (fun e=>oI e)).trans (h.block k hk h1 h2)⟩
structure NB (v:Ur)(b:Nat):Prop where
 c0:∃u,v.cell? (Ub b)=Uq (.map u)
 c1:∃u,v.cell? (Ua b 1)=Uq (.map u)
 f0:∀i,v.frozen? (Ua b i)=false
 lt:b<v.heap.size
theorem NB.q2 {v:Ur}{b:Nat}(h:NB v b):(∃u,v.cell? (Ub b)=Uq (.map u))/\ (∃u,v.cell? (Ua b 1)=Uq (.map u)):=⟨h.c0,h.c1⟩
theorem NB.made (w:Ur)(t:TypeId):NB (w.alloc (Uj #[.map Up,.map Up] t)) w.heap.size:=
 ⟨⟨Up,oP⟩,⟨Up,oP⟩,fun i=>by rw [UK _ _ _ _ rfl],oP⟩
theorem NB.same {b:Nat}(h:NB v b)(e:v'.heap[b]? =v.heap[b]?)(hz:v.heap.size<=v'.heap.size):NB v' b:=by
 obtain⟨k,k0⟩:=h.c0;obtain⟨m,j⟩:=h.c1;exact⟨⟨k,(UB (a:=(Ub b)) e).trans k0⟩,⟨m,(UB (a:=(Ua b 1)) e).trans j⟩,fun i=>(Ys (a:=(Ua b i)) e).trans (h.f0 i),Ut h.lt hz⟩
theorem NB.g2 {b:Nat}(h:NB v b)(g:G2 tb ub v v')(h1:b≠tb)(h2:b≠ub):NB v' b:=h.same (g.block b h.lt h1 h2) g.size
theorem NB.fill {b:Nat}(h:NB v b)(g:G2 tb ub w v)(hb:w.heap.size<=b)(s s':Option Nat):
  ∃Z,Z=(v.setCell (Ub b) (.map s)).setCell (Ua b 1) (.map s')/\ Z.cell? (Ub b)=Uq (.map s)/\ Z.cell? (Ua b 1)=Uq (.map s')/\ G2 tb ub w Z/\ (∀k,k≠b ->Z.heap[k]? =v.heap[k]?)/\ v.grownBy Z (Uq b):=by
 obtain⟨q,k0⟩:=h.c0;obtain⟨r,m⟩:=h.c1;have j:∀k,k≠b ->((v.setCell (Ub b) (.map s)).setCell (Ua b 1) (.map s')).heap[k]? =v.heap[k]? :=fun k hk=>(zH _ _ _ _ oS).trans (zH _ _ _ _ oS);refine⟨_,rfl,?_,?_,(g.set _ _ hb).set _ _ hb,j,⟨rfl,rfl,rfl,by simp [UC],fun k hk hne=>j k (fun e=>hne (by rw [e]))⟩⟩
 ·rw [UI _ _ _ _ oP];exact UH _ _ _ k0
 ·exact UH _ _ _ (by rw [UI _ _ _ _ oP];exact m)
end
noncomputable def lsM (l:List Lf):Dt ->Option ByteArray:=l.foldl (fun g z=>QbX g (z.r,z.q) (Uq z.v)) (fun _=>Up)
theorem QnS (l:List Lf)(z:Lf):lsM (l++[z])=QbX (lsM l) (z.r,z.q) (Uq z.v):=by simp [lsM]
noncomputable def Qhy (f:Nat ->Int)(n:Nat)(K:Int ->Int ->Bool)(kind:Int)(p:List ByteArray)(acc:List Lf)(x:Nat):Option (List Lf×Nat):=(rd f n x 1000).bind fun a=>if a.1=0 then Up else Qhx f n K kind p a.1 (0,0) acc a.2
def LvP (w:Ur)(tb B kb ub bs hi:Nat)(a:Option Us)(n c:Nat)(f:Nat ->Int)(aT aS aL aE:Us)(L:Int ->List (Int×Int))(x:Nat)(acc:List Lf)(kind:Int)(p:List ByteArray)(e:Ending)(w':Ur):Prop:=G2 tb ub w w'/\
 ((∃(l:List Lf) (x' s s':Nat),Qhy f n (fun r q=>inB (L r) q q) kind p acc x=Uq (acc++l,x')/\ e=Ui (Ul #[Uo #[.map (Uq s),.map (Uq s')],.nilIface])/\ TS w' tb B kb ub bs hi a n c f aT aS aL aE L ((x':Nat):Int) (acc++l)/\ (acc++l).length<=1000/\
   s≠s'/\ w.heap.size<=s/\ w.heap.size<=s'/\ Qa1 w' 230 (α:=Ky) QaE Qbd s 0 (fun _=>Up)/\ Qa1 w' 115 (α:=Dt) dtV Qb2 s' l.length (lsM l)) \/
  (Qhy f n (fun r q=>inB (L r) q q) kind p acc x=Up/\∃t v,e=Ui (Ul #[Uo #[.map Up,.map Up],.iface t v])))
theorem Qk0(hf:Byt f){K:Int ->Int ->Bool}{kind:Int}{before:Dt}{x:Nat}{z:Lf}(h:Qe3 f n K kind p before acc x=Uq (z,x')):0<=z.r/\ z.r<=7/\ 0<=z.q/\ z.q<=1000000000/\ acc.length≠1000:=by
 unfold Qe3 at h;obtain⟨j,y,h⟩:=Qab.1 h;obtain⟨k,g,h⟩:=Qab.1 h;have m:=((Qav hf (V:=j.1) (x':=j.2)).1 y).2.1;have u:=((Qav hf (V:=k.1) (x':=k.2)).1 g).2.1;split at h
 ·rename_i hy;have v:acc.length≠1000:=by
   intro e;rw [Qaj (fun hh=>hh.2.2.2 e)] at hy;cases hy
  split at h
  ·simp only [Option.some.injEq,Prod.mk.injEq] at h;obtain⟨rfl,_⟩:=h;exact⟨oP,m,oP,u,v⟩
  ·obtain⟨t,_,h⟩:=Qab.1 h;simp only [Option.some.injEq,Prod.mk.injEq] at h;obtain⟨rfl,_⟩:=h;exact⟨oP,m,oP,u,v⟩
 ·cases h
theorem QnQ (tb B kb ub bs hi:Nat)(a:Option Us)(n c:Nat)(f:Nat ->Int)(aT aS aL aE:Us)(L:Int ->List (Int×Int))(x:Nat)(acc:List Lf)(kind:Int)(p:List ByteArray)(w:Ur)(hn:n<=1048576)(hnc:n<=c)(hcc:c<=9223372036854775807)(hf:Byt f)(hk:kind=1 \/kind=2)
  (g:TS w tb B kb ub bs hi a n c f aT aS aL aE L (x:Int) acc) (hhi:hi<=w.heap.size) (hS:∀r,Srt (L r)/\ (L r).length<=1000000) (hl:acc.length<=1000):
  Cl 168 #[Uk (Uc tb),Ud kind] w fun e w'=>LvP w tb B kb ub bs hi a n c f aT aS aL aE L x acc kind p e w':=by
 obtain⟨P,hP⟩:=zE (LvP w tb B kb ub bs hi a n c f aT aS aL aE L x acc kind p);rw [hP];have HP:=hid hP;clear hP;obtain⟨W,hW⟩:=zE (w.alloc (Uj #[.map Up,.map Up] 172));have b0:Bl w W:=hW▸zO _ _;have zW:W.heap.size=w.heap.size+1:=hW▸oP;have Hl:Hid (NB W w.heap.size):=hid (hW▸NB.made _ _);have Hb:=hid (g.bw b0);have Hj:=hid (G2.bw (tb:=tb) (ub:=ub) b0);have Gt:tb<w.heap.size:=g.cur.lt;have G0:ub<w.heap.size:=g.us.lt;have Gp:=g.bt;have HU:=hid (QbP tb B a n c x 1000 f aT aS aL aE W hn hf Hb.cur Hb.seg (fun y hy=>(g.ab y hy).1) Hb.err g.bt oM oM);have HZ:=hid zW;have HF:=hid hf;have HS:=hid hS;have Hh:w.heap.size≠tb:=oM;have Hi:w.heap.size≠ub:=oM;have Hp:w.heap.size<=w.heap.size:=Uu _;clear g b0 zW hf hS;go_enter func168,ntmps168;go_wp2_with fail;try rw [hW]
 clear hW;refine HU.mono ?_;clear HU;rintro e w1 ⟨C,⟨V,x1,T,hV,rfl,cu⟩|⟨T,t,v,y,rfl,cu⟩⟩
 ·rw [Qa5] at T;have Hm:=hid (Hb.t C cu);have Ha:=hid (Hj.trans (G2.t C));have o:=hid (Hl.g2 (G2.t (ub:=ub) C) Hh Hi);have Hu:=hid T;clear C T cu Hb Hj Hl;by_cases h0:V=0
  ·subst h0;have HN:Hid (Qhy f n (fun r q=>inB (L r) q q) kind p acc x=Up):=hid (by unfold Qhy;rw [Hu.out];rfl);obtain⟨ev,ge⟩:=Hm.err.x6;have lo:12<w.heap.size:=Ut (Ut oD Hm.err.lG) (Ux Gp (YN Gt));obtain⟨u0,k0⟩:=o.c0;obtain⟨u1,k1⟩:=o.c1;have X:=o.f0;have Go:(w1.setCell (Ub w.heap.size) (.map Up)).cell? (Ub 12)=Uq (.iface 363 ev):=(by rw [UF _ _ _ _ oS];exact ge);have Gw:((w1.setCell (Ub w.heap.size) (.map Up)).setCell (Ua w.heap.size 1) (.map Up)).cell? (Ub 12)=Uq (.iface 363 ev):=(by rw [UF _ _ _ _ oS];exact Go);clear lo;go_wp2_with fail;go_region;all_goals go_wp2_with fail
   all_goals (
    obtain⟨Z,M,q0,q1,D,bZ,_⟩:=o.fill Ha Hp Up Up;rw [<- M];clear M;refine zF (v:=Ul #[Uo #[.map Up,.map Up],.iface 363 ev]) (by simp [results,results168,go_sem,q0,q1]) ?_;rw [<- HP.out];exact⟨D.trans (G2.bw zI.drew),.inr ⟨HN,_,_,rfl⟩⟩)
  ·have d0:((V:Int)==0)=false:=oS;go_wp2_with fail;refine(Qdx w1).mono ?_;rintro e w2 ⟨s,u,rfl,Gs,Gy,Gz,m1,m2,b2⟩;obtain⟨W3,Hg⟩:=zE ((w2.alloc (Uj #[.map (Uq s),.map (Uq u)] 172)).alloc (Uj #[Ud 0,Ud 0] 115));have b3:Bl w2 W3:=Hg▸Qak _ _ _;have Gm:Hid (Bx2 W3 w2.heap.size (.map (Uq s)) (.map (Uq u))):=hid (Hg▸(Bx2.made w2 _ _ _).allocs _);have H1:Hid (Bx2 W3 (w2.heap.size+1) (Ud 0) (Ud 0)):=hid (by rw [<- Hg];simpa using Bx2.made (w2.alloc (Uj #[.map (Uq s),.map (Uq u)] 172)) (Ud 0) (Ud 0) 115);have Hn:=Qaa b2 b3;have Gk:=hid (Hm.bw Hn);have Gc:=hid (Ha.trans (G2.bw Hn));have Gi:=hid (o.g2 (G2.bw (tb:=tb) (ub:=ub) Hn) Hh Hi);have Gf:=hid (m1.same (b3.block s m1.lt));have Gg:=hid (m2.same (b3.block u m2.lt));have G4:=Ha.size;have G3:=o.lt;have G5:=b2.size;have Gr:=m1.lt;have H0:=m2.lt;clear m1 m2 b2 b3 Hn Hm Ha o;go_wp2_with fail;try rw [Hg]
   clear Hg;go_loopw [31] (fun iv wr=>∃(k y:Nat) (l:List Lf) (J I:Int),k<=V/\ iv=Ud (k:Int)/\ l.length=k/\ (acc++l).length<=1000/\ w2.heap.size+1<wr.heap.size/\ Hid (TS wr tb B kb ub bs hi a n c f aT aS aL aE L (y:Int) (acc++l))/\ Hid (G2 tb ub w wr)/\ Hid (NB wr w.heap.size)/\
    Hid (Bx2 wr w2.heap.size (.map (Uq s)) (.map (Uq u)))/\ Hid (Bx2 wr (w2.heap.size+1) (Ud J) (Ud I))/\ Hid (Qa1 wr 230 (α:=Ky) QaE Qbd s 0 (fun _=>Up))/\ Hid (Qa1 wr 115 (α:=Dt) dtV Qb2 u k (lsM l))/\
    Hid (Qhx f n (fun r q=>inB (L r) q q) kind p V (0,0) acc x1=Qhx f n (fun r q=>inB (L r) q q) kind p (V - k) (J,I) (acc++l) y)) (fun iv _=>V - (intOf iv).toNat)
   case atStart=>exact⟨0,x1,[],0,0,Uv _,rfl,rfl,oW hl,H1.lt,oW Gk,Gc,Gi,Gm,H1,Gf,Gg,hid oP⟩
   case round=>
    obtain⟨k,y,l,J,I,Gx,rfl,Ga,Hy,G6,g,R,K,S,F,He,Hf,Hc⟩:=hrel;by_cases Gq:k<V
    ·obtain⟨m,hm⟩:∃m,V - k=m+1:=⟨V - k - 1,oM⟩;have H5:=hid (Qq6 tb B kb ub bs hi a n c f aT aS aL aE L y (acc++l) kind p J I wr hn hnc hcc HF hk g (Ux hhi R.size) HS Hy);obtain⟨d0,d1⟩:=F.q2;obtain⟨A,E,c2,_⟩:=g.cur;go_wp2_with fail;clear A E c2 d0 d1;refine H5.mono ?_;clear H5;rintro e w4 ⟨g4,⟨z,x2,hz,rfl,t4⟩|⟨hz,lr,lq,ls,t,v,rfl⟩⟩
     ·obtain⟨G9,Ka,G7,G8,Ho⟩:=Qk0 HF hz;obtain⟨kl,H9⟩:=QdY (wfI (r:=z.r) oM oM) (wfI (r:=z.q) oM oM);have H4:=hid H9;have Hv:Hid (Qhx f n (fun r q=>inB (L r) q q) kind p V (0,0) acc x1=Qhx f n (fun r q=>inB (L r) q q) kind p (V - (k+1)) (z.r,z.q) (acc++(l++[z])) x2):=hid (by
       rw [Hc.out,hm,show V - (k+1)=m by omega];show (Qe3 f n _ kind p (J,I) (acc++l) y).bind _=_;rw [hz];simp only [YB,Vu])
      obtain⟨O,Hw⟩:=zE ((w4.alloc (Uj #[Ud z.r,Ud z.q] 115)).alloc (Uj #[Um z.v] 225));have b5:Bl w4 O:=Hw▸Qak _ _ _;have h:G2 tb ub wr O:=g4.trans (G2.bw b5);have Y5:Bx2 O w4.heap.size (Ud z.r) (Ud z.q):=Hw▸(Bx2.made w4 _ _ _).allocs _;have M5:O.cell? (Ua (w4.heap.size+1) 0)=Uq (Um z.v):=(by rw [<- Hw];rw [UJ _ _ _ _ oP];rfl);have G1:=g4.size;have Gu:=R.size;have X5:Bx2 O w2.heap.size (.map (Uq s)) (.map (Uq u)):=⟨(h.cell oM oM oM).trans S.c0,(h.cell oM oM oM).trans S.c1,fun i=>(h.frozen oM oM oM).trans (S.f i),Ut S.lt h.size⟩;have D5:Bx2 O (w2.heap.size+1) (Ud J) (Ud I):=⟨(h.cell oM oM oM).trans F.c0,(h.cell oM oM oM).trans F.c1,fun i=>(h.frozen oM oM oM).trans (F.f i),Ut F.lt h.size⟩;have H6:=hid (Hf.same (h.block u Hf.lt oM oM));have Hq:=hid (He.same (h.block s He.lt oM oM));have H7:=hid (t4.bw b5);have Hk:=hid (R.trans h);have G:=hid (K.g2 h Hh Hi);obtain⟨x0,Gv⟩:=X5.q2;obtain⟨y0,y1⟩:=Y5.q2;have H:=hid X5;have Y:=hid D5;have Hd:=hid Y5;clear g4 h b5 hz t4 H9 S F He Hf g R K Hc hm X5 D5 Y5;obtain⟨w9,r9,m9,Q⟩:=H6.store Qat (fun _ _=>Qc8) underlying170 oL (x:=(z.r,z.q)) (y:=z.v) H4;have Gb:u<w2.heap.size:=H0;have N:∀b i,b≠u ->b<O.heap.size ->w9.cell? (Ua b i)=O.cell? (Ua b i):=fun b i h1 h2=>UB (a:=(Ua b i)) (Q.block b h2 (fun e=>h1 (by injection e)));have fg:∀b i,b≠u ->b<O.heap.size ->w9.frozen? (Ua b i)=O.frozen? (Ua b i):=fun b i h1 h2=>Ys (a:=(Ua b i)) (Q.block b h2 (fun e=>h1 (by injection e)));have v0:=(N w4.heap.size 0 oM Hd.lt).trans Hd.c0;have v1:=(N w4.heap.size 1 oM Hd.lt).trans Hd.c1;have D9:Bx2 w9 (w2.heap.size+1) (Ud J) (Ud I):=⟨(N _ 0 oM Y.lt).trans Y.c0,(N _ 1 oM Y.lt).trans Y.c1,fun i=>(fg _ i oM Y.lt).trans (Y.f i),Ut Y.lt Q.size⟩;have X9:Bx2 w9 w2.heap.size (.map (Uq s)) (.map (Uq u)):=⟨(N _ 0 oM H.lt).trans H.c0,(N _ 1 oM H.lt).trans H.c1,fun i=>(fg _ i oM H.lt).trans (H.f i),Ut H.lt Q.size⟩;have H8:=hid (H7.gr Q oM);have H3:=hid (Hk.gr Q oM);have Ht:=hid (G.same (Q.block w.heap.size G.lt (fun e=>oI e)) Q.size);have Hr:=hid (Hq.same (Q.block s Hq.lt (fun e=>oI e)));have Hs:Hid (Qa1 w9 115 (α:=Dt) dtV Qb2 u (k+1) (lsM (l++[z]))):=hid (by rw [QnS];exact m9);obtain⟨Zw,Hx⟩:=zE ((w9.setCell (Ua (w2.heap.size+1) 0) (Ud z.r)).setCell (Ua (w2.heap.size+1) 1) (Ud z.q));have U:w9.grownBy Zw (Uq (w2.heap.size+1)):=by
       rw [<- Hx];exact⟨rfl,rfl,rfl,by simp [UC],fun j hj Ho=>(zH _ _ _ _ (fun e=>Ho (by rw [e]))).trans (zH _ _ _ _ (fun e=>Ho (by rw [e])))⟩
      have DZ:Bx2 Zw (w2.heap.size+1) (Ud z.r) (Ud z.q):=by
       rw [<- Hx];refine⟨?_,?_,fun i=> ?_,by simpa [UC] using D9.lt⟩
       ·rw [UI _ _ _ _ oP];exact UH _ _ _ D9.c0
       ·exact UH _ _ _ (by rw [UI _ _ _ _ oP];exact D9.c1)
       ·simpa using D9.f i
      have H2:=hid DZ;have Gn:Hid (Bx2 Zw w2.heap.size (.map (Uq s)) (.map (Uq u))):=hid (by
       have e:=U.block w2.heap.size X9.lt (fun e=>oI e);exact⟨(UB (a:=(Ub w2.heap.size)) e).trans X9.c0,(UB (a:=(Ua w2.heap.size 1)) e).trans X9.c1,fun i=>(Ys (a:=(Ua w2.heap.size i)) e).trans (X9.f i),Ut X9.lt U.size⟩)
      have Gl:=hid (H8.gr U oM);have Gd:=hid (H3.gr U oM);have Gj:=hid (Ht.same (U.block w.heap.size Ht.lt (fun e=>oI e)) U.size);have Ge:=hid (Hr.same (U.block s Hr.lt (fun e=>oI e)));have Gh:=hid (Hs.same (U.block u Hs.lt (fun e=>oI e)));obtain⟨e0,e1,ef⟩:=D9.p2;have Hz:(acc++(l++[z])).length<=1000:=(by simp at Hy Ho ⊢;omega);unfold dtV Qga Qb2 at r9;dsimp only at r9;clear m9 Q N fg D9 X9 U DZ H8 H3 Ht Hr Hs H Y Hd H7 Hk G Hq H6 H4;go_wp2_with fail;try rw [Hx]
      go_roundw;case rel=>exact⟨k+1,x2,l++[z],z.r,z.q,Gq,oN,by simp [Ga],Hz,H2.lt,by rw [<- Vu];exact Gl,Gd,Gj,Gn,H2,Ge,Gh,Hv⟩
      case measure=>exact oE
     ·have HN:Hid (Qhy f n (fun r q=>inB (L r) q q) kind p acc x=Up):=hid (by
       unfold Qhy;rw [Hu.out];simp only [YB];rw [if_neg h0,Hc.out,hm];show (Qe3 f n _ kind p (J,I) (acc++l) y).bind _=_;rw [hz];rfl)
      have bA:Bl w4 (((w4.alloc (Uj #[Ud lr,Ud lq] 115)).alloc (Uj #[Um ls] 225)).alloc (Uj #[Um ⟨#[108,101,97,102]⟩,Ud (y:Int),.iface t v] 216)):=((zO _ _).alloc oP _).alloc oS _;have Hk:=hid (R.trans (g4.trans (G2.bw bA)));have G:=hid (K.g2 (g4.trans (G2.bw bA)) Hh Hi);obtain⟨u0,k0⟩:=G.c0;obtain⟨u1,k1⟩:=G.c1;have X:=G.f0;clear g4 hz S F He Hf g R K Hc hm bA;go_wp2_with fail;obtain⟨Z,M,q0,q1,D,bZ,_⟩:=G.fill Hk Hp Up Up;rw [<- M];clear M;refine zF (v:=Ul #[Uo #[.map Up,.map Up],.iface 214 (Uk (Uq (Ua (w4.heap.size+1+1) 0)))]) (by simp [results,results168,go_sem,q0,q1]) ?_;rw [<- HP.out];exact⟨D,.inr ⟨HN,_,_,rfl⟩⟩
    ·obtain rfl:k=V:=oM;have HY:Hid (Qhy f n (fun r q=>inB (L r) q q) kind p acc x=Uq (acc++l,y)):=hid (by
      unfold Qhy;rw [Hu.out];simp only [YB];rw [if_neg h0,Hc.out,Nat.sub_self];rfl)
     obtain⟨x0,Gv⟩:=S.q2;obtain⟨u0,k0⟩:=K.c0;obtain⟨u1,k1⟩:=K.c1;have X:=K.f0;clear Hc;go_wp2_with fail;obtain⟨Z,M,q0,q1,D,bZ,gg⟩:=K.fill R Hp (Uq s) (Uq u);rw [<- M];clear M;refine zF (v:=Ul #[Uo #[.map (Uq s),.map (Uq u)],.nilIface]) (by simp [results,results168,go_sem,q0,q1]) ?_;rw [<- HP.out];have zz:=HZ.out;refine⟨D,.inl ⟨l,y,s,u,HY,rfl,g.gr gg hhi,Hy,Gs,oM,oM,He.same (bZ s oM),?_⟩⟩;rw [Ga];exact Hf.same (bZ u oM)
 ·rw [Qa5] at T;have HN:Hid (Qhy f n (fun r q=>inB (L r) q q) kind p acc x=Up):=hid (by unfold Qhy;rw [T];rfl);have Ha:=hid (Hj.trans (G2.t C));have o:=hid (Hl.g2 (G2.t (ub:=ub) C) Hh Hi);obtain⟨u0,k0⟩:=o.c0;obtain⟨u1,k1⟩:=o.c1;have X:=o.f0;clear C T cu Hj Hl Hb;go_wp2_with fail;obtain⟨Z,M,q0,q1,D,bZ,_⟩:=o.fill Ha Hp Up Up;rw [<- M];clear M;refine zF (v:=Ul #[Uo #[.map Up,.map Up],.iface t v]) (by simp [results,results168,go_sem,q0,q1]) ?_;rw [<- HP.out];exact⟨D,.inr ⟨HN,_,_,rfl⟩⟩
def lfK (x:Lf):List ByteArray×Int×Dt:=(x.p,kd x.fl,x.r,x.q)
theorem Qkc:QaH (fun x y:List ByteArray×Int×Dt=>orI (QaN x.1 y.1) (orI (QaV x.2.1 y.2.1) (Qbg x.2.2 y.2.2))):=QaH.path.pair (QaH.int.pair QaH.dot)
theorem QhJ (x y:Lf):QaQ x y<0↔0<QaQ y x:=Qkc.neg (lfK x) (lfK y)
theorem Qmu (x y:Lf):QaQ x y=0↔lfK x=lfK y:=Qkc.z (lfK x) (lfK y)
theorem QnR {y:Lf}(h:lfK x=lfK y):x.p=y.p/\ x.fl=y.fl/\ x.r=y.r/\ x.q=y.q:=by
 unfold lfK at h;have j:=congrArg Prod.fst h;have k:=congrArg (fun z=>z.2.1) h;have m:=congrArg (fun z=>z.2.2.1) h;have u:=congrArg (fun z=>z.2.2.2) h;exact⟨j,QjP k,m,u⟩
noncomputable def QdI (x:Lf):List Lf ->List Lf
 | []=>[x]
 | y::r=>if yes (QaQ y x<0)=true then y::QdI x r else x::y::r
theorem Qf6 {x z:Lf}:∀{ls:List Lf},z∈QdI x ls↔z=x \/z∈ls
 | []=>by simp [QdI]
 | y::r=>by
  have j:=Qf6 (x:=x) (z:=z) (ls:=r);simp only [QdI];split
  ·rw [YD,j,YD];constructor
   ·rintro(h|h|h)
    ·exact .inr (.inl h)
    ·exact .inl h
    ·exact .inr (.inr h)
   ·rintro(h|h|h)
    ·exact .inr (.inl h)
    ·exact .inl h
    ·exact .inr (.inr h)
  ·rw [YD]
theorem QdJ (x:Lf):∀ls:List Lf,(QdI x ls).length=ls.length+1
 | []=>rfl
 | y::r=>by
  simp only [QdI];split
  ·simp [QdJ x r]
  ·simp
theorem Qej {x:Lf}:∀{ls:List Lf},ls.Pairwise (fun a b=>QaQ a b<0) ->(∀y∈ls,lfK y≠lfK x) ->(QdI x ls).Pairwise (fun a b=>QaQ a b<0)
 | [],_,_=>by simp [QdI]
 | y::r,h,hne=>by
  have k:=List.pairwise_cons.1 h;have q:=Qej k.2 (fun z hz=>hne z (VT _ hz));simp only [QdI];by_cases j:QaQ y x<0
  ·rw [if_pos (Qal j)];refine List.pairwise_cons.2 ⟨fun z hz=> ?_,q⟩;rcases Qf6.1 hz with e|e
   ·rw [e];exact j
   ·exact k.1 z e
  ·rw [if_neg (by rw [Qaj j];simp)];have u:QaQ y x≠0:=fun e=>hne y (Vt) ((Qmu y x).1 e);have m:QaQ x y<0:=(QhJ x y).2 oM;refine List.pairwise_cons.2 ⟨fun z hz=> ?_,h⟩;rcases List.mem_cons.1 hz with e|e
   ·rw [e];exact m
   ·exact Qjm m (k.1 z e)
noncomputable def QeK (P:Lf ->Prop)(ls:List Lf)(out:List Lf):Nat ->List Lf
 | 0=>out
 | k+1=>if yes (P (gL ls k))=true then QdI (gL ls k) (QeK P ls out k) else QeK P ls out k
theorem QfK {P:Lf ->Prop}{out:List Lf}(h:P (gL ls k)):QeK P ls out (k+1)=QdI (gL ls k) (QeK P ls out k):=by simp only [QeK];rw [if_pos (Qal h)]
theorem Qhv {P:Lf ->Prop}{out:List Lf}(h:¬P (gL ls k)):QeK P ls out (k+1)=QeK P ls out k:=by simp only [QeK];rw [if_neg (by rw [Qaj h];simp)]
theorem Qcz {P:Lf ->Prop}{ls out:List Lf}{z:Lf}:∀{k:Nat},z∈QeK P ls out k↔z∈out \/∃j,j<k/\ P (gL ls j)/\ gL ls j=z
 | 0=>by simp [QeK]
 | k+1=>by
  have v:=Qcz (P:=P) (ls:=ls) (out:=out) (z:=z) (k:=k);by_cases h:P (gL ls k)
  ·rw [QfK h,Qf6,v];constructor
   ·rintro(e|e|⟨j,u,m,q⟩)
    ·exact .inr ⟨k,oM,h,e.symm⟩
    ·exact .inl e
    ·exact .inr ⟨j,oM,m,q⟩
   ·rintro(e|⟨j,u,m,q⟩)
    ·exact .inr (.inl e)
    ·by_cases r:j=k
     ·subst r;exact .inl q.symm
     ·exact .inr (.inr ⟨j,oM,m,q⟩)
  ·rw [Qhv h,v];constructor
   ·rintro(e|⟨j,u,m,q⟩)
    ·exact .inl e
    ·exact .inr ⟨j,oM,m,q⟩
   ·rintro(e|⟨j,u,m,q⟩)
    ·exact .inl e
    ·by_cases r:j=k
     ·subst r;exact absurd m h
     ·exact .inr ⟨j,oM,m,q⟩
theorem QdN {P:Lf ->Prop}{ls out:List Lf}:∀k,(QeK P ls out k).length<=out.length+k
 | 0=>by simp [QeK]
 | k+1=>by
  have j:=QdN (P:=P) (ls:=ls) (out:=out) k;simp only [QeK];split
  ·rw [QdJ];omega
  ·omega
theorem QcF {P:Lf ->Prop}{ls out:List Lf}(ho:out.Pairwise (fun a b=>QaQ a b<0))(hl:∀i j,i<j ->j<ls.length ->QaQ (gL ls i) (gL ls j)<0)(hne:∀j,j<ls.length ->P (gL ls j) ->∀y∈out,lfK y≠lfK (gL ls j)):∀k,k<=ls.length ->(QeK P ls out k).Pairwise (fun a b=>QaQ a b<0)
 | 0,_=>ho
 | k+1,hk=>by
  have m:=QcF ho hl hne k oM;by_cases h:P (gL ls k)
  ·rw [QfK h];refine Qej m (fun y hy=> ?_);rcases Qcz.1 hy with e|⟨j,q,u,r⟩
   ·exact hne k oM h y e
   ·intro e;rw [<- r] at e;have:=(Qmu _ _).2 e;have:=hl j k q oM;omega
  ·rw [Qhv h];exact m
noncomputable def jnL (la lb:List Lf)(hasA hasB:Lf ->Prop):List Lf:=QeK (fun x=>¬hasA x) lb (QeK (fun x=>x∈lb \/¬hasB x) la [] la.length) lb.length
theorem Qaq:x∈l↔∃j,j<l.length/\ gL l j=x:=by
 constructor
 ·intro h;obtain⟨j,k,e⟩:=YJ h;exact⟨j,k,by simp [gL,UR,k,e]⟩
 ·rintro⟨j,k,e⟩;rw [<- e];have:gL l j=l[j]:=by simp [gL,UR,k]
  rw [this];exact UW k
theorem Qf8{hasA hasB:Lf ->Prop}{z:Lf}:z∈jnL la lb hasA hasB↔(z∈la/\ (z∈lb \/¬hasB z)) \/(z∈lb/\¬hasA z):=by
 unfold jnL;rw [Qcz,Qcz];constructor
 ·rintro((e|⟨j,m,k,q⟩)|⟨j,m,k,q⟩)
  ·cases e
  ·rw [q] at k;exact .inl ⟨Qaq.2 ⟨j,m,q⟩,k⟩
  ·rw [q] at k;exact .inr ⟨Qaq.2 ⟨j,m,q⟩,k⟩
 ·rintro(⟨m,k⟩|⟨m,k⟩)
  ·obtain⟨j,r,e⟩:=Qaq.1 m;exact .inl (.inr ⟨j,r,by rw [e];exact k,e⟩)
  ·obtain⟨j,r,e⟩:=Qaq.1 m;exact .inr ⟨j,r,by rw [e];exact k,e⟩
theorem QiB{hasA hasB:Lf ->Prop}(hA:∀i j,i<j ->j<la.length ->QaQ (gL la i) (gL la j)<0)(hB:∀i j,i<j ->j<lb.length ->QaQ (gL lb i) (gL lb j)<0)(hk:∀x∈la,hasA x)(hd:∀x y,lfK x=lfK y ->(hasA x↔hasA y)):(jnL la lb hasA hasB).Pairwise (fun a b=>QaQ a b<0):=by
 unfold jnL;refine QcF (QcF List.Pairwise.nil hA (fun j _ _ y hy=>by cases hy) _ zL) hB (fun j hj hP y hy e=> ?_) _ zL;rcases Qcz.1 hy with h|⟨i,k,_,m⟩
 ·cases h
 ·exact hP ((hd _ _ e).1 (hk y (Qaq.2 ⟨i,k,m⟩)))
def StW (R F T:Nat ->Int)(n:Nat)(l:List Lf):Prop:=(QeM R F T n/\ n<=2000)/\ l.length<=1000/\ QbU R F T n l l.length/\ Dis l l.length
theorem Qcn.w(h:Qcn R F T n l):StW R F T n l:=⟨by have:=Qax.1 h.1;exact⟨this.1,oM⟩,h.2⟩
def Qdp (R F T:Nat ->Int)(n:Nat)(x:Lf):Prop:=QbD R F T x.r x.q x.q n=true
theorem Qls{y:Lf}(h:lfK x=lfK y):Qdp R F T n x↔Qdp R F T n y:=by
 obtain⟨_,_,j,k⟩:=QnR h;unfold Qdp;rw [j,k]
theorem Qp3 {y:Lf}(h:Way x=Way y)(h0:0<x.p.length)(hd:(x.r,x.q)=(y.r,y.q))(hv:x.v=y.v):x=y:=by
 obtain⟨j,z⟩:=QgJ h h0;have k:=QjP z;have m:x.r=y.r:=congrArg Prod.fst hd;have u:x.q=y.q:=congrArg Prod.snd hd;cases x;cases y;simp only at j k m u hv;subst j k m u hv;rfl
theorem Qjc(hd:Dis l l.length){v:ByteArray}:Mk l l.length z d=Uq v↔∃x∈l,Way x=z/\ (x.r,x.q)=d/\ x.v=v:=by
 rw [Qjd hd];constructor
 ·rintro⟨j,y,k,m,u⟩;exact⟨gL l j,Qaq.2 ⟨j,y,rfl⟩,k,m,u⟩
 ·rintro⟨x,g,k,m,u⟩;obtain⟨j,h,e⟩:=Qaq.1 g;exact⟨j,h,by rw [e];exact k,by rw [e];exact m,by rw [e];exact u⟩
theorem Qjw(hd:Dis l l.length){y:Lf}(hx:x∈l)(hy:y∈l)(h:x.r=y.r/\ x.q=y.q):x=y:=by
 obtain⟨i,hi,k⟩:=Qaq.1 hx;obtain⟨j,u,m⟩:=Qaq.1 hy;rcases Nat.lt_trichotomy i j with e|e|e
 ·have:=hd j u i e;exact absurd (by rw [k,m];exact h) this
 ·subst e;rw [<- k,<- m]
 ·have:=hd i hi j e;exact absurd (by rw [k,m];exact⟨h.1.symm,h.2.symm⟩) this
theorem QgE(h:l.Pairwise (fun a b=>QaQ a b<0)){j:Nat}(hij:i<j)(hj:j<l.length):QaQ (gL l i) (gL l j)<0:=by
 have:=List.pairwise_iff_getElem.1 h i j oM hj hij;have k:gL l i=l[i]:=by simp [gL,UR,show i<l.length by omega]
 have m:gL l j=l[j]:=by simp [gL,UR,hj]
 rw [k,m];exact this
section
variable {R F T : Nat -> Int} {n : Nat} {la : List Lf} {R' F' T' : Nat -> Int} {n' : Nat} {lb : List Lf}
noncomputable def jn (R F T:Nat ->Int)(n:Nat)(la:List Lf)(R' F' T':Nat ->Int)(n':Nat)(lb:List Lf):List Lf:=jnL la lb (Qdp R F T n) (Qdp R' F' T' n')
theorem Qgz (h:StW R F T n la)(h':StW R' F' T' n' lb):(jn R F T n la R' F' T' n' lb).Pairwise (fun a b=>QaQ a b<0):=
 QiB (fun i j h1 h2=>h.2.2.1.lt j h1 h2) (fun i j h1 h2=>h'.2.2.1.lt j h1 h2) (fun x hx=>by
  obtain⟨j,k,e⟩:=Qaq.1 hx;have:=(h.2.2.1 j k).2.1;rw [e] at this;exact this) (fun x y e=>Qls e)
theorem Qek (z:Lf)(hz:z∈jn R F T n la R' F' T' n' lb):z∈la \/(z∈lb/\¬Qdp R F T n z):=by
 rcases Qf8.1 hz with h|h
 ·exact .inl h.1
 ·exact .inr h
theorem QjJ (h:StW R F T n la)(h':StW R' F' T' n' lb):Dis (jn R F T n la R' F' T' n' lb) (jn R F T n la R' F' T' n' lb).length:=fun i hi j u hh=>by
 have g:=QgE (Qgz h h') u hi;have m:=Qek _ (Qaq.2 ⟨j,oM,rfl⟩:gL (jn R F T n la R' F' T' n' lb) j∈_);have k:=Qek _ (Qaq.2 ⟨i,hi,rfl⟩:gL (jn R F T n la R' F' T' n' lb) i∈_);have v:∀z∈la,Qdp R F T n z:=fun z hz=>by
  obtain⟨j,u,e⟩:=Qaq.1 hz;have:=(h.2.2.1 j u).2.1;rw [e] at this;exact this
 have same:∀{x y:Lf},x.r=y.r/\ x.q=y.q ->(Qdp R F T n x↔Qdp R F T n y):=fun{x y} e=>by unfold Qdp;rw [e.1,e.2]
 have b:∀z:Lf,¬QaQ z z<0:=fun z hz=>oH ((QhJ z z).1 hz);have e:gL (jn R F T n la R' F' T' n' lb) j=gL (jn R F T n la R' F' T' n' lb) i:=by
  rcases m with m|⟨m,o⟩
  ·rcases k with k|⟨k,t⟩
   ·exact Qjw h.2.2.2 m k hh
   ·exact absurd ((same hh).1 (v _ m)) t
  ·rcases k with k|⟨k,t⟩
   ·exact absurd ((same hh).2 (v _ k)) o
   ·exact Qjw h'.2.2.2 m k hh
 rw [e] at g;exact b _ g
theorem Qq3 {U V X:Nat ->Int}{m:Nat}(h:StW R F T n la)(h':StW R' F' T' n' lb)(hu:∀z:Lf,Qdp R F T n z \/Qdp R' F' T' n' z ->Qdp U V X m z):QbU U V X m (jn R F T n la R' F' T' n' lb) (jn R F T n la R' F' T' n' lb).length:=fun i hi=>by
 have r:=Qgz h h';have k:=Qek _ (Qaq.2 ⟨i,hi,rfl⟩:gL (jn R F T n la R' F' T' n' lb) i∈_);refine⟨?_,?_,fun h0=>QgE r oM hi⟩
 ·rcases k with k|⟨k,_⟩
  ·obtain⟨j,q,e⟩:=Qaq.1 k;rw [<- e];exact(h.2.2.1 j q).1
  ·obtain⟨j,q,e⟩:=Qaq.1 k;rw [<- e];exact(h'.2.2.1 j q).1
 ·refine hu _ ?_;rcases k with k|⟨k,_⟩
  ·obtain⟨j,q,e⟩:=Qaq.1 k;refine .inl ?_;have:=(h.2.2.1 j q).2.1;rw [e] at this;exact this
  ·obtain⟨j,q,e⟩:=Qaq.1 k;refine .inr ?_;have:=(h'.2.2.1 j q).2.1;rw [e] at this;exact this
theorem Qn8 (h:StW R F T n la)(h':StW R' F' T' n' lb)(z:List Ky)(d:Dt)(v:ByteArray):
  Mk (jn R F T n la R' F' T' n' lb) (jn R F T n la R' F' T' n' lb).length z d=Uq v↔(Mk la la.length z d=Uq v/\ (Mk lb lb.length z d=Uq v \/QbD R' F' T' d.1 d.2 d.2 n'=false)) \/(Mk lb lb.length z d=Uq v/\ QbD R F T d.1 d.2 d.2 n=false):=by
 have A:∀b:Bool,¬b=true↔b=false:=fun b=>by cases b<;>simp
 rw [Qjc (QjJ h h'),Qjc h.2.2.2,Qjc h'.2.2.2];constructor
 ·rintro⟨x,i,m,k,u⟩;have t:x.r=d.1:=congrArg Prod.fst k;have o:x.q=d.2:=congrArg Prod.snd k;rcases Qf8.1 i with ⟨E,s⟩|⟨E,s⟩
  ·refine .inl ⟨⟨x,E,m,k,u⟩,s.imp (fun g=>⟨x,g,m,k,u⟩) (fun g=> ?_)⟩;unfold Qdp at g;rw [t,o] at g;exact(A _).1 g
  ·refine .inr ⟨⟨x,E,m,k,u⟩,?_⟩;unfold Qdp at s;rw [t,o] at s;exact(A _).1 s
 ·rintro(⟨⟨x,i,m,k,u⟩,g⟩|⟨⟨x,i,m,k,u⟩,g⟩)
  ·have t:x.r=d.1:=congrArg Prod.fst k;have o:x.q=d.2:=congrArg Prod.snd k;have M:0<x.p.length:=by
    obtain⟨j,O,e⟩:=Qaq.1 i;have:=(h.2.2.1 j O).1.1.1;rw [e] at this;omega
   refine⟨x,Qf8.2 (.inl ⟨i,?_⟩),m,k,u⟩;rcases g with ⟨y,Q,U,V,Y⟩|g
   ·have:x=y:=Qp3 (m.trans U.symm) M (k.trans V.symm) (u.trans Y.symm);rw [this];exact .inl Q
   ·refine .inr ?_;unfold Qdp;rw [t,o];exact(A _).2 g
  ·have t:x.r=d.1:=congrArg Prod.fst k;have o:x.q=d.2:=congrArg Prod.snd k;refine⟨x,Qf8.2 (.inr ⟨i,?_⟩),m,k,u⟩;unfold Qdp;rw [t,o];exact(A _).2 g
end
def hgN (N N1:List Ky ->Option (Nat×Nat))(k:Ky):List Ky ->Option (Nat×Nat)
 | []=>N []
 | y::r=>if y=k then N1 r else N (y::r)
def hgM (M M1:List Ky ->Dt ->Option ByteArray)(k:Ky):List Ky ->Dt ->Option ByteArray
 | []=>M []
 | y::r=>if y=k then M1 r else M (y::r)
def ApN (N N1:List Ky ->Option (Nat×Nat)):Prop:=∀p q x y,N p=Uq x ->N1 q=Uq y ->x.1≠y.1/\ x.1≠y.2/\ x.2≠y.1/\ x.2≠y.2
section
variable {w w' : Ur} {B c : Nat} {N N1 : List Ky -> Option (Nat × Nat)} {M M1 : List Ky -> Dt -> Option ByteArray}
theorem Tre.hang {x0 x1:Nat×Nat}{k:Ky}(h:Tre w B N M c)(h1:Tre w B N1 M1 c)(hN:N []=Uq x0)(hN1:N1 []=Uq x1)(hap:ApN N N1)(hg:w.grownBy w' (Uq x0.1))(hm:Qa1 w' 230 QaE Qbd x0.1 (c+1) (fun y=>if y=k then Uq x1 else N [y])):Tre w' B (hgN N N1 k) (hgM M M1 k) (c+1):=by
 have A:∀p x,N p=Uq x ->p≠[] ->w'.heap[x.1]? =w.heap[x.1]? :=fun p x hx hp=>hg.block _ (h.lt hx).1 (fun e=>hp ((h.apart p [] x x0 hx hN).2.1 (by injection e)));have b:∀p x,N p=Uq x ->w'.heap[x.2]? =w.heap[x.2]? :=fun p x hx=>hg.block _ (h.lt hx).2 (fun e=>(h.apart [] p x0 x hN hx).1 (by injection e with e;exact e.symm));have i:∀p x,N1 p=Uq x ->w'.heap[x.1]? =w.heap[x.1]? /\ w'.heap[x.2]? =w.heap[x.2]? :=fun p x hx=>by
  have a:=hap [] p x0 x hN hx;exact⟨hg.block _ (h1.lt hx).1 (fun e=>a.1 (by injection e with e;exact e.symm)),hg.block _ (h1.lt hx).2 (fun e=>a.2.1 (by injection e with e;exact e.symm))⟩
 have g:∀p x,hgN N N1 k p=Uq x ->(p=[]/\ x=x0) \/(∃r,p=k::r/\ N1 r=Uq x) \/(∃y r,p=y::r/\ y≠k/\ N (y::r)=Uq x):=fun p x hx=>by
  cases p with
  | nil=>exact .inl ⟨rfl,by simp only [hgN] at hx;rw [hN] at hx;exact(Option.some.inj hx).symm⟩
  | cons y r=>
   simp only [hgN] at hx;by_cases e:y=k
   ·rw [if_pos e] at hx;exact .inr (.inl ⟨r,by rw [e],hx⟩)
   ·rw [if_neg e] at hx;exact .inr (.inr ⟨y,r,rfl,e,hx⟩)
 refine⟨fun p x hx=> ?_,fun p x hx=> ?_,fun p q x y hx hy=> ?_,fun p x hx=> ?_,fun p hp=> ?_,fun p y hp=> ?_⟩
 ·rcases g p x hx with ⟨rfl,rfl⟩|⟨r,rfl,j⟩|⟨y,r,rfl,t,j⟩
  ·refine hm.ext fun y=> ?_;show (if y=k then Uq x1 else N [y])=hgN N N1 k [y];simp only [hgN];by_cases e:y=k
   ·rw [if_pos e,if_pos e,hN1]
   ·rw [if_neg e,if_neg e]
  ·refine(((h1.kids r x j).same (i r x j).1).mono (UA _)).ext fun z=> ?_;show N1 (r++[z])=hgN N N1 k (k::(r++[z]));simp [hgN]
  ·refine(((h.kids _ x j).same (A _ x j oP)).mono (UA _)).ext fun z=> ?_;show N (y::r++[z])=hgN N N1 k (y::(r++[z]));simp [hgN,t]
 ·rcases g p x hx with ⟨rfl,rfl⟩|⟨r,rfl,j⟩|⟨y,r,rfl,t,j⟩
  ·exact((h.marks [] x hN).same (b [] x hN)).mono (UA _)
  ·refine(((h1.marks r x j).same (i r x j).2).mono (UA _)).ext fun d=> ?_;simp [hgM]
  ·refine(((h.marks _ x j).same (b _ x j)).mono (UA _)).ext fun d=> ?_;simp [hgM,t]
 ·rcases g p x hx with ⟨rfl,rfl⟩|⟨r,rfl,j⟩|⟨u,r,rfl,t,j⟩
  ·rcases g q y hy with ⟨rfl,rfl⟩|⟨s,rfl,m⟩|⟨v,s,rfl,o,m⟩
   ·exact h.apart [] [] _ _ hN hN
   ·have a:=hap [] s x y hN m;exact⟨a.2.1,fun e=>absurd e a.1,fun e=>absurd e a.2.2.2⟩
   ·exact h.apart [] _ _ _ hN m
  ·rcases g q y hy with ⟨rfl,rfl⟩|⟨s,rfl,m⟩|⟨v,s,rfl,o,m⟩
   ·have a:=hap [] r y x hN j;exact⟨fun e=>a.2.2.1 e.symm,fun e=>absurd e.symm a.1,fun e=>absurd e.symm a.2.2.2⟩
   ·have a:=h1.apart r s x y j m;exact⟨a.1,fun e=>by rw [a.2.1 e],fun e=>by rw [a.2.2 e]⟩
   ·have a:=hap _ r y x m j;exact⟨fun e=>a.2.2.1 e.symm,fun e=>absurd e.symm a.1,fun e=>absurd e.symm a.2.2.2⟩
  ·rcases g q y hy with ⟨rfl,rfl⟩|⟨s,rfl,m⟩|⟨v,s,rfl,o,m⟩
   ·exact h.apart _ [] _ _ j hN
   ·have a:=hap _ s x y j m;exact⟨a.2.1,fun e=>absurd e a.1,fun e=>absurd e a.2.2.2⟩
   ·exact h.apart _ _ _ _ j m
 ·rcases g p x hx with ⟨rfl,rfl⟩|⟨r,rfl,j⟩|⟨y,r,rfl,t,j⟩
  ·exact h.lo [] _ hN
  ·exact h1.lo r x j
  ·exact h.lo _ x j
 ·cases p with
  | nil=>simp only [hgN] at hp;rw [hN] at hp;cases hp
  | cons y r=>
   simp only [hgN] at hp;by_cases e:y=k
   ·rw [if_pos e] at hp;show hgM M M1 k (y::r)=_;simp only [hgM];rw [if_pos e];exact h1.none' r hp
   ·rw [if_neg e] at hp;show hgM M M1 k (y::r)=_;simp only [hgM];rw [if_neg e];exact h.none' _ hp
 ·cases p with
  | nil=>simp only [hgN] at hp;rw [hN] at hp;cases hp
  | cons z r=>
   simp only [hgN,VJ] at hp ⊢;by_cases e:z=k
   ·rw [if_pos e] at hp ⊢;exact h1.up r y hp
   ·rw [if_neg e] at hp ⊢;exact h.up (z::r) y hp
theorem Tre.new {x0:Nat×Nat}(hk:Qa1 w 230 (α:=Ky) QaE Qbd x0.1 0 (fun _=>Up))(hm:Qa1 w 115 (α:=Dt) dtV Qb2 x0.2 0 (fun _=>Up))(hne:x0.1≠x0.2)(hB:B<=x0.1/\ B<=x0.2):Tre w B (fun z=>if z=[] then Uq x0 else Up) (fun _ _=>Up) 0:=by
 have nil:∀(p:List Ky) (x:Nat×Nat),(if p=[] then Uq x0 else Up)=Uq x ->p=[]/\ x=x0:=fun p x hx=>by
  by_cases e:p=[]
  ·rw [if_pos e] at hx;exact⟨e,(Option.some.inj hx).symm⟩
  ·rw [if_neg e] at hx;cases hx
 refine⟨fun p x hx=> ?_,fun p x hx=> ?_,fun p q x y hx hy=> ?_,fun p x hx=> ?_,fun p hp=>rfl,fun p y hp=>by rw [if_neg oP]⟩
 ·obtain⟨rfl,rfl⟩:=nil p x hx;exact hk.ext fun y=>oP
 ·obtain⟨rfl,rfl⟩:=nil p x hx;exact hm.ext fun d=>rfl
 ·obtain⟨rfl,rfl⟩:=nil p x hx;obtain⟨rfl,rfl⟩:=nil q y hy;exact⟨hne,fun _=>rfl,fun _=>rfl⟩
 ·obtain⟨rfl,rfl⟩:=nil p x hx;exact hB
end
noncomputable def mJ (J:List Lf)(z:List Ky)(K:Ky ->Prop):List Ky ->Dt ->Option ByteArray
 | []=>Mk J J.length z
 | y::r=>if yes (K y)=true then Mk J J.length (z++y::r) else fun _=>Up
def Ah (J:List Lf)(z:List Ky):Prop:=∃x∈J,z <+:Way x
structure JT (w:Ur)(B:Nat)(J:List Lf)(z:List Ky)(K:Ky ->Prop)(N:List Ky ->Option (Nat×Nat))(c:Nat)(x0:Nat×Nat):Prop where
 tre:Tre w B N (mJ J z K) c
 root:N []=Uq x0
 there:∀y r,(N (y::r)).isSome=true↔K y/\ Ah J (z++y::r)
structure JF (w:Ur)(B:Nat)(J:List Lf)(z:List Ky)(N:List Ky ->Option (Nat×Nat))(c:Nat)(x0:Nat×Nat):Prop where
 tre:Tre w B N (fun r=>Mk J J.length (z++r)) c
 root:N []=Uq x0
 there:∀y r,(N (y::r)).isSome=true↔Ah J (z++y::r)
theorem JT.full {w:Ur}{K:Ky ->Prop}{N:List Ky ->Option (Nat×Nat)}(h:JT w B J z K N c x0)(hK:∀y,Ah J (z++[y]) ->K y):JF w B J z N c x0:=by
 have k:∀y r,Ah J (z++y::r) ->Ah J (z++[y]):=fun y r ⟨x,hx,hp⟩=>⟨x,hx,List.IsPrefix.trans (by rw [show z++y::r=(z++[y])++r by simp];exact YH _ _) hp⟩;have m:mJ J z K=fun r=>Mk J J.length (z++r):=by
  funext r;cases r with
  | nil=>simp [mJ]
  | cons y r=>
   simp only [mJ];by_cases e:K y
   ·rw [if_pos (Qal e)]
   ·rw [if_neg (by rw [Qaj e];simp)];funext d;cases hv:Mk J J.length (z++y::r) d with
    | none=>rfl
    | some v=>
     obtain⟨j,u,q,_⟩:=QeL.1 (show Mk J J.length (z++y::r) d≠Up by rw [hv];simp);exact absurd (hK y (k y r ⟨gL J j,Qaq.2 ⟨j,u,rfl⟩,by rw [q];exact Vv _⟩)) e
 exact⟨m▸h.tre,h.root,fun y r=>(h.there y r).trans ⟨fun g=>g.2,fun g=>⟨hK y (k y r g),g⟩⟩⟩
theorem JT.hang {w:Ur}{K:Ky ->Prop}{N N1:List Ky ->Option (Nat×Nat)}{x1:Nat×Nat}(h:JT w B J z K N c x0)(h1:JF w B J (z++[y]) N1 c x1)(hy:¬K y)(ha:Ah J (z++[y]))(hap:ApN N N1)(hg:w.grownBy w' (Uq x0.1))(hm:Qa1 w' 230 QaE Qbd x0.1 (c+1) (fun u=>if u=y then Uq x1 else N [u])):
  JT w' B J z (fun u=>K u \/u=y) (hgN N N1 y) (c+1) x0:=by
 have k:=h.tre.hang h1.tre h.root h1.root hap hg hm;have m:hgM (mJ J z K) (fun r=>Mk J J.length ((z++[y])++r)) y=mJ J z (fun u=>K u \/u=y):=by
  funext r;cases r with
  | nil=>rfl
  | cons u r=>
   simp only [hgM,mJ];by_cases e:u=y
   ·rw [if_pos e,if_pos (Qal (.inr e)),e];simp
   ·rw [if_neg e];by_cases j:K u
    ·rw [if_pos (Qal j),if_pos (Qal (.inl j))]
    ·rw [if_neg (by rw [Qaj j];simp),if_neg (by rw [Qaj (fun hh=>hh.elim j e)];simp)]
 rw [m] at k;refine⟨k,h.root,fun u r=> ?_⟩;simp only [hgN];by_cases e:u=y
 ·rw [if_pos e];cases r with
  | nil=>rw [h1.root,e];exact⟨fun _=>⟨.inr rfl,ha⟩,fun _=>rfl⟩
  | cons v r=>
   rw [h1.there v r,e];rw [show z++[y]++v::r=z++y::v::r by simp];exact⟨fun g=>⟨.inr rfl,g⟩,fun g=>g.2⟩
 ·rw [if_neg e,h.there u r];exact⟨fun g=>⟨.inl g.1,g.2⟩,fun g=>⟨g.1.resolve_right e,g.2⟩⟩
theorem JT.skip {w:Ur}{K:Ky ->Prop}{N:List Ky ->Option (Nat×Nat)}(h:JT w B J z K N c x0)(hy:¬K y)(ha:¬Ah J (z++[y])):JT w B J z (fun u=>K u \/u=y) N c x0:=by
 have t:∀r,¬Ah J (z++y::r):=fun r ⟨x,hx,hp⟩=>ha ⟨x,hx,List.IsPrefix.trans (by rw [show z++y::r=(z++[y])++r by simp];exact YH _ _) hp⟩;have o:mJ J z K=mJ J z (fun u=>K u \/u=y):=by
  funext r;cases r with
  | nil=>rfl
  | cons u r=>
   simp only [mJ];by_cases k:K u
   ·rw [if_pos (Qal k),if_pos (Qal (.inl k))]
   ·rw [if_neg (by rw [Qaj k];simp)];by_cases e:u=y
    ·rw [if_pos (Qal (.inr e))];funext d;cases hv:Mk J J.length (z++u::r) d with
     | none=>rfl
     | some v=>
      obtain⟨j,b,i,_⟩:=QeL.1 (show Mk J J.length (z++u::r) d≠Up by rw [hv];simp);exact absurd ⟨gL J j,Qaq.2 ⟨j,b,rfl⟩,by rw [i,e];exact Vv _⟩ (t r)
    ·rw [if_neg (by rw [Qaj (fun hh=>hh.elim k e)];simp)]
 refine⟨o▸h.tre,h.root,fun u r=> ?_⟩;rw [h.there u r];constructor
 ·exact fun g=>⟨.inl g.1,g.2⟩
 ·rintro⟨m|m,q⟩
  ·exact⟨m,q⟩
  ·rw [m] at q;exact absurd q (t r)
theorem JF.bears {w:Ur}{N:List Ky ->Option (Nat×Nat)}(h:JF w B J z N c x0):Ah J z↔(∃y,N [y]≠Up) \/∃d,Mk J J.length z d≠Up:=by
 constructor
 ·rintro⟨x,k,u⟩;obtain⟨s,g⟩:=u;obtain⟨j,m,e⟩:=Qaq.1 k;cases s with
  | nil=>exact .inr ⟨(x.r,x.q),QeL.2 ⟨j,m,by rw [e,<- g];simp,by rw [e]⟩⟩
  | cons y s=>
   refine .inl ⟨y,fun hn=> ?_⟩;have:=(h.there y []).2 ⟨x,k,by rw [<- g,show z++y::s=(z++[y])++s by simp];exact YH _ _⟩;rw [hn] at this;cases this
 ·rintro(⟨y,b⟩|⟨d,i⟩)
  ·have t:(N [y]).isSome=true:=by
    cases hv:N [y] with
    | none=>exact absurd hv b
    | some v=>rfl
   obtain⟨x,k,u⟩:=(h.there y []).1 t;exact⟨x,k,List.IsPrefix.trans (YH _ _) u⟩
  ·obtain⟨j,m,o,_⟩:=QeL.1 i;exact⟨gL J j,Qaq.2 ⟨j,m,rfl⟩,by rw [o];exact Vv _⟩
theorem JF.mono {w:Ur}{c':Nat}{N:List Ky ->Option (Nat×Nat)}(h:JF w B J z N c x0)(hc:c<=c'):JF w B J z N c' x0:=⟨h.tre.mono hc,h.root,h.there⟩
noncomputable def stM (M:List Ky ->Dt ->Option ByteArray)(z:Lf):List Ky ->Dt ->Option ByteArray:=QkV M (Way z) (z.r,z.q) z.v
theorem Qjb (l:List Lf):∀k,k<=l.length ->Mk l k=(l.take k).foldl stM (fun _ _=>Up)
 | 0,_=>by simp [Mk]
 | k+1,h=>by
  rw [Qj6 oM,YK,<- Qjb l k oM];rfl
theorem QeQ (l:List Lf):Mk l l.length=l.foldl stM (fun _ _=>Up):=by
 rw [Qjb l _ zL,VQ]
theorem QdS {q:List Ky}:∀(m:List Lf) (M:List Ky ->Dt ->Option ByteArray),(∀z∈m,Way z≠q) ->(m.foldl stM M) q=M q
 | [],M,_=>rfl
 | z::m,M,h=>by
  rw [YE,QdS m _ (fun y hy=>h y (VT _ hy))];exact Qbb _ _ _ (Ne.symm (h z (Vt ..)))
theorem QpR {q:List Ky}:∀(m:List Lf) (M M':List Ky ->Dt ->Option ByteArray),M q=M' q ->(m.foldl stM M) q=(m.foldl stM M') q
 | [],M,M',h=>h
 | z::m,M,M',h=>by
  rw [YE,YE];refine QpR m _ _ ?_;unfold stM;by_cases e:q=Way z
  ·subst e;rw [QbI,QbI,h]
  ·rw [Qbb _ _ _ e,Qbb _ _ _ e,h]
theorem QkH {q:List Ky}:∀(m:List Lf) (M:List Ky ->Dt ->Option ByteArray),(∀z∈m,Way z=q) ->(m.foldl stM M) q=m.foldl (fun g z=>QbX g (z.r,z.q) (Uq z.v)) (M q)
 | [],M,_=>rfl
 | z::m,M,h=>by
  rw [YE,YE,QkH m _ (fun y hy=>h y (VT _ hy))];have e:=h z (Vt ..);congr 1;unfold stM;rw [e,QbI]
theorem QhA {m:List Lf}(h:∀z∈m,Way z≠q):Mk (l++m) (l++m).length q=Mk l l.length q:=by
 rw [QeQ,QeQ,YK,QdS m _ h]
theorem QkW {m:List Lf}(h:∀z∈l,Way z≠q):Mk (l++m) (l++m).length q=Mk m m.length q:=by
 rw [QeQ,QeQ,YK];exact QpR m _ _ (QdS l _ h)
theorem Qoy(h:∀z∈l,Way z=q):Mk l l.length q=lsM l:=by
 rw [QeQ,QkH l _ h];rfl
theorem Qnf(h:∀z∈l,Way z≠q):Mk l l.length q=fun _=>Up:=by
 rw [QeQ,QdS l _ h]
theorem Qfo (p:List ByteArray)(s:ByteArray)(k:Int):Qad (p++[s]) k=Qad p 3++[(s,k)]:=by
 unfold Qad;rw [Vg,List.length_singleton,List.range_succ,Vl];congr 1
 ·refine Vr fun i hi=> ?_;have hi:=List.mem_range.1 hi;rw [if_pos oM];have e:gS (p++[s]) i=gS p i:=by simp [gS,UR,List.getElem?_append_left hi]
  rw [e];by_cases h:i+1<p.length
  ·rw [if_pos h]
  ·rw [if_neg h]
 ·simp [gS,UR]
theorem JF.leaves {w:Ur}{s s':Nat}(hz:∀x∈l,Way x=z)(hss:s≠s')(h1:B<=s)(h2:B<=s')(m1:Qa1 w 230 (α:=Ky) QaE Qbd s 0 (fun _=>Up))(m2:Qa1 w 115 (α:=Dt) dtV Qb2 s' l.length (lsM l)):
  JF w B l z (fun r=>if r=[] then Uq (s,s') else Up) l.length (s,s'):=by
 have u:∀y r,∀x∈l,Way x≠z++y::r:=fun y r x j e=>by
  have:=congrArg List.length ((hz x j).symm.trans e);simp at this
 have k:∀p x,(fun r:List Ky=>if r=[] then Uq (s,s') else Up) p=Uq x ->p=[]/\ x=(s,s'):=fun p x h=>by
  by_cases e:p=[]
  ·simp [e] at h;exact⟨e,h.symm⟩
  ·simp [e] at h
 refine⟨⟨fun p x j=> ?_,fun p x j=> ?_,fun p q x y j hy=> ?_,fun p x j=> ?_,fun p m=> ?_,fun p y m=> ?_⟩,oP,fun y r=> ?_⟩
 ·obtain⟨rfl,rfl⟩:=k p x j;exact(m1.mono (Uv _)).ext (fun y=>oP)
 ·obtain⟨rfl,rfl⟩:=k p x j;rw [VC,Qoy hz];exact m2
 ·obtain⟨rfl,rfl⟩:=k p x j;obtain⟨rfl,rfl⟩:=k q y hy;exact⟨hss,fun _=>rfl,fun _=>rfl⟩
 ·obtain⟨rfl,rfl⟩:=k p x j;exact⟨h1,h2⟩
 ·cases p with
  | nil=>simp at m
  | cons y r=>exact Qnf (u y r)
 ·simp
 ·constructor
  ·intro h;simp at h
  ·rintro⟨x,j,m⟩;rw [hz x j] at m;have:=m.length_le;simp at this;omega
theorem JF.more {w:Ur}{N:List Ky ->Option (Nat×Nat)}(h:JF w B J' z N c x0)(hn:∀x∈J,¬z <+:Way x):JF w B (J++J') z N c x0:=by
 have e:(fun r=>Mk (J++J') (J++J').length (z++r))=fun r=>Mk J' J'.length (z++r):=by
  funext r;exact QkW (fun x j e=>hn x j (by rw [e];exact YH _ _))
 refine⟨by rw [e];exact h.tre,h.root,fun y r=>(h.there y r).trans ?_⟩;constructor
 ·rintro⟨x,j,k⟩;exact⟨x,List.mem_append.2 (.inr j),k⟩
 ·rintro⟨x,j,k⟩;rcases List.mem_append.1 j with j|j
  ·exact absurd ((YH z (y::r)).trans k) (hn x j)
  ·exact⟨x,j,k⟩
theorem JT.more {w:Ur}{K:Ky ->Prop}{N:List Ky ->Option (Nat×Nat)}(h:JT w B J z K N c x0)(h0:∀x∈J',Way x≠z)(hn:∀x∈J',∀y,K y ->¬(z++[y]) <+:Way x):JT w B (J++J') z K N c x0:=by
 have u:∀y r,z++y::r=(z++[y])++r:=fun y r=>oP;have e:mJ (J++J') z K=mJ J z K:=by
  funext r;cases r with
  | nil=>exact QhA h0
  | cons y r=>
   simp only [mJ];by_cases k:K y
   ·rw [if_pos (Qal k),if_pos (Qal k)];exact QhA (fun x j e=>hn x j y k (by rw [e,u y r];exact YH _ _))
   ·rw [if_neg (by rw [Qaj k];simp),if_neg (by rw [Qaj k];simp)]
 refine⟨by rw [e];exact h.tre,h.root,fun y r=>(h.there y r).trans ?_⟩;constructor
 ·rintro⟨m,x,j,q⟩;exact⟨m,x,List.mem_append.2 (.inl j),q⟩
 ·rintro⟨m,x,j,q⟩;rcases List.mem_append.1 j with j|j
  ·exact⟨m,x,j,q⟩
  ·exact absurd ((by rw [u y r];exact YH _ _:(z++[y]) <+:z++y::r).trans q) (hn x j y m)
section
variable {f : Nat -> Int} {n : Nat} {K : Int -> Int -> Bool} {kind : Int} {p : List ByteArray}
theorem QlG {before:Dt}{acc:List Lf}{x x':Nat}{z:Lf}(h:Qe3 f n K kind p before acc x=Uq (z,x')):z.p=p/\ z.fl=decide (kind=2):=by
 unfold Qe3 at h;obtain⟨j,m,h⟩:=Qab.1 h;obtain⟨k,q,h⟩:=Qab.1 h;split at h
 ·split at h
  ·rename_i hk;simp only [Option.some.injEq,Prod.mk.injEq] at h;obtain⟨rfl,_⟩:=h;exact⟨rfl,by simp [hk]⟩
  ·rename_i hk;obtain⟨t,_,h⟩:=Qab.1 h;simp only [Option.some.injEq,Prod.mk.injEq] at h;obtain⟨rfl,_⟩:=h;exact⟨rfl,by simp [hk]⟩
 ·cases h
theorem Qio:∀(k:Nat) (before:Dt) (acc:List Lf) (x:Nat) {acc':List Lf} {x':Nat},Qhx f n K kind p k before acc x=Uq (acc',x') ->∃l,acc'=acc++l/\ l.length=k/\∀z∈l,z.p=p/\ z.fl=decide (kind=2)
 | 0,before,acc,x,acc',x',h=>by
  simp only [Qhx,Option.some.injEq,Prod.mk.injEq] at h;exact⟨[],by simp [h.1],rfl,fun z j=>by simp at j⟩
 | k+1,before,acc,x,acc',x',h=>by
  unfold Qhx at h;obtain⟨a,m,h⟩:=Qab.1 h;obtain⟨l,e,q,r⟩:=Qio k _ _ _ h;refine⟨a.1::l,by rw [e];simp,by simp [q],fun z j=> ?_⟩;rcases List.mem_cons.1 j with rfl|j
  ·exact QlG (x':=a.2) m
  ·exact r z j
theorem QlH {acc l:List Lf}{x x':Nat}(h:Qhy f n K kind p acc x=Uq (acc++l,x')):l≠[]/\∀z∈l,z.p=p/\ z.fl=decide (kind=2):=by
 unfold Qhy at h;obtain⟨a,r,h⟩:=Qab.1 h;by_cases j:a.1=0
 ·rw [if_pos j] at h;cases h
 ·rw [if_neg j] at h;obtain⟨u,e,k,q⟩:=Qio a.1 _ _ _ h;have m:=YL e;subst m;refine⟨fun e=>by rw [e] at k;simp at k;omega,q⟩
end
def NdP (w:Ur)(tb B kb ub bs hi:Nat)(a:Option Us)(n c:Nat)(f:Nat ->Int)(aT aS aL aE:Us)(L:Int ->List (Int×Int))(acc:List Lf)(R:Option (List Lf×Nat))(z:List Ky)(D:Nat)(e:Ending)(w':Ur):Prop:=G2 tb ub w w'/\
 ((∃(J:List Lf) (x' cnt:Nat) (N:List Ky ->Option (Nat×Nat)) (x0:Nat×Nat),R=Uq (acc++J,x')/\ e=Ui (Ul #[Uo #[.map (Uq x0.1),.map (Uq x0.2)],.nilIface])/\ TS w' tb B kb ub bs hi a n c f aT aS aL aE L ((x':Nat):Int) (acc++J)/\
   (∀y∈J,z <+:Way y)/\ (J≠[] \/z=[])/\ cnt<=D*J.length/\ (acc++J).length<=1000/\ JF w' w.heap.size J z N cnt x0) \/
  (R=Up/\∃t v,e=Ui (Ul #[Uo #[.map Up,.map Up],.iface t v])))
noncomputable def kmF (fa fb:Dt ->Option ByteArray)(hb:Dt ->Bool)(f:Dt ->Option ByteArray):Dt ->Option ByteArray:=fun d=>
 match fa d with
 | some m=>if yes (hb d=false \/fb d=Uq m)=true then Uq m else f d
 | none=>f d
theorem QfA {fa fb:Dt ->Option ByteArray}{hb:Dt ->Bool}{f:Dt ->Option ByteArray}{v:ByteArray}:kmF fa fb hb f d=Uq v↔(fa d=Uq v/\ (hb d=false \/fb d=Uq v)) \/((∀m,fa d=Uq m ->¬(hb d=false \/fb d=Uq m))/\ f d=Uq v):=by
 unfold kmF;cases hf:fa d with
 | none=>
  constructor
  ·intro h;exact .inr ⟨fun m hm=>(by cases hm),h⟩
  ·rintro(⟨h,_⟩|⟨_,h⟩)
   ·cases h
   ·exact h
 | some m=>
  dsimp only;by_cases e:hb d=false \/fb d=Uq m
  ·rw [if_pos (Qal e)];constructor
   ·intro h;cases h;exact .inl ⟨rfl,e⟩
   ·rintro(⟨h,_⟩|⟨h,_⟩)
    ·exact h
    ·exact absurd e (h m rfl)
  ·rw [if_neg (by rw [Qaj e];simp)];constructor
   ·intro h;exact .inr ⟨fun m' hm=>by cases hm;exact e,h⟩
   ·rintro(⟨h,j⟩|⟨_,h⟩)
    ·cases h;exact absurd j e
    ·exact h
section
variable {R F T : Nat -> Int} {n : Nat} {la : List Lf} {R' F' T' : Nat -> Int} {n' : Nat} {lb : List Lf}
theorem QiJ (h:StW R F T n la){z:List Ky}{d:Dt}{v:ByteArray}(hv:Mk la la.length z d=Uq v):QbD R F T d.1 d.2 d.2 n=true:=by
 obtain⟨j,y,_,k⟩:=QeL.1 (show Mk la la.length z d≠Up by rw [hv];simp);have:=(h.2.2.1 j y).2.1;have m:(gL la j).r=d.1:=congrArg Prod.fst k;have u:(gL la j).q=d.2:=congrArg Prod.snd k;rw [m,u] at this;exact this
theorem Qp0 (h:StW R F T n la)(h':StW R' F' T' n' lb)(z:List Ky):
  kmF (Mk lb lb.length z) (Mk la la.length z) (fun d=>QbD R F T d.1 d.2 d.2 n) (kmF (Mk la la.length z) (Mk lb lb.length z) (fun d=>QbD R' F' T' d.1 d.2 d.2 n') (fun _=>Up))=Mk (jn R F T n la R' F' T' n' lb) (jn R F T n la R' F' T' n' lb).length z:=by
 funext d;have q:∀v,kmF (Mk lb lb.length z) (Mk la la.length z) (fun d=>QbD R F T d.1 d.2 d.2 n) (kmF (Mk la la.length z) (Mk lb lb.length z) (fun d=>QbD R' F' T' d.1 d.2 d.2 n') (fun _=>Up)) d=Uq v↔Mk (jn R F T n la R' F' T' n' lb) (jn R F T n la R' F' T' n' lb).length z d=Uq v:=fun v=>by
  rw [QfA,QfA,Qn8 h h'];constructor
  ·rintro(⟨k,j|j⟩|⟨_,⟨k,j|j⟩|⟨_,g⟩⟩)
   ·exact .inr ⟨k,j⟩
   ·exact .inl ⟨j,.inl k⟩
   ·exact .inl ⟨k,.inr j⟩
   ·exact .inl ⟨k,.inl j⟩
   ·cases g
  ·rintro(⟨k,j|j⟩|⟨k,j⟩)
   ·exact .inl ⟨j,.inr k⟩
   ·refine .inr ⟨fun m hm=> ?_,.inl ⟨k,.inl j⟩⟩;have:=QiJ h' hm;rw [this] at j;cases j
   ·exact .inl ⟨k,.inl j⟩
 cases hv:Mk (jn R F T n la R' F' T' n' lb) (jn R F T n la R' F' T' n' lb).length z d with
 | some v=>exact(q v).2 hv
 | none=>
  cases hk:kmF (Mk lb lb.length z) (Mk la la.length z) (fun d=>QbD R F T d.1 d.2 d.2 n) (kmF (Mk la la.length z) (Mk lb lb.length z) (fun d=>QbD R' F' T' d.1 d.2 d.2 n') (fun _=>Up)) d with
  | none=>rfl
  | some v=>have:=(q v).1 hk;rw [hv] at this;cases this
end
theorem JT.start {w:Ur}(hk:Qa1 w 230 (α:=Ky) QaE Qbd x0.1 0 (fun _=>Up))(hm:Qa1 w 115 (α:=Dt) dtV Qb2 x0.2 c (Mk J J.length z))(hne:x0.1≠x0.2)(hB:B<=x0.1/\ B<=x0.2):JT w B J z (fun _=>False) (fun r=>if r=[] then Uq x0 else Up) c x0:=by
 have nil:∀(p:List Ky) (x:Nat×Nat),(if p=[] then Uq x0 else Up)=Uq x ->p=[]/\ x=x0:=fun p x hx=>by
  by_cases e:p=[]
  ·rw [if_pos e] at hx;exact⟨e,(Option.some.inj hx).symm⟩
  ·rw [if_neg e] at hx;cases hx
 refine⟨⟨fun p x hx=> ?_,fun p x hx=> ?_,fun p q x y hx hy=> ?_,fun p x hx=> ?_,fun p hp=> ?_,fun p y hp=>by rw [if_neg oP]⟩,if_pos rfl,fun y r=> ?_⟩
 ·obtain⟨rfl,rfl⟩:=nil p x hx;exact(hk.mono (Uv _)).ext fun y=>oP
 ·obtain⟨rfl,rfl⟩:=nil p x hx;exact hm
 ·obtain⟨rfl,rfl⟩:=nil p x hx;obtain⟨rfl,rfl⟩:=nil q y hy;exact⟨hne,fun _=>rfl,fun _=>rfl⟩
 ·obtain⟨rfl,rfl⟩:=nil p x hx;exact hB
 ·cases p with
  | nil=>simp at hp
  | cons y r=>simp only [mJ];rw [if_neg (by rw [Qaj (fun h=>h)];simp)]
 ·rw [if_neg oP];exact⟨fun h=>(by cases h),fun h=>h.1.elim⟩
noncomputable def kmS (fa fb:Dt ->Option ByteArray)(hb:Dt ->Bool)(f:Dt ->Option ByteArray)(ds:List Dt):Dt ->Option ByteArray:=fun d=>if yes (d∈ds)=true then kmF fa fb hb f d else f d
section
variable {fa fb : Dt -> Option ByteArray} {hb : Dt -> Bool} {f : Dt -> Option ByteArray} {ds : List Dt} {d : Dt} {v : ByteArray}
theorem QjT:kmS fa fb hb f []=f:=by
 funext x;unfold kmS;rw [if_neg (by rw [Qaj oP];simp)]
theorem QhV (hd:fa d=Uq v)(hk:hb d=false \/fb d=Uq v):kmS fa fb hb f (ds++[d])=QbX (kmS fa fb hb f ds) d (Uq v):=by
 funext x;unfold kmS QbX;by_cases e:x=d
 ·subst e;rw [if_pos (Qal oP)];have:kmF fa fb hb f x=Uq v:=QfA.2 (.inl ⟨hd,hk⟩);rw [this];simp
 ·rw [if_neg e];dsimp only;by_cases j:x∈ds
  ·rw [if_pos (Qal (by simp [j])),if_pos (Qal j)]
  ·rw [if_neg (by rw [Qaj (by simp [e,j])];simp),if_neg (by rw [Qaj j];simp)]
theorem QhU (hd:fa d=Uq v)(hn:d ∉ ds)(hk:¬(hb d=false \/fb d=Uq v)):kmS fa fb hb f (ds++[d])=kmS fa fb hb f ds:=by
 funext x;unfold kmS;by_cases e:x=d
 ·subst e;rw [if_pos (Qal oP),if_neg (by rw [Qaj hn];simp)];unfold kmF;rw [hd];dsimp only;rw [if_neg (by rw [Qaj hk];simp)]
 ·by_cases j:x∈ds
  ·rw [if_pos (Qal (by simp [j])),if_pos (Qal j)]
  ·rw [if_neg (by rw [Qaj (by simp [e,j])];simp),if_neg (by rw [Qaj j];simp)]
theorem Qlz (hk:Qc6 fa ds):kmS fa fb hb f ds=kmF fa fb hb f:=by
 funext x;unfold kmS;by_cases e:x∈ds
 ·rw [if_pos (Qal e)]
 ·rw [if_neg (by rw [Qaj e];simp)];have:fa x=Up:=by
   cases hv:fa x with
   | none=>rfl
   | some v=>exact absurd ((hk.2 x).2 (by rw [hv];simp)) e
  unfold kmF;rw [this]
end
noncomputable def cW (J:List Lf)(z:List Ky):Nat:=(J.filter (fun x=>yes (z <+:Way x))).length
noncomputable def mW (J:List Lf)(z:List Ky):Nat:=(J.filter (fun x=>yes (Way x=z))).length
theorem QkI (f:Ky ->Nat)(y:Ky):∀ks:List Ky,ks.Nodup ->y∈ks ->(ks.map fun u=>f u+if u=y then 1 else 0).sum=(ks.map f).sum+1
 | [],_,h=>by cases h
 | a::r,hn,h=>by
  have j:=List.nodup_cons.1 hn;simp only [Vm,Vs];by_cases e:a=y
  ·have m:(r.map fun u=>f u+if u=y then 1 else 0)=r.map f:=Vr fun u hu=>by
    have:u≠y:=fun e2=>j.1 (by rw [e,<- e2];exact hu);rw [if_neg this];rfl
   rw [m,if_pos e];omega
  ·have k:y∈r:=by
    rcases List.mem_cons.1 h with h|h
    ·exact absurd h.symm e
    ·exact h
   rw [QkI f y r j.2 k,if_neg e];omega
theorem QfT (f g:Ky ->Nat)(ks:List Ky)(h:∀u∈ks,f u=g u):(ks.map f).sum=(ks.map g).sum:=by
 rw [Vr h]
theorem Qmq (z:List Ky)(ks:List Ky)(hn:ks.Nodup):∀J:List Lf,(∀x∈J,∀y,z++[y] <+:Way x ->y∈ks) ->cW J z=mW J z+(ks.map fun y=>cW J (z++[y])).sum
 | [],_=>by
  have:(ks.map fun y=>cW [] (z++[y])).sum=0:=by
   have z0:∀ks:List Ky,(ks.map fun y=>cW [] (z++[y])).sum=0:=fun ks=>by
    induction ks with
    | nil=>rfl
    | cons a r m=>simp only [Vm,Vs,m];rfl
   exact z0 ks
  rw [this];rfl
 | x::J,h=>by
  have m:=Qmq z ks hn J (fun u i=>h u (VT _ i));have A:∀(P:Lf ->Bool),((x::J).filter P).length=(J.filter P).length+if P x=true then 1 else 0:=fun P=>by
   cases j:P x with
   | true=>simp [j]
   | false=>simp [j]
  have q:cW (x::J) z=cW J z+if yes (z <+:Way x)=true then 1 else 0:=A _;have v:mW (x::J) z=mW J z+if yes (Way x=z)=true then 1 else 0:=A _;have g:∀y,cW (x::J) (z++[y])=cW J (z++[y])+if yes (z++[y] <+:Way x)=true then 1 else 0:=fun y=>A _;by_cases j:z <+:Way x
  ·obtain⟨s,k⟩:=j;cases s with
   | nil=>
    have o:Way x=z:=k▸oP;have p:∀y,¬z++[y] <+:Way x:=fun y hh=>by
     have:=hh.length_le;rw [o] at this;simp at this;omega
    rw [q,v,if_pos (Qal (by rw [o];exact Vv _)),if_pos (Qal o),m,QfT (fun y=>cW (x::J) (z++[y])) (fun y=>cW J (z++[y])) ks (fun y _=>by rw [g y,if_neg (by rw [Qaj (p y)];simp)];rfl)];omega
   | cons y s=>
    have M:z++[y] <+:Way x:=(by rw [<- k,show z++y::s=(z++[y])++s by simp];exact YH _ _);have b:Way x≠z:=fun e=>by
     have:=congrArg List.length (k.trans e);simp at this
    have only:∀u,z++[u] <+:Way x↔u=y:=fun u=>by
     constructor
     ·intro i;obtain⟨t,E⟩:=i;rw [<- k] at E;have:[u]++t=y::s:=YL (by rw [<- Vu];exact E);injection this
     ·intro e;rw [e];exact M
    rw [q,v,if_pos (Qal ⟨y::s,k⟩),if_neg (by rw [Qaj b];simp),m];have O:(ks.map fun u=>cW (x::J) (z++[u])).sum=(ks.map fun u=>cW J (z++[u])+if u=y then 1 else 0).sum:=QfT _ _ ks (fun u _=>by
     rw [g u];by_cases e:u=y
     ·rw [if_pos e,if_pos (Qal ((only u).2 e))]
     ·rw [if_neg e,if_neg (by rw [Qaj (fun hh=>e ((only u).1 hh))];simp)])
    rw [O,QkI (fun u=>cW J (z++[u])) y ks hn (h x (Vt) y M)];omega
  ·have b:Way x≠z:=fun e=>j (by rw [e];exact Vv _);have p:∀y,¬z++[y] <+:Way x:=fun y hh=>j (List.IsPrefix.trans (YH _ _) hh);rw [q,v,if_neg (by rw [Qaj j];simp),if_neg (by rw [Qaj b];simp),m,QfT (fun y=>cW (x::J) (z++[y])) (fun y=>cW J (z++[y])) ks (fun y _=>by rw [g y,if_neg (by rw [Qaj (p y)];simp)];rfl)];omega
theorem Qo5 (J:List Lf):cW J []=J.length:=by
 unfold cW;rw [List.filter_eq_self.2 (fun x _=>Qal List.nil_prefix)]
section
variable {α β : Type} {w : Ur} {t : TypeId} {kv : α -> Value} {vo : Option β -> Value} {b c : Nat} {f : α -> Option β} {D : DataW Value}
theorem Qn9 {es:List (Lit×DataW Value)}(hp:es.Pairwise (fun p q=>p.1≠q.1))(hc:∀p∈es,∃x,keyOf prog t (kv x)=Uq p.1):∃xs:List α,xs.length=es.length/\ xs.Nodup/\ (∀x,x∈xs ->∃p∈es,keyOf prog t (kv x)=Uq p.1)/\∀p∈es,∃x∈xs,keyOf prog t (kv x)=Uq p.1:=by
 induction es with
 | nil=>exact⟨[],rfl,VM,fun x k=>(by cases k),fun p hp=>(by cases hp)⟩
 | cons p r ih=>
  have z:=List.pairwise_cons.1 hp;obtain⟨xs,h,g,v,o⟩:=ih z.2 (fun q j=>hc q (VT _ j));obtain⟨x,k⟩:=hc p (Vt);refine⟨x::xs,by simp [h],List.nodup_cons.2 ⟨fun hm=> ?_,g⟩,fun y u=> ?_,fun q j=> ?_⟩
  ·obtain⟨q,j,e⟩:=v x hm;rw [k] at e;exact z.1 q j (Option.some.inj e)
  ·rcases List.mem_cons.1 u with e|e
   ·rw [e];exact⟨p,Vt,k⟩
   ·obtain⟨q,j,m⟩:=v y e;exact⟨q,VT _ j,m⟩
  ·rcases List.mem_cons.1 j with e|e
   ·rw [e];exact⟨x,Vt,k⟩
   ·obtain⟨y,u,m⟩:=o q e;exact⟨y,VT _ u,m⟩
theorem FM.size (h:FM w t kv vo b c f D)(K:Keyed prog t)(hi:∀x y,kv x=kv y ->x=y){ks:List α}(hk:Qc6 f ks):Maps.size D=ks.length:=by
 obtain⟨k,rfl,Q,O⟩:=h.own.entries K;have q:∀p∈k,has (DataW.map k) p.1=true:=fun p j=>by
  rw [has_eq];exact List.any_eq_true.2 ⟨p,j,WideAt.sameKey_self (O p j)⟩
 obtain⟨xs,s,A,E,M⟩:=Qn9 (t:=t) (kv:=kv) Q (fun p j=>h.cov p.1 (q p j));have o:∀x,x∈xs ->x∈ks:=fun x hx=>by
  obtain⟨p,j,e⟩:=E x hx;refine(hk.2 x).2 fun hn=> ?_;have:=(h.at' x p.1 e).1;rw [q p j,hn] at this;cases this
 have Z:Maps.size (DataW.map k)=k.length:=by simp [Maps.size]
 rw [Z,<- s];have i:∀x,x∈ks ->x∈xs:=fun x hx=>by
  obtain⟨g,u⟩:=h.ok x ((hk.2 x).1 hx);have r:=(h.at' x g u).1;have V:(f x).isSome=true:=by
   cases hv:f x with
   | none=>exact absurd hv ((hk.2 x).1 hx)
   | some v=>rfl
  rw [V,has_eq] at r;obtain⟨p,j,z⟩:=List.any_eq_true.1 r;have U:p.1=g:=by
   first
    | exact WideAt.sameKey_eq z
    | exact(WideAt.sameKey_eq z).symm
  obtain⟨y,Y,m⟩:=M p j;rw [U] at m;have:=hi _ _ (K.inj u m);rw [this];exact Y
 exact((List.perm_ext_iff_of_nodup A hk.1).2 (fun x=>⟨o x,i x⟩)).length_eq
end
theorem Qlf(hd:Dis J J.length):J.Pairwise (fun x y=>((x.r,x.q):Dt)≠(y.r,y.q)):=by
 refine List.pairwise_iff_getElem.2 fun i j hi hj hij e=> ?_;have k:=hd j hj i hij;have m:gL J i=J[i]:=by simp [gL,UR,hi]
 have u:gL J j=J[j]:=by simp [gL,UR,hj]
 rw [m,u] at k;exact k ⟨congrArg Prod.fst e,congrArg Prod.snd e⟩
theorem QiK(hd:Dis J J.length)(z:List Ky):Qc6 (Mk J J.length z) ((J.filter (fun x=>yes (Way x=z))).map fun x=>((x.r,x.q):Dt)):=by
 refine⟨?_,fun d=> ?_⟩
 ·rw [List.Nodup,List.pairwise_map];exact(Qlf hd).sublist List.filter_sublist
 ·rw [List.mem_map];constructor
  ·rintro⟨x,t,e⟩;have u:=List.mem_filter.1 t;obtain⟨j,k,m⟩:=Qaq.1 u.1;have g:Way x=z:=by
    refine Classical.byContradiction fun hn=> ?_;have:=u.2;rw [Qaj hn] at this;cases this
   exact QeL.2 ⟨j,k,by rw [m];exact g,by rw [m];exact e⟩
  ·intro h;obtain⟨j,k,v,y⟩:=QeL.1 h;exact⟨gL J j,List.mem_filter.2 ⟨Qaq.2 ⟨j,k,rfl⟩,Qal v⟩,y⟩
theorem Qkg(hd:Dis J J.length){w:Ur}{b:Nat}{D:DataW Value}(h:FM w 115 dtV Qb2 b c (Mk J J.length z) D):Maps.size D=mW J z:=by
 rw [h.size Qat (fun _ _=>Qc8) (QiK hd z),YC];rfl
def MO {α β:Type}(w:Ur)(t:TypeId)(kv:α ->Value)(vo:Option β ->Value)(mo:Option Nat)(c:Nat)(f:α ->Option β):Prop:=
 match mo with
 | some b=>Qa1 w t kv vo b c f
 | none=>∀x,f x=Up
def Rng {α β:Type}(w:Ur)(t:TypeId)(kv:α ->Value)(vo:Option β ->Value)(mo:Option Nat)(r c:Nat)(f:α ->Option β)(ds:List α)(cnt:Nat):Prop:=
 match mo with
 | some b=>∃D left,w.ranges prog t QgL b r c D left cnt/\ FM w t kv vo b c f D/\ Qdq t kv f left ds/\ ds.length+cnt<=Maps.size D
 | none=>w.heap[r]? =Uq (.mapIter Up 0 #[] 0)/\ ds=[]/\ cnt=0/\∀x,f x=Up
section
variable {α β : Type} {w w' : Ur} {t : TypeId} {kv : α -> Value} {vo : Option β -> Value} {mo : Option Nat} {r c cnt : Nat} {f : α -> Option β} {ds : List α}
theorem MO.lt (h:MO w t kv vo mo c f):∀b,mo=YO b ->b<w.heap.size:=fun b e=>by subst e;exact Qa1.lt h
theorem MO.kept {row:Option Nat}(h:MO w t kv vo mo c f)(hg:w.grownBy w' row)(hne:∀b,mo=YO b ->row≠YO b):MO w' t kv vo mo c f:=by
 cases mo with
 | none=>exact h
 | some b=>exact Qa1.same h (hg.block b (Qa1.lt h) (fun e=>hne b rfl e.symm))
theorem MO.bw {B:Nat}(h:MO w t kv vo mo c f)(hb:Below B w w')(hne:∀b,mo=YO b ->b<B):MO w' t kv vo mo c f:=by
 cases mo with
 | none=>exact h
 | some b=>exact Qa1.same h (hb.block b (hne b rfl))
theorem Rng.left_eq {b:Nat}(h:Rng w t kv vo (YO b) r c f ds cnt):w.rangeLeft b r=cnt:=by
 obtain⟨D,j,h,_⟩:=h;exact h.left_eq
theorem Rng.lt (h:Rng w t kv vo mo r c f ds cnt):r<w.heap.size:=by
 cases mo with
 | none=>exact(Array.getElem?_eq_some_iff.1 h.1).1
 | some b=>obtain⟨D,j,h,_⟩:=h;exact h.lt
theorem Rng.mlt (h:Rng w t kv vo mo r c f ds cnt):∀b,mo=YO b ->b<w.heap.size:=fun b e=>by
 subst e;obtain⟨D,j,h,_⟩:=h;exact h.owns.lt
theorem Rng.len (h:Rng w t kv vo mo r c f ds cnt):ds.length+cnt<=c:=by
 cases mo with
 | none=>rw [h.2.1,h.2.2.1];simp
 | some b=>obtain⟨D,m,h,j,_,k⟩:=h;have:=h.owns.size_le;omega
theorem Rng.kept {row:Option Nat}(h:Rng w t kv vo mo r c f ds cnt)(hg:w.grownBy w' row)(hne:∀b,mo=YO b ->row≠YO b)(hr:row≠YO r):Rng w' t kv vo mo r c f ds cnt:=by
 have q:=h.lt;cases mo with
 | none=>exact⟨(hg.block r q (fun e=>hr e.symm)).trans h.1,h.2⟩
 | some b=>
  obtain⟨D,u,h,j,m⟩:=h;have k:=h.kept hg (fun e=>hne b rfl e.symm) (fun e=>hr e.symm);exact⟨D,u,k,⟨k.owns,j.at',j.cov,j.ok⟩,m⟩
theorem Rng.same (h:Rng w t kv vo mo r c f ds cnt)(hg:∀b,mo=YO b ->w'.heap[b]? =w.heap[b]?)(hr:w'.heap[r]? =w.heap[r]?):Rng w' t kv vo mo r c f ds cnt:=by
 cases mo with
 | none=>exact⟨hr.trans h.1,h.2⟩
 | some b=>
  obtain⟨D,m,⟨v,u,A,s,q,g,F,i,z,o,p⟩,j,y⟩:=h;have k:w'.ranges prog t QgL b r c D m cnt:=⟨v,u,A,s,q,(hg b rfl).trans g,F,i,z,hr.trans o,p⟩;exact⟨D,m,k,⟨k.owns,j.at',j.cov,j.ok⟩,y⟩
end
theorem QfP {w:Ur}(h:w.heap[r]? =Uq (.mapIter Up 0 #[] 0))(ty:TypeId):(Instr.next (Uk (Uc r)) false ty).run prog w=.ok (Ul #[Un false]) w:=by
 simp only [Instr.next,getObj,Sem.run_bind,Sem.run,h,Result.andThen];rfl
section
variable {α β : Type} {t : TypeId} {kv : α -> Value} {vo : Option β -> Value} {mo : Option Nat} {r c cnt : Nat} {f : α -> Option β} {ds : List α}
variable (w : Ur) {ops : Array Oper} {rest : List Oper} {o : Oper} {a : Act} {Q : Exit -> Act -> Ur -> Prop}
theorem Qbc (hg:o.guard=Up)(m:Operand)(mt:TypeId)(hop:o.op=Op.range mt m)(t e:TypeId)(K:Keyed prog t)(ht:prog.underlying mt=Uq (.map t e))(kv:α ->Value)(vo:Option β ->Value)(mo:Option Nat)(c:Nat)(f:α ->Option β)
  (hm:a.eval m=.map mo) (h:MO w t kv vo mo c f)
  (hK:∀w' cnt,Rng w' t kv vo mo w.heap.size c f ([]:List α) cnt ->w.grownBy w' Up ->w'.heap.size=w.heap.size+1 ->wpList prog ops Q rest (a.put o.dst (Uk (Uc w.heap.size))) w'):
  wpList prog ops Q (o::rest) a w:=by
 cases mo with
 | some b=>
  obtain⟨D,h⟩:=h;refine wpList_range_own w hg m mt hop t e K ht QgL b c D hm h.own ?_;intro r k j q;have u:=j.block b (Qa1.lt ⟨D,h⟩) oP;exact hK r _ ⟨D,_,k,⟨k.owns,h.at',h.cov,h.ok⟩,Qdq.start h,oP⟩ j q
 | none=>
  refine wpList_plain hg fun K' hK'=> ?_;unfold Oper.wp;simp [execOp,hop,hm,run_range_nilMap w mt t e ht,Result.andThen];exact hK' _ _ (hK _ 0 ⟨heap_alloc_new w _,rfl,rfl,h⟩ (Ym w _ Up) oP)
theorem Qbm (hg:o.guard=Up)(it:Operand)(hop:o.op=Op.next it false)(t:TypeId)(K:Keyed prog t)(kv:α ->Value)(hi:∀x y,kv x=kv y ->x=y)(invK:∀key j,keyOf prog t key=Uq j ->∃x,key=kv x)(vo:Option β ->Value)(mo:Option Nat)(r c:Nat)(f:α ->Option β)(ds:List α)(cnt:Nat)
  (hit:a.eval it=Uk (Uc r)) (h:Rng w t kv vo mo r c f ds cnt)
  (hDone:Qc6 f ds ->wpList prog ops Q rest (a.put o.dst (Ul #[Un false])) w)
  (hMore:∀(x:α) (y:β) (w':Ur) (cnt' b:Nat),mo=Uq b ->f x=Uq y ->x ∉ ds ->(∃j,keyOf prog t (kv x)=Uq j) ->Rng w' t kv vo mo r c f (ds++[x]) cnt' ->cnt'<cnt ->w.grownBy w' (Uq r) ->w'.heap.size=w.heap.size ->
   (Instr.entry (Uk (Uc r))).run prog w'=.ok (Ul #[kv x,vo (Uq y)]) w' ->wpList prog ops Q rest (a.put o.dst (Ul #[Un true,kv x,vo (Uq y)])) w'):
  wpList prog ops Q (o::rest) a w:=by
 cases mo with
 | none=>
  refine wpList_plain hg fun K' hK'=> ?_;unfold Oper.wp;simp [execOp,hop,hit,QfP h.1,Result.andThen];refine hK' _ _ (hDone ?_);rw [h.2.1];exact⟨VM,fun x=>⟨fun hx=>(by cases hx),fun hx=>absurd (h.2.2.2 x) hx⟩⟩
 | some b=>
  obtain⟨D,L,G,k,u,N⟩:=h;refine wpList_next_ranges (α:=α) (β:=Value) w hg it hop t K QgL kv id invK (fun v _ _=>⟨v,rfl⟩) b r c D L cnt hit G (fun h0 hl=>hDone (u.done k hl)) ?_;intro x v j y w1 E m p I g s Y U H O;have V:=has_true_of_atKey g;have i:=(k.at' x j m).1;rw [V] at i;obtain⟨z,A⟩:∃z,f x=Uq z:=by
   cases e:f x with
   | none=>rw [e] at i;cases i
   | some z=>exact⟨z,rfl⟩
  have J:v=vo (Uq z):=by
   have q:=(k.at' x j m).2;rw [g,A] at q;have M:=QdG I;rw [M] at q;injection q
  subst J;have Z:x ∉ ds:=fun hx=>by have:=(u.old x hx).2 j m;rw [p] at this;cases this
  exact hMore x z w1 E b rfl A Z ⟨j,m⟩ ⟨D,_,s,⟨s.owns,k.at',k.cov,k.ok⟩,u.step k K hi m p g,oS⟩ Y U H O
end
section
variable {α β : Type} {w w' : Ur} {t : TypeId} {kv : α -> Value} {vo : Option β -> Value} {mo : Option Nat} {r c cnt : Nat} {f : α -> Option β} {ds : List α}
theorem MO.look_ok {mt e:TypeId}(h:MO w t kv vo mo c f)(K:Keyed prog t)(ht:prog.underlying mt=YO (.map t e))(hz:(zeroValue e).run prog w=.ok (vo Up) w){x:α}{kl:Lit}(hk:keyOf prog t (kv x)=YO kl):
  (Instr.lookup mt (.map mo) (kv x) true).run prog w=.ok (Ul #[vo (f x),Un (f x).isSome]) w:=by
 cases mo with
 | some b=>exact Qa1.look_ok h K ht hz hk
 | none=>
  rw [h x];exact Maps.look_nil true K ht hz hk
end
theorem Qd7 {r q:Int}{kl:Lit}(h:keyOf prog 115 (dtV (r,q))=Uq kl):(Lit.int Uh r).wf=true/\ (Lit.int Uh q).wf=true:=by
 unfold keyOf at h;rw [underlying115] at h;simp only [Qnp,Bool.true_and] at h;have z:0<prog.types.size:=of_decide_eq_true oK;obtain⟨m,y⟩:∃m,prog.types.size=m+1:=⟨prog.types.size - 1,oM⟩;rw [y] at h;have u:prog.cellsOf 115=2:=oK;have v:prog.cellsOf 3=1:=oK;simp [dtV,Qga,Value.formed,underlying115,u,Program.keyLits,underlying3,v,Value.cells] at h;by_cases j:(Lit.int Uh r).wf=true
 ·by_cases k:(Lit.int Uh q).wf=true
  ·exact⟨j,k⟩
  ·simp [j,k] at h
 ·simp [j] at h
theorem Qrj:prog.fieldsOf 225=match prog.underlying 225 with|some (.struct fs)=>fs|_=>#[]:=rfl
theorem Ql9:prog.stoodInHeld 225=false:=oK
theorem Qnr (s s':ByteArray)(w:Ur):(binOp .eql 225 (Uo #[Um s]) (Uo #[Um s'])).run prog w=.ok (Un (s.toList==s'.toList)) w:=by
 rw [run_eql_struct,show (10000:Nat)=9999+1 from rfl,run_equalIn_agg _ _ _ _ _ oK Ql9,Qrj,underlying225];cases h1:(s.toList==s'.toList)<;>simp [Op.eqFields,go_sem,underlying9,h1]
theorem Qfg (ka ma kb mb kj na:Option Nat)(bj bm ca cb c:Nat)(fa fb f:Dt ->Option ByteArray)(hb:Dt ->Bool)(w:Ur)
  (hA:MO w 115 dtV Qb2 ma ca fa) (hB:MO w 115 dtV Qb2 mb cb fb) (hJ:Qa1 w 115 dtV Qb2 bj c f) (hna:ma≠Uq bj) (hnb:mb≠Uq bj) (hc:c+ca<=1048576)
  (hH:∀w',w.grownBy w' (Uq bj) ->∀r q I,keyOf prog 115 (dtV (r,q))=Uq I ->Cl 178 #[.map (Uq bm),Uo #[Ud r,Ud q]] w' fun e w''=>e=Ui (Un (hb (r,q)))/\ Bl w' w''):
  Cl 194 #[Uo #[.map ka,.map ma,.map na],Uo #[.map kb,.map mb,.map (Uq bm)],Uo #[.map kj,.map (Uq bj)]] w fun e w'=>e=Ui (Ul #[])/\ Qa1 w' 115 dtV Qb2 bj (c+ca) (kmF fa fb hb f)/\ w.grownBy w' (Uq bj):=by
 obtain⟨W,Y⟩:=zE (((w.alloc (Uj #[.map ka,.map ma,.map na] 176)).alloc (Uj #[.map kb,.map mb,.map (Uq bm)] 176)).alloc (Uj #[.map kj,.map (Uq bj)] 172));have B:w.grownBy W (Uq bj):=Y▸((Ym w _ _).trans (Ym _ _ _)).trans (Ym _ _ _);have b0:Bl w W:=Y▸((zO _ _).alloc oP _).alloc oS _;have X0:Bx3 W w.heap.size (.map ka) (.map ma) (.map na):=by
  rw [<- Y];exact((Bx3.made w (.map ka) (.map ma) (.map na) 176).bw (zO _ _) (Bx3.made w (.map ka) (.map ma) (.map na) 176).lt).bw (zO _ _) oS
 have X1:Bx3 W (w.heap.size+1) (.map kb) (.map mb) (.map (Uq bm)):=by
  rw [<- Y];have:=Bx3.made (w.alloc (Uj #[.map ka,.map ma,.map na] 176)) (.map kb) (.map mb) (.map (Uq bm)) 176;exact(by simpa using this:Bx3 _ (w.heap.size+1) _ _ _).bw (zO _ _) oP
 have X2:Bx2 W (w.heap.size+2) (.map kj) (.map (Uq bj)):=by
  rw [<- Y];simpa using Bx2.made ((w.alloc (Uj #[.map ka,.map ma,.map na] 176)).alloc (Uj #[.map kb,.map mb,.map (Uq bm)] 176)) (.map kj) (.map (Uq bj)) 172
 have HA:=hid (hA.kept B (fun b e h=>hna (by rw [e];exact h.symm)));have HB:=hid (hB.kept B (fun b e h=>hnb (by rw [e];exact h.symm)));have HJ:=hid (Qa1.same hJ (b0.block bj hJ.lt));have g:=hid (⟨hna,hnb,hJ.lt,hc⟩:ma≠Uq bj/\ mb≠Uq bj/\ bj<w.heap.size/\ c+ca<=1048576);have HH:=hid (fun w' (hg:W.grownBy w' (Uq bj))=>hH w' (B.trans hg));have Gj:=hid B;have Gq:=hid (fun b (e:ma=Uq b)=>hA.lt b e);have H8:W.heap.size=w.heap.size+3:=Y▸oP;have Ho:=hid H8;have X:=hid (⟨X1,X2⟩:Bx3 W (w.heap.size+1) (.map kb) (.map mb) (.map (Uq bm))/\ Bx2 W (w.heap.size+2) (.map kj) (.map (Uq bj)));have k1:=X0.c1;clear hA hB hJ hna hnb hc hH B b0 X0 X1 X2 H8;go_enter func194,ntmps194;go_wp2_with (at_range;refine Qbc _ rfl _ 170 rfl 115 225 Qat underlying170 dtV Qb2 ma ca fa rfl HA ?_;intro w0 Gn Hc Hr Go);have Hy:Hid (W.grownBy w0 (Uq bj)):=hid (Hr.but _);have H1:Hid (Qa1 w0 115 dtV Qb2 bj (c+([]:List Dt).length) (kmS fa fb hb f [])):=hid (by rw [QjT];exact Qa1.same HJ (Hr.block bj HJ.lt oP));clear Hr Go HJ HA k1 Y;try go_frame
 go_loopw [] (fun wr=>∃(m:List Dt) (Hp:Nat),Rng wr 115 dtV Qb2 ma W.heap.size ca fa m Hp/\ Hid (Qa1 wr 115 dtV Qb2 bj (c+m.length) (kmS fa fb hb f m))/\ Hid (W.grownBy wr (Uq bj))) (fun wr=>wr.rangeLeft (ma.getD 0) W.heap.size);case atStart=>exact⟨[],_,Hc,H1,Hy⟩
 case round=>
  clear Hc H1 Hy;obtain⟨m,Hp,Hi,Hm,H0⟩:=hrel;have Ha:=hid Hi;go_wp2_with (at_next;refine Qbm _ rfl _ rfl 115 Qat dtV (fun _ _=>Qc8) (fun key I y=>Qg2 y) Qb2 ma W.heap.size ca fa m Hp rfl Hi ?_ ?_)
  ·intro y;have HE:Hid (Qa1 wr 115 dtV Qb2 bj (c+ca) (kmF fa fb hb f)):=hid (by rw [<- Qlz y];exact Hm.mono (oH Ha.len));have Gi:=hid (Gj.trans H0);clear y Hi;go_wp2_with fail;go_end0;exact⟨rfl,HE,Gi⟩
  ·intro v u s M Hq b1 Gc Ga Ge I Gb Hd Hb Hs Gp H9;have T:=hid Ga;have H5:=hid Ge;have Hg:=hid Gb;have Hw:Hid (c+m.length<maxLen):=hid (by have A:=Ha.len;have h2:=g.2.2.2;have h3:=Hb;unfold maxLen;omega);have Hh:Hid (∀i,Rng i 115 dtV Qb2 ma W.heap.size ca fa (m++[(v,u)]) Hq ->i.rangeLeft (ma.getD 0) W.heap.size<wr.rangeLeft (ma.getD 0) W.heap.size):=hid (fun i h9=>by
    have A:=Ha.out;rw [Gc] at h9 A ⊢;show i.rangeLeft b1 _<wr.rangeLeft b1 _;rw [h9.left_eq,A.left_eq];exact Hb)
   have Hz:Hid (W.grownBy M (Uq bj)):=hid (H0.andThen Hs (fun j e=>by cases e;exact .inl zL));have Gr:Hid (W.heap.size<=M.heap.size):=hid Hz.size;have H2:Hid (Qa1 M 115 dtV Qb2 bj (c+m.length) (kmS fa fb hb f m)):=hid (Qa1.same Hm (Hs.block bj Hm.lt (fun e=>by have A:=g.2.2.1;have h2:=Ho.out;injection e with e;omega)));have Hn:=hid Hd;clear Ga Ge Gb Hi Hd Hb Hs Gp Gc;obtain⟨O,Hk⟩:=zE ((M.alloc (Uj #[Ud v,Ud u] 115)).alloc (Uj #[Um s] 225));have V:Bl M O:=Hk▸Qak _ _ _;have D6:Bx2 O M.heap.size (Ud v) (Ud u):=Hk▸(Bx2.made M _ _ _).allocs _;have M6:Bx1 O (M.heap.size+1) (Um s):=(by rw [<- Hk];simpa using Bx1.made (M.alloc (Uj #[Ud v,Ud u] 115)) (Um s) 225);have J:W.grownBy O (Uq bj):=Hz.andThen (row':=Up) ⟨V.os,V.tape,V.output,V.size,fun k y _=>V.block k y⟩ (fun j e=>by cases e);have o:∀k,w.heap.size<=k ->Uq k≠Uq bj:=fun k y e=>by have A:=g.2.2.1;injection e with e;omega
   have o1:=J.cell X.1.c1 (o _ oP);have o2:=J.cell X.1.c2 (o _ oP);obtain⟨d0,d1⟩:=D6.q2;have m0:=M6.c0;have Hx:=hid D6;have H3:=hid M6;have Gk:=hid J;have Gg:=hid V;have Ht:=(HB.kept J (fun b e h=>g.2.1 (by rw [e,h]))).look_ok Qat underlying170 (QfZ O) (x:=(v,u)) Hg;obtain⟨t,Gd,Gf⟩:∃t,Qb2 (fb (v,u))=Uo #[Um t]/\ ((fb (v,u)=Up/\ t=ByteArray.empty) \/fb (v,u)=Uq t):=by
    cases fb (v,u) with
    | none=>exact⟨_,rfl,.inl ⟨rfl,rfl⟩⟩
    | some t=>exact⟨t,rfl,.inr rfl⟩
   obtain⟨q,E⟩:=zE ((fb (v,u)).isSome);rw [Gd,E] at Ht;have Gl:=hid Gf;have H6:=hid E;clear Gd Gf E;dsimp only [dtV,Qga,Qb2] at H9 Ht ⊢;clear V D6 M6 J o;obtain⟨w7,Hu⟩:=zE (O.alloc (Uj #[Um t] 225));have p:Bl O w7:=Hu▸zO _ _;have T7:Bx1 w7 O.heap.size (Um t):=Hu▸Bx1.made _ _ _;have He:Hid (W.grownBy w7 (Uq bj)):=hid (Gk.andThen (row':=Up) ⟨p.os,p.tape,p.output,p.size,fun k y _=>p.block k y⟩ (fun j e=>by cases e));have Gh:=hid (Qaa Gg p);have D7:=Hx.bw p Hx.lt;have M7:=H3.bw p H3.lt;have R:=hid D7;have H4:=hid M7;have H7:=hid T7;have Hv:=hid (HH w7 He v u I Hg);have o:∀k,w.heap.size<=k ->Uq k≠Uq bj:=fun k y e=>by have A:=g.2.2.1;injection e with e;omega
   have p1:=He.cell X.1.c1 (o _ oP);have p2:=He.cell X.1.c2 (o _ oP);obtain⟨q0,q1⟩:=D7.q2;clear p T7 D7 M7 o;go_wp2_with fail;refine Hv.mono ?_;rintro e F ⟨rfl,z⟩;have K:Hid (W.grownBy F (Uq bj)):=hid (He.andThen (row':=Up) ⟨z.os,z.tape,z.output,z.size,fun k y _=>z.block k y⟩ (fun j e=>by cases e));have P:=Qaa Gh z;have Hf:=hid (Qa1.same H2 (P.block bj H2.lt));have H:=hid (Hn.same (fun b e=>P.block b (Hn.mlt b e)) (P.block _ Hn.lt));have o:∀k,w.heap.size<=k ->Uq k≠Uq bj:=fun k y e=>by have A:=g.2.2.1;injection e with e;omega
   have r1:=K.cell X.2.c1 (o _ oP);have s0:=(R.bw z R.lt).c0;have s1:=(R.bw z R.lt).c1;have s2:=(H4.bw z H4.lt).c0;have s3:=(H7.bw z H7.lt).c0;clear z P o Ht H9 o1 o2 d0 d1 m0 p1 p2 q0 q1 Hk Hu Hv;cases hhb:hb (v,u) with
   | false=>
    have L:=hid hhb;clear hhb;have U:Hid (kmS fa fb hb f (m++[(v,u)])=QbX (kmS fa fb hb f m) (v,u) (Uq s)):=hid (QhV T (.inl L));go_wp2_with (refine Qay _ rfl _ _ _ 170 rfl 115 225 Qat dtV (fun _ _=>Qc8) underlying170 Qb2 bj (c+m.length) (kmS fa fb hb f m) rfl Hf Hw (v,u) s I rfl rfl Hg ?_;intro i C G);have N:=hid (H.kept G (fun b e h=>g.1 (by rw [e,h])) (fun h=>by have A:=g.2.2.1;have h2:=Ho.out;injection h with h;omega));have Q:Hid (Qa1 i 115 dtV Qb2 bj (c+(m++[(v,u)]).length) (kmS fa fb hb f (m++[(v,u)]))):=hid (by rw [U.out];simpa [Uy] using C);have Hl:=hid (K.trans G);clear C G;simp only [Act.put];go_roundw;case rel=>exact⟨_,_,N,Q,Hl⟩
    case measure=>exact Hh i N
   | true=>
    rcases Gl.out with ⟨Z,rfl⟩|Z
    ·have E:=H6.out;rw [Z] at E;subst E;have S:=hid Z;clear Z;have L:=hid hhb;clear hhb;have U:Hid (kmS fa fb hb f (m++[(v,u)])=kmS fa fb hb f m):=hid (QhU T H5 (fun h=>h.elim (fun h=>by rw [L.out] at h;cases h) (fun h=>by rw [S.out] at h;cases h)));have Q:Hid (Qa1 F 115 dtV Qb2 bj (c+(m++[(v,u)]).length) (kmS fa fb hb f (m++[(v,u)]))):=hid (by rw [U.out];exact Hf.mono oP);go_wp2_with fail;go_roundw;case rel=>exact⟨_,_,H,Q,K⟩
     case measure=>exact Hh F H
    ·have E:=H6.out;rw [Z] at E;subst E;have S:=hid Z;clear Z;have L:=hid hhb;have EQ:∀w:Ur,(binOp .eql 225 (Uo #[Um t]) (Uo #[Um s])).run prog w=.ok (Un (t.toList==s.toList)) w:=fun w=>Qnr t s w;clear hhb;by_cases Hj:t=s
     ·subst Hj;have D:(t.toList==t.toList)=true:=oP;rw [D] at EQ;clear D;have U:Hid (kmS fa fb hb f (m++[(v,u)])=QbX (kmS fa fb hb f m) (v,u) (Uq t)):=hid (QhV T (.inr S));go_wp2_with (refine Qay _ rfl _ _ _ 170 rfl 115 225 Qat dtV (fun _ _=>Qc8) underlying170 Qb2 bj (c+m.length) (kmS fa fb hb f m) rfl Hf Hw (v,u) t I rfl rfl Hg ?_;intro i C G);have N:=hid (H.kept G (fun b e h=>g.1 (by rw [e,h])) (fun h=>by have A:=g.2.2.1;have h2:=Ho.out;injection h with h;omega));have Q:Hid (Qa1 i 115 dtV Qb2 bj (c+(m++[(v,u)]).length) (kmS fa fb hb f (m++[(v,u)]))):=hid (by rw [U.out];simpa [Uy] using C);have Hl:=hid (K.trans G);clear C G;simp only [Act.put];go_roundw;case rel=>exact⟨_,_,N,Q,Hl⟩
      case measure=>exact Hh i N
     ·have D:(t.toList==s.toList)=false:=(by simpa using fun h=>Hj (toList_inj h));have Gm:=hid Hj;rw [D] at EQ;clear D Hj;have U:Hid (kmS fa fb hb f (m++[(v,u)])=kmS fa fb hb f m):=hid (QhU T H5 (fun h=>h.elim (fun h=>by rw [L.out] at h;cases h) (fun h=>by rw [S.out] at h;exact Gm (Option.some.inj h))));have Q:Hid (Qa1 F 115 dtV Qb2 bj (c+(m++[(v,u)]).length) (kmS fa fb hb f (m++[(v,u)]))):=hid (by rw [U.out];exact Hf.mono oP);go_wp2_with fail;go_roundw;case rel=>exact⟨_,_,H,Q,K⟩
      case measure=>exact Hh F H
theorem Qnb (z:List Ky)(s:ByteArray)(k:Int)(kn:Option Nat)(B c:Nat)(N:List Ky ->Option (Nat×Nat))(M:List Ky ->Dt ->Option ByteArray)(w:Ur)(kl:Lit)(hk:keyOf prog 230 (QaE (s,k))=Uq kl)(hT:Tre w B N M c):
  Cl 196 #[Uo #[.map (mF (N z)),.map (mS (N z)),.map kn],Uo #[Um s,Ud k]] w (Rt w (Uo #[.map (mF (N (z++[(s,k)]))),.map (mS (N (z++[(s,k)]))),.map kn])):=by
 have y:Hid (∀w',Bl w w' ->(Instr.lookup 169 (.map (mF (N z))) (Uo #[Um s,Ud k]) false).run prog w'=.ok (Uo #[.map (mF (N (z++[(s,k)]))),.map (mS (N (z++[(s,k)])))]) w'):=hid (fun w' b=>(hT.bw b).look z (s,k) hk);obtain⟨m,g⟩:=zE (mF (N z));obtain⟨r,p⟩:=zE (mS (N z));obtain⟨v0,t⟩:=zE (mF (N (z++[(s,k)])));obtain⟨v1,o⟩:=zE (mS (N (z++[(s,k)])));rw [g,t,o] at y;rw [g,p,t,o];obtain⟨W,u⟩:=zE (((w.alloc (Uj #[.map m,.map r,.map kn] 176)).alloc (Uj #[Um s,Ud k] 230)).alloc (Uj #[.map Up,.map Up,.map Up] 176));have j:Bl w W:=u▸((zO _ _).alloc oP _).alloc oS _;have h:Bx3 W w.heap.size (.map m) (.map r) (.map kn):=by
  rw [<- u];exact((Bx3.made w (.map m) (.map r) (.map kn) 176).bw (zO _ _) (Bx3.made w (.map m) (.map r) (.map kn) 176).lt).bw (zO _ _) oS
 have i:Bx2 W (w.heap.size+1) (Um s) (Ud k):=by
  rw [<- u];have:=Bx2.made (w.alloc (Uj #[.map m,.map r,.map kn] 176)) (Um s) (Ud k) 230;exact(by simpa using this:Bx2 _ (w.heap.size+1) _ _).bw (zO _ _) oP
 have q:Bx3 W (w.heap.size+1+1) (.map Up) (.map Up) (.map Up):=by
  rw [<- u];simpa using Bx3.made ((w.alloc (Uj #[.map m,.map r,.map kn] 176)).alloc (Uj #[Um s,Ud k] 230)) (.map Up) (.map Up) (.map Up) 176
 have Y:(Instr.lookup 169 (.map m) (Uo #[Um s,Ud k]) false).run prog W.drew=.ok (Uo #[.map v0,.map v1]) W.drew:=y _ ⟨j.os,j.tape,j.output,j.size,j.block⟩;have x0:=h.c0;have I:=h.c2;obtain⟨J,K⟩:=i.q2;obtain⟨z0,L,X⟩:=q.q3;have Z:=q.f 0;have G:=q.f 1;have H:=q.f 2;have O:=hid j;have E:=hid q;clear j h i q g p t o hT y;go_enter func196,ntmps196;go_wp2_with fail;go_region;have A:=hid (E.set (.map v0) (.map v1) (.map kn));go_wp2_with fail;obtain⟨Q,U,V⟩:=A.q3;refine zF (v:=Uo #[.map v0,.map v1,.map kn]) (by simp [results,results196,go_sem,Q,U,V]) ⟨rfl,?_⟩;exact(((O.setCell oS _).setCell oS _).setCell oS _).drew
def Qc5 (g1:Ky ->Option (Nat×Nat))(g2:Dt ->Option ByteArray):Prop:=(∃y,g1 y≠Up) \/(∃d,g2 d≠Up)
theorem Qpj (x0 x1:Nat×Nat)(s:ByteArray)(k:Int)(c:Nat)(f g1:Ky ->Option (Nat×Nat))(g2:Dt ->Option ByteArray)(w:Ur)(kl:Lit)(hk:keyOf prog 230 (QaE (s,k))=Uq kl)
  (hF:Qa1 w 230 QaE Qbd x0.1 c f) (h1:Qa1 w 230 QaE Qbd x1.1 c g1) (h2:Qa1 w 115 dtV Qb2 x1.2 c g2) (hc:c<1048576):
  Cl 195 #[Uo #[.map (Uq x0.1),.map (Uq x0.2)],Uo #[Um s,Ud k],Uo #[.map (Uq x1.1),.map (Uq x1.2)]] w fun e w'=>e=Ui (Ul #[])/\ w.grownBy w' (Uq x0.1)/\
   (Qc5 g1 g2 ->Qa1 w' 230 QaE Qbd x0.1 (c+1) (QbX f (s,k) (Uq x1)))/\ (¬Qc5 g1 g2 ->Bl w w'):=by
 obtain⟨W,g⟩:=zE (((w.alloc (Uj #[.map (Uq x0.1),.map (Uq x0.2)] 172)).alloc (Uj #[Um s,Ud k] 230)).alloc (Uj #[.map (Uq x1.1),.map (Uq x1.2)] 172));have j:Bl w W:=g▸((zO _ _).alloc oP _).alloc oS _;have Q:Bx2 W w.heap.size (.map (Uq x0.1)) (.map (Uq x0.2)):=by
  rw [<- g];exact((Bx2.made w (.map (Uq x0.1)) (.map (Uq x0.2)) 172).allocs _).allocs _
 have U:Bx2 W (w.heap.size+1) (Um s) (Ud k):=by
  rw [<- g];have:=Bx2.made (w.alloc (Uj #[.map (Uq x0.1),.map (Uq x0.2)] 172)) (Um s) (Ud k) 230;exact(by simpa using this:Bx2 _ (w.heap.size+1) _ _).allocs _
 have V:Bx2 W (w.heap.size+1+1) (.map (Uq x1.1)) (.map (Uq x1.2)):=by
  rw [<- g];simpa using Bx2.made ((w.alloc (Uj #[.map (Uq x0.1),.map (Uq x0.2)] 172)).alloc (Uj #[Um s,Ud k] 230)) (.map (Uq x1.1)) (.map (Uq x1.2)) 172
 obtain⟨t,J,K,Y⟩:=(Qa1.same h1 (j.block _ h1.lt)).len Qa4 underlying169;obtain⟨o,L,N,Z⟩:=(Qa1.same h2 (j.block _ h2.lt)).len Qat underlying170;have p:=hid (Qa1.same hF (j.block _ hF.lt));have z:=hid (And.intro Y Z);have A:Hid (w.grownBy W (Uq x0.1)):=hid ⟨j.os,j.tape,j.output,j.size,fun k hk _=>j.block k hk⟩;have G:=hid j;have b:Hid (c<maxLen):=hid oL;have E:=hid hk;have C:=Q.c0;obtain⟨D,F⟩:=U.q2;obtain⟨P,R⟩:=V.q2;have X:(0:Int)<=(t:Int):=UZ _;have B:(0:Int)<=(o:Int):=UZ _;have O:∀m,Qa1 m 230 QaE Qbd x0.1 (c+1) (QbX f (s,k) (Uq x1)) ->W.grownBy m (Uq x0.1) ->Qc5 g1 g2 ->w.grownBy m (Uq x0.1)/\
   (Qc5 g1 g2 ->Qa1 m 230 QaE Qbd x0.1 (c+1) (QbX f (s,k) (Uq x1)))/\ (¬Qc5 g1 g2 ->Bl w m):=fun m h9 g9 hh=>⟨A.trans g9,fun _=>h9,fun hn=>absurd hh hn⟩
 have M:=hid O;clear j Q U V hF h1 h2 hc hk Y Z O;by_cases q:0<t
 ·have H:decide (0<t)=true:=oW q;have r:Hid (Qc5 g1 g2):=hid (Or.inl (z.1.1 q));clear q;go_enter func195,ntmps195;go_wp2_with (refine Qay _ rfl _ _ _ 169 rfl 230 172 Qa4 QaE (fun _ _=>Qb1) underlying169 Qbd x0.1 c f rfl p b (s,k) x1 kl rfl rfl E ?_;intro m y v);have i:=hid (M m y v r);clear y v;go_end0;exact⟨rfl,i⟩
 ·obtain rfl:t=0:=oM;by_cases u:0<o
  ·have I:decide (0<o)=true:=oW u;have r:Hid (Qc5 g1 g2):=hid (Or.inr (z.2.1 u));clear q u;go_enter func195,ntmps195;go_wp2_with (refine Qay _ rfl _ _ _ 169 rfl 230 172 Qa4 QaE (fun _ _=>Qb1) underlying169 Qbd x0.1 c f rfl p b (s,k) x1 kl rfl rfl E ?_;intro m y v);have i:=hid (M m y v r);clear y v;go_end0;exact⟨rfl,i⟩
  ·obtain rfl:o=0:=oM;have r:Hid (¬Qc5 g1 g2):=hid (fun h=>Or.elim h (fun h=>q (z.1.2 h)) (fun h=>u (z.2.2 h)));clear q u;go_enter func195,ntmps195;go_wp2_with fail;go_end0;exact⟨rfl,A,fun h=>absurd h r,fun _=>G.out⟩
end Go.Proofs.YtedpomikcaemgaaGreatDoor
