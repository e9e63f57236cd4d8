import Derived.Test.YtedpomikcaemgaaGreatDoorRows
import Derived.WalkKit
import Derived.ProofKit
import Derived.OpenShut
import Derived.ShutString
import Derived.ChangeOld
import Derived.Below
import Derived.WalkLawsBesides
import Derived.WalkSpells
import Derived.Outline
import Derived.Deep.RegionHeld3
import Derived.Deep.QuietTactic
import Derived.BigQuiet
import Derived.Deep.Slices
import Derived.Deep.SlicePairs
import Derived.Deep.Strs
import Derived.Lib.SmallJoins
import Derived.Maps.Own
import Derived.Maps.OwnSet
import Derived.Maps.OwnOps
import Derived.Maps.AppendAt
import Derived.Maps.Views
import Derived.Laws.StructEq
import Derived.Deep.CutRange
import Derived.DeepKeys4
import Derived.Maps.Range
set_option linter.unusedVariables false
set_option linter.unusedSimpArgs false
set_option maxRecDepth 100000
set_option maxHeartbeats 40000000
namespace Go.Proofs.YtedpomikcaemgaaGreatDoor
open Go.ChangeShapes Go.WideShapes Go.ChangeAt Go.RowKit Go.Proofs.Tryz
open Go.Value renaming slice → Uf, int → Ug, tuple → Ul, string → Um, bool → Un, agg → Uo
open Go.IntKind renaming i64 → Uh
open Go.Ending renaming returned → Ui
open Go.Obj renaming cells → Uj
open Option renaming none → Up, some → Uq
open Go renaming World → Ur, Addr → Us
open Nat renaming lt_of_lt_of_le → Ut, le_refl → Uu, zero_le → Uv, zero_add → Uw, le_trans → Ux, add_assoc → Uy, add_sub_cancel → Uz, le_succ → UA
open Go.World renaming cell?_of_block → UB, setCell → UC, size_alloc → UD, cell? → UE, cell?_setCell_far → UF, frozen?_setCell → UG, cell?_setCell_same → UH, cell?_setCell_other → UI, cell?_alloc_at → UJ, frozen?_alloc_at → UK, cell?_spot → UL, cells?_some → UM, drewN_drewN → UN, ownsMap_made → UO
open List renaming getElem?_set_ne → UP, getElem?_set_self → UQ, getD → UR, getElem?_eq_none → US, range → UT, drop_eq_nil_of_le → UU, mem_singleton → UV, getElem_mem → UW
open _root_.Array renaming replicate → UX
open Go.IntKind renaming wrap_i64 → UY
open Int renaming natCast_nonneg → UZ
variable {B C b base bm fuel g h hi hi' i j k lo lo' n:Nat}{F R T:Nat ->Int}{L:Int ->List (Int×Int)}{P:Program}{W w w' w1 w2 wr:Ur}{a:Option Us}{cs xs:List Value}{e:TypeId}{f' r r' x y:Int}{held:Bool}{p q:List ByteArray}{s:ByteArray}{v v0 v1 v2 v3 v4:Value}
abbrev Ua (b o:Nat):Us:=⟨b,o,Up⟩
abbrev Ub (b:Nat):Us:=⟨b,0,Up⟩
abbrev Uc (b:Nat):Option Us:=Uq ⟨b,0,Up⟩
abbrev Ud (x:Int):Value:=Ug Uh x
abbrev Ue:Value:=Uf Up 0 0
abbrev Bl (w w':Ur):=Below w.heap.size w w'
abbrev Rt (w:Ur)(v:Value)(e:Ending)(w':Ur):Prop:=e=Ui v/\ Bl w w'
abbrev Cl:=@Calls prog
theorem zE {α:Type _}(a:α):∃b,a=b:=⟨a,rfl⟩
theorem oM {zQ:Prop}(h:zQ:=by omega):zQ:=h
theorem oS {zQ:Prop}(h:zQ:=by simp;omega):zQ:=h
theorem oP {zQ:Prop}(h:zQ:=by simp):zQ:=h
theorem oK {zQ:Prop}(h:zQ:=by kernel_rfl):zQ:=h
theorem oD {zQ:Prop}(h:zQ:=by decide):zQ:=h
theorem oL {zQ:Prop}(h:zQ:=by unfold maxLen;omega):zQ:=h
theorem oN {zQ:Prop}(h:zQ:=by go_num):zQ:=h
theorem oE {zQ:Prop}(h:zQ:=by simp [intOf];omega):zQ:=h
theorem oH {zQ zR:Prop}(x:Hid zR)(h:zR ->zQ:=by intro h;omega):zQ:=h x
theorem oJ {zQ zR zT:Prop}(x:Hid zR)(y:Hid zT)(h:zR ->zT ->zQ:=by intro h j;omega):zQ:=h x y
theorem oU {zQ zR:Prop}(x:Hid zR)(h:zR ->zQ:=by intro h;simpa using h):zQ:=h x
theorem oI {zQ zR:Prop}(x:Hid zR)(h:zR ->zQ:=by intro e;injection e with e;omega):zQ:=h x
theorem oQ {zQ:Prop}(h:zQ:=by first|omega|(dsimp only;omega)|(simp;omega)|simp):zQ:=h
def Ck (b:Value)(P:Prop):Prop:=(b=Un true/\ P) \/(b=Un false/\¬P)
theorem Ck.t {P:Prop}(h:P):Ck (Un true) P:=.inl ⟨rfl,h⟩
theorem Ck.f {P:Prop}(h:¬P):Ck (Un false) P:=.inr ⟨rfl,h⟩
theorem hid {p:Prop}(h:p):Hid p:=h
def I64 (f:Nat ->Int):Prop:=∀i, -9223372036854775808<=f i/\ f i<=9223372036854775807
def QaD (w:Ur)(a:Option Us)(n:Nat)(R F T:Nat ->Int):Prop:=
 n=0 \/∃b off,a=Uq (Ua b off)/\ b<w.heap.size/\∀i,i<n ->w.cell? (Ua b (off+i*3))=Uq (Ud (R i))/\ w.cell? (Ua b (off+i*3+1))=Uq (Ud (F i))/\ w.cell? (Ua b (off+i*3+2))=Uq (Ud (T i))
theorem QaD.kept(h:QaD w a n R F T)(hb:Below B w w1)(hc:∀x,a=Uq x ->x.block<B):QaD w1 a n R F T:=by
 rcases h with h|⟨b,off,rfl,u,r⟩
 ·exact .inl h
 ·have j:b<B:=hc (Ua b off) rfl;refine .inr ⟨b,off,rfl,Ut u hb.size,fun i hi=> ?_⟩;obtain⟨k,m,q⟩:=r i hi;exact⟨(hb.cell (p:=(Ua b _)) j).trans k,(hb.cell (p:=(Ua b _)) j).trans m,(hb.cell (p:=(Ua b _)) j).trans q⟩
theorem QaD.bw(h:QaD w a n R F T)(hb:Bl w w1):QaD w1 a n R F T:=by
 rcases h with h|⟨b,off,rfl,j,k⟩
 ·exact .inl h
 ·exact QaD.kept (.inr ⟨b,off,rfl,j,k⟩) hb (fun x hx=>by simp at hx;subst hx;exact j)
theorem QaD.same(h:QaD w a n R F T)(hs:w.heap.size<=w1.heap.size)(hc:∀x,a=Uq x ->w1.heap[x.block]? =w.heap[x.block]?):QaD w1 a n R F T:=by
 rcases h with h|⟨b,off,rfl,v,u⟩
 ·exact .inl h
 ·have r:w1.heap[b]? =w.heap[b]? :=hc (Ua b off) rfl;have j:∀o,w1.cell? (Ua b o)=w.cell? (Ua b o):=fun o=>UB (w:=w) (w':=w1) (a:=(Ua b o)) r;refine .inr ⟨b,off,rfl,Ut v hs,fun i hi=> ?_⟩;obtain⟨k,m,q⟩:=u i hi;exact⟨(j _).trans k,(j _).trans m,(j _).trans q⟩
theorem QaD.set(h:QaD w a n R F T)(p:Us)(u:Value)(hp:∀x,a=Uq x ->x.block≠p.block):QaD (w.setCell p u) a n R F T:=
 h.same (by simp [UC]) (fun x hx=>Below.heap_setCell _ _ _ _ (hp x hx))
def Qbe (r f t:Int):Bool:=decide (0<=r/\ r<8/\ 1<=f/\ f<=t/\ t<=1000000000)
def QaJ (r t r' f':Int):Bool:=decide (r<r' \/(r=r'/\ t+1<f'))
theorem Qd0 {f t:Int}(h:0<=r/\ r<8/\ 1<=f/\ f<=t/\ t<=1000000000):Qbe r f t=true:=by unfold Qbe;exact decide_eq_true h
theorem QaC {f t:Int}(h:¬(0<=r/\ r<8/\ 1<=f/\ f<=t/\ t<=1000000000)):Qbe r f t=false:=by unfold Qbe;exact decide_eq_false h
theorem Qbf {f t:Int}:Qbe r f t=true↔(0<=r/\ r<8/\ 1<=f/\ f<=t/\ t<=1000000000):=by unfold Qbe;simp
theorem QbW {a b:Bool}(h:a=b):Ending.returned (Un a)=Ui (Un b):=by rw [h]
def Qdn (l:Int)(n:Nat):Int:=if l<n then -1 else l - n
theorem QbS {k:IntKind}{a b:Int}(h:a=b):Ending.returned (.int k a)=Ui (.int k b):=by rw [h]
theorem QpT (a:Option Us)(n c:Nat)(l:Int)(w:Ur)(hn:n<=9223372036854775807)(hl:0<=l)(hl':l<=1048576):
  Cl 62 #[Uf a n c,Ud l] w fun e w'=>e=Ui (Ud (Qdn l n))/\ w'=w:=by
 by_cases h:l<n
 ·have j:Hid (Qdn l n= -1):=if_pos h;go_enter func62,ntmps62;go_wp2;go_ret;exact⟨QbS j.symm,rfl⟩
 ·have j:Hid (Qdn l n=l - n):=if_neg h;go_enter func62,ntmps62;go_wp2;go_ret;exact⟨QbS j.symm,rfl⟩
theorem QkK (a:Option Us)(n c:Nat)(l:Int)(w:Ur)(hn:n<=9223372036854775807)(hl:0<=l)(hl':l<=1048576):
  Cl 40 #[Uo #[Uf a n c],Ud l] w (Rt w (Ud (Qdn l n))):=by
 go_enter func40,ntmps40;go_wp2_with fail;refine(QpT a n c l _ hn hl hl').mono ?_;rintro e w1 ⟨rfl,rfl⟩;by_cases h:l<n
 ·have j:Hid (Qdn l n= -1):=if_pos h;rw [j.out];go_wp2_with fail;go_ret;exact⟨QbS j.symm,(Below.refl _ _).alloc (Uu _) _⟩
 ·have j:Hid (Qdn l n=l - n):=if_neg h;rw [j.out];go_wp2_with fail;go_ret;exact⟨QbS j.symm,(Below.refl _ _).alloc (Uu _) _⟩
theorem QqL (r f t:Int)(w:Ur):
  Cl 107 #[Uo #[Ud r,Ud f,Ud t]] w fun e w'=>e=Ui (Uo #[Ud r,Ud f,Ud t])/\ Bl w w'/\ w.heap.size<w'.heap.size:=by
 go_enter func107,ntmps107;go_wp2;refine bodyPost_ret (v:=Uo #[Ud r,Ud f,Ud t]) (by simp [results,results107,go_sem]) rfl ⟨rfl,?_,oS⟩;exact(((Below.refl _ _).alloc (Uu _) _).alloc oP _).alloc oS _
theorem Tryz.infoRun:(prog.info? 123).map (fun i=>(i.zero,i.size,i.bytes))=Uq (Uq (Uo #[Ud 0,Ud 0,Ud 0]),3,24):=oK
theorem QbZ(hb:Bl W w1):(∀b o,b<W.heap.size ->w1.cell? (Ua b o)=W.cell? (Ua b o))/\ (∀b o,b<W.heap.size ->w1.frozen? (Ua b o)=W.frozen? (Ua b o)):=
 ⟨fun b o h=>hb.cell (p:=(Ua b o)) h,fun b o h=>hb.frozen (p:=(Ua b o)) h⟩
theorem Qbp{size:Nat}(h:w.ownsRow B e size v n xs)(hb:Below C w w1)(hc:∀k,v.ownBlock=Uq k ->k<C):w1.ownsRow B e size v n xs:=by
 obtain⟨q,j⟩:=h;refine⟨q,?_⟩;rcases j with j|⟨g,cap,m,rfl,u,y,r⟩
 ·exact .inl j
 ·exact .inr ⟨g,cap,m,rfl,u,by rw [hb.block g (hc g rfl)];exact y,r⟩
theorem QaA{size cap:Nat}(h:w.ownsRow B e size (Uf (Uc g) n cap) n xs)(j:Nat)(hj:j<n*size):∃u,w.cell? (Ua g j)=Uq u:=by
 rw [h.cellAt j hj];have:=h.1;exact⟨_,List.getElem?_eq_getElem oM⟩
theorem QpX (a:Option Us)(n c:Nat)(R F T:Nat ->Int)(w:Ur)(hn:n<=1048576)(h:QaD w a n R F T):
  Cl 77 #[Uf a n c] w fun e w'=>e=Ui (Uf (Uc w.heap.size) n n)/\ QaD w' (Uc w.heap.size) n R F T/\ Bl w w'/\ w.heap.size<w'.heap.size/\∃xs,w'.ownsRow w.heap.size 123 3 (Uf (Uc w.heap.size) n n) n xs:=by
 obtain⟨A,hi,G,H,C⟩:=info_parts Tryz.infoRun;have V:n<=maxLen:=oL;have Q:A.bytes*n<=281474976710656:=by rw [C];omega
 rcases h with h|⟨b,off,rfl,o,u⟩
 ·subst h;go_enter func77,ntmps77;go_wp2_with (at_make;refine wpList_make_full _ rfl _ _ 36 rfl w.heap.size 123 A _ 3 underlying36 hi G H _ _ _ _ 0 rfl rfl rfl rfl Q V (Uu _) ?_;intro w1 m v);refine wp_loop_rounds 1 ?_;rw [rounds_succ];go_wp2_with fail;go_ret;exact⟨rfl,.inl rfl,(Below.refl _ _).grown v (Uu _) (fun _ h=>by cases h),(m.lt _ rfl).2,_,m⟩
 ·go_enter func77,ntmps77;go_wp2_with (at_make;refine wpList_make_full _ rfl _ _ 36 rfl w.heap.size 123 A _ 3 underlying36 hi G H _ _ _ _ n rfl rfl rfl rfl Q V (Uu _) ?_;intro w1 m v);have q:Bl w w1:=(Below.refl _ _).grown v (Uu _) (fun _ h=>by cases h);have Y:∃xs,w1.ownsRow w.heap.size 123 3 (Uf (Uc w.heap.size) n n) n xs:=⟨_,m⟩;clear m v;go_loopw [4] (fun i wr=>∃k:Nat,k<=n/\ i=Ud k/\ Bl w wr/\∃xs:List Value,wr.ownsRow w.heap.size 123 3 (Uf (Uc w.heap.size) n n) n xs/\∀j,j<k ->xs[j*3]? =Uq (Ud (R j))/\ xs[j*3+1]? =Uq (Ud (F j))/\ xs[j*3+2]? =Uq (Ud (T j))) (fun i _=>n - (intOf i).toNat);case atStart=>obtain⟨xs,B⟩:=Y;exact⟨0,Uv _,rfl,q,xs,B,fun j L=>oM⟩
  case round=>
   clear Y q;obtain⟨k,U,rfl,q,xs,m,z⟩:=hrel;by_cases y:k<n
   ·have W:wr.cell? (Ua b (off+k*3))=Uq (Ud (R k)):=(q.cell (p:=(Ua b _)) o).trans (u k y).1;have Ha:wr.cell? (Ua b (off+k*3+1))=Uq (Ud (F k)):=(q.cell (p:=(Ua b _)) o).trans (u k y).2.1;have Hb:wr.cell? (Ua b (off+k*3+2))=Uq (Ud (T k)):=(q.cell (p:=(Ua b _)) o).trans (u k y).2.2;clear u;go_wp2_with fail;refine(QqL _ _ _ _).mono ?_;rintro e w2 ⟨rfl,t,z2⟩;have s:=(m.lt w.heap.size rfl).2;have r:=Qbp m t (fun k U=>by simp [Value.ownBlock] at U;omega);have O:=q.trans (t.mono oM);obtain⟨u0,Hc⟩:=QaA r (k*3) oM;obtain⟨u1,Hd⟩:=QaA r (k*3+1) oM;obtain⟨u2,He⟩:=QaA r (k*3+2) oM;have D:=r.frozenAt (k*3);have P:=r.frozenAt (k*3+1);have S:=r.frozenAt (k*3+2);have X:=r.1;have g:=hid (((r.stored (k*3) (Ud (R k))).1.stored (k*3+1) (Ud (F k))).1.stored (k*3+2) (Ud (T k))).1;have K:Hid (∀j,j<k+1 ->(((xs.set (k*3) (Ud (R k))).set (k*3+1) (Ud (F k))).set (k*3+2) (Ud (T k)))[j*3]? =Uq (Ud (R j))/\ (((xs.set (k*3) (Ud (R k))).set (k*3+1) (Ud (F k))).set (k*3+2) (Ud (T k)))[j*3+1]? =Uq (Ud (F j))/\ (((xs.set (k*3) (Ud (R k))).set (k*3+1) (Ud (F k))).set (k*3+2) (Ud (T k)))[j*3+2]? =Uq (Ud (T j))):=by
     intro j L;by_cases N:j=k
     ·subst N;refine⟨?_,?_,?_⟩
      ·rw [UP oM,UP oM,UQ oM]
      ·rw [UP oM,UQ oS]
      ·rw [UQ oS]
     ·obtain⟨x0,E,M⟩:=z j oM;refine⟨?_,?_,?_⟩
      ·rw [UP oM,UP oM,UP oM];exact x0
      ·rw [UP oM,UP oM,UP oM];exact E
      ·rw [UP oM,UP oM,UP oM];exact M
    have I:=hid (((O.setCell (p:=(Ua w.heap.size (k*3))) (Uu _) (Ud (R k))).setCell (p:=(Ua w.heap.size (k*3+1))) (Uu _) (Ud (F k))).setCell (p:=(Ua w.heap.size (k*3+2))) (Uu _) (Ud (T k)));clear m r z X O t q;go_wp2_with fail;go_roundw;case rel=>exact⟨k+1,y,oN,I,_,g,K⟩
    case measure=>exact oE
   ·obtain rfl:k=n:=oM;have s:=(m.lt w.heap.size rfl).2;have Z:QaD wr (Uc w.heap.size) k R F T:=.inr ⟨w.heap.size,0,rfl,s,fun i hi=>by
     obtain⟨x0,E,M⟩:=z i hi;rw [Uw,m.cellAt _ oM,m.cellAt _ oM,m.cellAt _ oM];exact⟨x0,E,M⟩⟩
    have g:=hid Z;have J:=hid m;clear m z Z;go_wp2_with fail;go_ret;exact⟨rfl,g,q,s,_,J⟩
theorem Qb4{size cap:Nat}(h:w.ownsRow B e size (Uf (Uc g) n cap) n xs)(p:Us)(u:Value)(hp:g≠p.block):(w.setCell p u).ownsRow B e size (Uf (Uc g) n cap) n xs:=by
 obtain⟨y,k⟩:=h;refine⟨y,?_⟩;rcases k with ⟨k,_⟩|⟨v,m,q,j,z,t,r⟩
 ·cases k
 ·refine .inr ⟨v,m,q,j,z,?_,r⟩;injection j with j;injection j with j;injection j with j;subst j;exact(Below.heap_setCell _ _ _ _ hp).trans t
theorem QiV (a:Option Us)(n c:Nat)(R F T:Nat ->Int)(w:Ur)(hn:n<=1048576)(h:QaD w a n R F T):
  Cl 50 #[Uo #[Uf a n c]] w fun e w'=>∃g,w.heap.size<=g/\ g<w'.heap.size/\ e=Ui (Uo #[Uf (Uc g) n n])/\ QaD w' (Uc g) n R F T/\ Bl w w'/\∃xs,w'.ownsRow w.heap.size 123 3 (Uf (Uc g) n n) n xs:=by
 go_enter func50,ntmps50;go_wp2_with fail;refine(QpX a n c R F T _ hn (h.bw ((((Below.refl _ _).alloc (Uu _) _).alloc oP _).alloc oS _))).mono ?_;rintro e w1 ⟨rfl,q,j,y,xs,k⟩;obtain⟨b,E⟩:=QbZ j;have u:Bl w w1:=((((Below.refl _ _).alloc (Uu _) _).alloc oP _).alloc oS _).trans (j.mono oS);have M:w.heap.size+1+1+1<w1.heap.size:=by have:=y;simp at this;omega
 simp only [UD] at q k;have t:=hid k;have o:=hid q;have z:=hid u;clear q u j y k;go_wp2_with fail;refine bodyPost_ret (v:=Uo #[Uf (Uq (Ua (w.heap.size+1+1+1) 0)) n n]) (by simp [results,results50,go_sem,b]) rfl ⟨w.heap.size+1+1+1,oM,by simp [UC];omega,rfl,?_,?_,xs,?_⟩
 ·exact(o.set _ _ (fun x hx=>by simp at hx;subst hx;simp)).set _ _ (fun x hx=>by simp at hx;subst hx;simp;omega)
 ·exact(z.setCell oS _).setCell oP _
 ·have p:w1.ownsRow w.heap.size 123 3 (Uf (Uq (Ua (w.heap.size+1+1+1) 0)) n n) n xs:=by
   obtain⟨s,m⟩:=t.out;refine⟨s,?_⟩;rcases m with m|⟨g,cap,i,e,A,r⟩
   ·exact .inl m
   ·exact .inr ⟨g,cap,i,e,oM,r⟩
  exact Qb4 (Qb4 p _ _ oP) _ _ oS
theorem QeE (r f t:Int)(w:Ur):
  Cl 100 #[Uo #[Ud r,Ud f,Ud t]] w (Rt w (Un (Qbe r f t))):=by
 by_cases k:0<=r
 ·by_cases m:r<8
  ·by_cases q:1<=f
   ·by_cases u:f<=t
    ·by_cases v:t<=1000000000
     ·have j:=hid (Qd0 ⟨k,m,q,u,v⟩);go_enter func100,ntmps100;go_wp2_with fail;go_ret;exact⟨QbW j.symm,(Below.refl _ _).alloc (Uu _) _⟩
     ·have j:=hid (QaC (r:=r) (f:=f) (t:=t) oM);go_enter func100,ntmps100;go_wp2_with fail;go_ret;exact⟨QbW j.symm,(Below.refl _ _).alloc (Uu _) _⟩
    ·have j:=hid (QaC (r:=r) (f:=f) (t:=t) oM);go_enter func100,ntmps100;go_wp2_with fail;go_ret;exact⟨QbW j.symm,(Below.refl _ _).alloc (Uu _) _⟩
   ·have j:=hid (QaC (r:=r) (f:=f) (t:=t) oM);go_enter func100,ntmps100;go_wp2_with fail;go_ret;exact⟨QbW j.symm,(Below.refl _ _).alloc (Uu _) _⟩
  ·have j:=hid (QaC (r:=r) (f:=f) (t:=t) oM);go_enter func100,ntmps100;go_wp2_with fail;go_ret;exact⟨QbW j.symm,(Below.refl _ _).alloc (Uu _) _⟩
 ·have j:=hid (QaC (r:=r) (f:=f) (t:=t) oM);go_enter func100,ntmps100;go_wp2_with fail;go_ret;exact⟨QbW j.symm,(Below.refl _ _).alloc (Uu _) _⟩
theorem Qk2 (r:Int)(w:Ur)(h1:0<=r)(h2:r<8):
  Cl 81 #[Ud r] w fun e w'=>e=Ui (Un true)/\ w'=w:=by
 go_enter func81,ntmps81;go_wp2_with fail;go_ret;exact⟨rfl,rfl⟩
theorem QlI (r:Int)(w:Ur)(h:¬(0<=r/\ r<8)):
  Cl 81 #[Ud r] w fun e w'=>e=Ui (Un false)/\ w'=w:=by
 by_cases j:0<=r
 ·have k:decide (r<8)=false:=oS;go_enter func81,ntmps81;go_wp2_with fail;go_ret;exact⟨rfl,rfl⟩
 ·go_enter func81,ntmps81;go_wp2_with fail;go_ret;exact⟨rfl,rfl⟩
theorem Qei (r f t:Int)(w:Ur):
  Cl 202 #[Uo #[Ud r,Ud f,Ud t]] w (Rt w (Un (Qbe r f t))):=by
 by_cases m:0<=r/\ r<8
 ·obtain⟨q,u⟩:=m;have k:=hid (Qk2 r (w.alloc (Uj #[Ud r,Ud f,Ud t] 123)) q u);by_cases v:1<=f
  ·by_cases y:f<=t
   ·by_cases z:t<=1000000000
    ·have j:=hid (Qd0 ⟨q,u,v,y,z⟩);go_enter func202,ntmps202;go_wp2_with fail;refine k.mono ?_;rintro e w1 ⟨rfl,rfl⟩;go_wp2_with fail;go_ret;exact⟨QbW j.symm,(Below.refl _ _).alloc (Uu _) _⟩
    ·have h:decide (t<=1000000000)=false:=oS;have j:=hid (QaC (r:=r) (f:=f) (t:=t) oM);go_enter func202,ntmps202;go_wp2_with fail;refine k.mono ?_;rintro e w1 ⟨rfl,rfl⟩;go_wp2_with fail;go_ret;exact⟨QbW j.symm,(Below.refl _ _).alloc (Uu _) _⟩
   ·have j:=hid (QaC (r:=r) (f:=f) (t:=t) oM);go_enter func202,ntmps202;go_wp2_with fail;refine k.mono ?_;rintro e w1 ⟨rfl,rfl⟩;go_wp2_with fail;go_ret;exact⟨QbW j.symm,(Below.refl _ _).alloc (Uu _) _⟩
  ·have j:=hid (QaC (r:=r) (f:=f) (t:=t) oM);go_enter func202,ntmps202;go_wp2_with fail;refine k.mono ?_;rintro e w1 ⟨rfl,rfl⟩;go_wp2_with fail;go_ret;exact⟨QbW j.symm,(Below.refl _ _).alloc (Uu _) _⟩
 ·have k:=hid (QlI r (w.alloc (Uj #[Ud r,Ud f,Ud t] 123)) m);have j:=hid (QaC (r:=r) (f:=f) (t:=t) oM);clear m;go_enter func202,ntmps202;go_wp2_with fail;refine k.mono ?_;rintro e w1 ⟨rfl,rfl⟩;go_wp2_with fail;go_ret;exact⟨QbW j.symm,(Below.refl _ _).alloc (Uu _) _⟩
theorem Qbn {t:Int}(h:r<r' \/(r=r'/\ t+1<f')):QaJ r t r' f'=true:=by unfold QaJ;exact decide_eq_true h
theorem QaW {t:Int}(h:¬(r<r' \/(r=r'/\ t+1<f'))):QaJ r t r' f'=false:=by unfold QaJ;exact decide_eq_false h
theorem Qak (w:Ur)(o o':Obj):Bl w ((w.alloc o).alloc o'):=((Below.refl _ _).alloc (Uu _) _).alloc oP _
theorem Qk7 (r f t r' f' t':Int)(w:Ur)(h0:0<=t)(h1:t<=1000000000):
  Cl 101 #[Uo #[Ud r,Ud f,Ud t],Uo #[Ud r',Ud f',Ud t']] w (Rt w (Un (QaJ r t r' f'))):=by
 by_cases q:r<r'
 ·have j:=hid (Qbn (t:=t) (f':=f') (.inl q));go_enter func101,ntmps101;go_wp2_with fail;go_ret;exact⟨QbW j.symm,Qak _ _ _⟩
 ·by_cases k:r=r'
  ·subst k;by_cases m:t+1<f'
   ·have j:=hid (Qbn (r:=r) (r':=r) (.inr ⟨rfl,m⟩));go_enter func101,ntmps101;go_wp2_with fail;go_ret;exact⟨QbW j.symm,Qak _ _ _⟩
   ·have j:=hid (QaW (r:=r) (r':=r) (t:=t) (f':=f') oM);go_enter func101,ntmps101;go_wp2_with fail;go_ret;exact⟨QbW j.symm,Qak _ _ _⟩
  ·have m:(r==r')=false:=(by simp;exact k);have j:=hid (QaW (r:=r) (r':=r') (t:=t) (f':=f') oM);go_enter func101,ntmps101;go_wp2_with fail;go_ret;exact⟨QbW j.symm,Qak _ _ _⟩
theorem Qhb (r f t r' f' t':Int)(w:Ur)(h0:0<=t)(h1:t<=1000000000):
  Cl 203 #[Uo #[Ud r',Ud f',Ud t'],Uo #[Ud r,Ud f,Ud t]] w (Rt w (Un (QaJ r t r' f'))):=by
 by_cases k:r'=r
 ·subst k;by_cases m:t+1<f'
  ·have j:=hid (Qbn (r:=r') (r':=r') (.inr ⟨rfl,m⟩));go_enter func203,ntmps203;go_wp2_with fail;go_ret;exact⟨QbW j.symm,Qak _ _ _⟩
  ·have j:=hid (QaW (r:=r') (r':=r') (t:=t) (f':=f') oM);go_enter func203,ntmps203;go_wp2_with fail;go_ret;exact⟨QbW j.symm,Qak _ _ _⟩
 ·have m:(r' !=r)=true:=by simp;exact k
  by_cases q:r<r'
  ·have j:=hid (Qbn (t:=t) (f':=f') (.inl q));go_enter func203,ntmps203;go_wp2_with fail;go_ret;exact⟨QbW j.symm,Qak _ _ _⟩
  ·have j:=hid (QaW (r:=r) (r':=r') (t:=t) (f':=f') oM);go_enter func203,ntmps203;go_wp2_with fail;go_ret;exact⟨QbW j.symm,Qak _ _ _⟩
theorem Qqk (r f t:Int)(w:Ur):
  Cl 121 #[Uo #[Ud r,Ud f,Ud t],Uo #[Ud r,Ud f,Ud t]] w (Rt w (Un true)):=by
 go_enter func121,ntmps121;go_wp2_with fail;go_ret;exact⟨rfl,Qak _ _ _⟩
def QeM (R F T:Nat ->Int)(k:Nat):Prop:=∀i,i<k ->Qbe (R i) (F i) (T i)=true/\ (0<i ->QaJ (R (i - 1)) (T (i - 1)) (R i) (F i)=true)
def Qkm (R F T:Nat ->Int):Nat ->Bool
 | 0=>true
 | k+1=>Qkm R F T k && (Qbe (R k) (F k) (T k) && (k==0||QaJ (R (k - 1)) (T (k - 1)) (R k) (F k)))
def QdC (R F T:Nat ->Int)(n:Nat):Bool:=Qkm R F T n && decide (n<=1000)
theorem Qg9 {R F T:Nat ->Int}:∀k:Nat,Qkm R F T k=true↔QeM R F T k
 | 0=>⟨fun _ i hi=>oM,fun _=>rfl⟩
 | k+1=>by
  have q:=Qg9 (R:=R) (F:=F) (T:=T) k;constructor
  ·intro h;simp only [Qkm,Bool.and_eq_true,Bool.or_eq_true,beq_iff_eq] at h;intro i hi;by_cases e:i=k
   ·subst e;exact⟨h.2.1,fun m=>by rcases h.2.2 with j|j;omega;exact j⟩
   ·exact q.1 h.1 i oM
  ·intro h;simp only [Qkm,Bool.and_eq_true,Bool.or_eq_true,beq_iff_eq];refine⟨q.2 (fun i hi=>h i oM),(h k oM).1,?_⟩;by_cases m:k=0
   ·exact .inl m
   ·exact .inr ((h k oM).2 oM)
theorem Qax:QdC R F T n=true↔QeM R F T n/\ n<=1000:=by
 unfold QdC;rw [Bool.and_eq_true,Qg9,decide_eq_true_iff]
theorem Qcs(h:¬(QeM R F T n/\ n<=1000)):QdC R F T n=false:=by
 cases e:QdC R F T n with
 | false=>rfl
 | true=>exact absurd (Qax.1 e) h
theorem Qdd(h:QeM R F T k)(h1:Qbe (R k) (F k) (T k)=true)(h2:0<k ->QaJ (R (k - 1)) (T (k - 1)) (R k) (F k)=true):QeM R F T (k+1):=by
 intro i hi;by_cases e:i=k
 ·subst e;exact⟨h1,h2⟩
 ·exact h i oM
theorem Qaa(h1:Bl wr w1)(b2:Bl w1 w2):Bl wr w2:=h1.trans (b2.mono h1.size)
theorem QqK{ops:Array Oper}{Q:Exit ->Act ->Ur ->Prop}{md:Region.Mode}{S:Ur ->Prop}{d:Option Tmp}{listed:Array Bool}{a:Act}
  (hd:ops[i]?.map (fun o=>o.dst)=Uq d) (hs:Region.noSelect ops=true) (hf:Region.free md ops listed i=true) (hr:(Region.ready md ops listed).contains i=true)
  (hQ:∀c a w,Q (.panic c) (a.put d v) w ->Q (.panic c) a w) (hy:∀o,ops[i]? =Uq o ->YieldsIf P ops S o v a) (hS:S w)
  (h:wpAnyH P md ops Q S fuel (listed.setIfInBounds i true) (a.put d v) w):wpAnyH P md ops Q S (fuel+1) listed a w:=by
 obtain⟨o,j,rfl⟩:=Option.map_eq_some_iff.1 hd;exact wpAnyH_take j hs hf hr hQ (hy o j) hS h
theorem Qqi{ops:Array Oper}{Q:Exit ->Act ->Ur ->Prop}{md:Region.Mode}{S:Ur ->Prop}{d:Option Tmp}{listed:Array Bool}{a:Act}
  (hd:ops[i]?.map (fun o=>o.dst)=Uq d) (hr:Region.ready md ops listed=[i])
  (h:∀o,ops[i]? =Uq o ->o.dst=d ->∀K':Act ->Ur ->Prop,Shut (∀a w,S w ->(S w ->wpAnyH P md ops Q S fuel (listed.setIfInBounds i true) a w) ->K' a w) ->if Region.wanted o (yielded ops a.tmps)=true then Oper.wp P o a w K' Q else K' (a.put o.dst undef) w):
  wpAnyH P md ops Q S (fuel+1) listed a w:=by
 obtain⟨o,j,k⟩:=Option.map_eq_some_iff.1 hd;exact wpAnyH_ready hr oP (AllReadyH.cons j (h o j k) AllReadyH.nil)
theorem gZa {α:Type}{l:List α}:l.toArray[i]? =l[i]? :=List.getElem?_toArray
theorem gZb {α:Type}{a:α}{l:List α}:(a::l)[i+1]? =l[i]? :=List.getElem?_cons_succ
theorem gZc {α:Type}{a:α}{l:List α}:(a::l)[0]? =Uq a:=List.getElem?_cons_zero
theorem gZd {α:Type}{a b:α}:(Uq a=Uq b)=(a=b):=Option.some.injEq a b
theorem sZa {α:Type}(l:List α)(i:Nat)(a:α):l.toArray.setIfInBounds i a=(l.set i a).toArray:=oP
theorem sZb {α:Type}{a b:α}{l:List α}:(a::l).set 0 b=b::l:=List.set_cons_zero
theorem sZc {α:Type}{a b:α}{l:List α}:(a::l).set (i+1) b=a::l.set i b:=List.set_cons_succ
theorem tk{ops:Array Oper}{Q:Exit ->Act ->Ur ->Prop}{md:Region.Mode}{S:Ur ->Prop}(i:Nat)(d:Tmp)(v:Value){listed:Array Bool}{a:Act}
  (hb:((ops[i]?.map (fun o=>o.dst)==Uq (Uq d)) && (Region.noSelect ops && (Region.free md ops listed i && (Region.ready md ops listed).contains i)))=true)
  (hQ:∀c a w,Q (.panic c) (a.put (Uq d) v) w ->Q (.panic c) a w) (hy:∀o,ops[i]? =Uq o ->YieldsIf P ops S o v a) (hS:S w)
  (h:wpAnyH P md ops Q S fuel (listed.setIfInBounds i true) (a.put (Uq d) v) w):wpAnyH P md ops Q S (fuel+1) listed a w:=by
 rw [Bool.and_eq_true,Bool.and_eq_true,Bool.and_eq_true] at hb;exact QqK (eq_of_beq hb.1) hb.2.1 hb.2.2.1 hb.2.2.2 hQ hy hS h
theorem tZ{ops:Array Oper}{Q:Exit ->Act ->Ur ->Prop}{md:Region.Mode}{S:Ur ->Prop}(i:Nat)(d:Tmp){listed:Array Bool}{a b:Act}
  (h:wpAnyH P md ops Q S fuel (listed.setIfInBounds i true) b w) (hS:S w:=by assumption)
  (hb:((ops[i]?.map (fun o=>o.dst)==Uq (Uq d)) && (Region.noSelect ops && (Region.free md ops listed i && (Region.ready md ops listed).contains i)))=true:=by kernel_rfl)
  (hQ:∀c a w,Q (.panic c) (a.put (Uq d) v) w ->Q (.panic c) a w:=by exact fun _ _ _ h=>h)
  (hy:∀o,ops[i]? =Uq o ->YieldsIf P ops S o v a:=by intro o j;simp only [gZa,gZb,gZc,gZd] at j;subst j;refine Or.inl ⟨by rfl,?_⟩;intro w k;(try dsimp only at k);go_simp;try with_reducible rfl)
  (hp:a.put (Uq d) v=b:=by simp only [Act.put,sZa,sZb,sZc];rfl):wpAnyH P md ops Q S (fuel+1) listed a w:=tk i d v hb hQ hy hS (hp▸h)
theorem uZ{ops:Array Oper}{Q:Exit ->Act ->Ur ->Prop}{md:Region.Mode}{S:Ur ->Prop}(i:Nat)(d:Tmp){listed:Array Bool}{a b:Act}
  (h:wpAnyH P md ops Q S fuel (listed.setIfInBounds i true) b w) (hS:S w:=by assumption)
  (hb:((ops[i]?.map (fun o=>o.dst)==Uq (Uq d)) && (Region.noSelect ops && (Region.free md ops listed i && (Region.ready md ops listed).contains i)))=true:=by kernel_rfl)
  (hQ:∀c a w,Q (.panic c) (a.put (Uq d) undef) w ->Q (.panic c) a w:=by exact fun _ _ _ h=>h)
  (hy:∀o,ops[i]? =Uq o ->YieldsIf P ops S o undef a:=by intro o j;simp only [gZa,gZb,gZc,gZd] at j;subst j;exact Or.inr ⟨by rfl,rfl⟩)
  (hp:a.put (Uq d) undef=b:=by simp only [Act.put,sZa,sZb,sZc];rfl):wpAnyH P md ops Q S (fuel+1) listed a w:=tk i d undef hb hQ hy hS (hp▸h)
theorem cZ{ops:Array Oper}{Q:Exit ->Act ->Ur ->Prop}{md:Region.Mode}{S:Ur ->Prop}(i:Nat){o:Oper}{listed:Array Bool}{a:Act}
  (h:∀K':Act ->Ur ->Prop,Shut (∀a w,S w ->(S w ->wpAnyH P md ops Q S fuel (listed.setIfInBounds i true) a w) ->K' a w) ->if Region.wanted o (yielded ops a.tmps)=true then Oper.wp P o a w K' Q else K' (a.put o.dst undef) w)
  (hr:Region.ready md ops listed=[i]:=by kernel_rfl) (ho:ops[i]? =Uq o:=by simp only [gZa,gZb,gZc];rfl):wpAnyH P md ops Q S (fuel+1) listed a w:=
 Qqi (d:=o.dst) (by rw [ho];rfl) hr (fun o' h1 _=>by rw [ho] at h1;cases h1;exact h)
theorem zO (w:Ur)(o:Obj):Bl w (w.alloc o):=(Below.refl _ _).alloc (Uu _) o
theorem zL:n<=n:=Uu n
theorem zI:Below B w w:=Below.refl B w
theorem zH (w:Ur)(a:Us)(u:Value)(k:Nat)(h:k≠a.block):(w.setCell a u).heap[k]? =w.heap[k]? :=Below.heap_setCell w a u k h
theorem zP:(∀(a:Act) (v:Value),a.put Up v=a)/\ (∀(t:Array Value) (d) (i:Nat) (v:Value),(Act.mk t d).put (Uq i) v=Act.mk (t.setIfInBounds i v) d)/\ (∀(l:List Value) (i:Nat) (a:Value),l.toArray.setIfInBounds i a=(l.set i a).toArray)/\ (∀(a b:Value) (l:List Value),(a::l).set 0 b=b::l)/\∀(a b:Value) (l:List Value) (i:Nat),(a::l).set (i+1) b=a::l.set i b:=⟨fun _ _=>rfl,fun _ _ _ _=>rfl,fun _ _ _=>oP,fun _ _ _=>rfl,fun _ _ _ _=>rfl⟩
theorem zD{ops:Array Oper}{Q:Exit ->Act ->Ur ->Prop}{md:Region.Mode}{S:Ur ->Prop}{listed:Array Bool}{a:Act}(h:Q .normal a w)(hr:Region.ready md ops listed=[]:=by kernel_rfl):wpAnyH P md ops Q S fuel listed a w:=wpAnyH_done hr h fuel
theorem zR{ops:Array Oper}{Q:Exit ->Act ->Ur ->Prop}{S:Ur ->Prop}{id:Nat}{a:Act}(hS:S w.drew)(h:S w.drew ->wpAnyH P .any ops Q S ops.size (UX ops.size false) a w.drew)(hm:P.follows .mixedOrders=true:=by kernel_rfl):(Code.region id ops true).wp P Q a w:=wp_region_held_drew hm hS h
theorem zS{ops:Array Oper}{Q:Exit ->Act ->Ur ->Prop}{S:Ur ->Prop}{id:Nat}{a:Act}(N:Hid (∀w',Bl w w' ->S w'))(h:S w.drew ->wpAnyH P .any ops Q S ops.size (UX ops.size false) a w.drew)(hm:P.follows .mixedOrders=true:=by kernel_rfl):(Code.region id ops true).wp P Q a w:=wp_region_held_drew hm (N _ (Below.refl _ _).drew) h
theorem zA{ops:Array Oper}{Q:Exit ->Act ->Ur ->Prop}{S:Ur ->Prop}{id:Nat}{a:Act}{X0:Ur ->Prop}(N:Hid (∀w',X0 w' ->S w'))(h0:X0 w.drew)(h:S w.drew ->wpAnyH P .any ops Q S ops.size (UX ops.size false) a w.drew)(hm:P.follows .mixedOrders=true:=by kernel_rfl):(Code.region id ops true).wp P Q a w:=wp_region_held_drew hm (N _ h0) h
theorem zB{ops:Array Oper}{Q:Exit ->Act ->Ur ->Prop}{S:Ur ->Prop}{id:Nat}{a:Act}{X0 X1:Ur ->Prop}(N:Hid (∀w',X0 w' ->X1 w' ->S w'))(h0:X0 w.drew)(h1:X1 w.drew)(h:S w.drew ->wpAnyH P .any ops Q S ops.size (UX ops.size false) a w.drew)(hm:P.follows .mixedOrders=true:=by kernel_rfl):(Code.region id ops true).wp P Q a w:=wp_region_held_drew hm (N _ h0 h1) h
theorem zG{ops:Array Oper}{Q:Exit ->Act ->Ur ->Prop}{S:Ur ->Prop}{id:Nat}{a:Act}{X0 X1 X2 X3:Ur ->Prop}(N:Hid (∀w',X0 w' ->X1 w' ->X2 w' ->X3 w' ->S w'))(h0:X0 w.drew)(h1:X1 w.drew)(h2:X2 w.drew)(h3:X3 w.drew)(h:S w.drew ->wpAnyH P .any ops Q S ops.size (UX ops.size false) a w.drew)(hm:P.follows .mixedOrders=true:=by kernel_rfl):(Code.region id ops true).wp P Q a w:=wp_region_held_drew hm (N _ h0 h1 h2 h3) h
theorem zF{fn:Func}{R:Ending ->Ur ->Prop}{a:Act}(hr:(results fn a.tmps).run P w=.ok v w)(hR:R (Ui v) w)(hd:a.defers=[]:=by rfl):bodyPost P fn R .ret a w:=bodyPost_ret hr hd hR
theorem Qa3 (x:Int)(h0: -9223372036854775808<=x)(h1:x<=9223372036854775807):IntKind.i64.wrap x=x:=by
 rw [UY];omega
theorem Qd9(hk:k<n)(h:Qbe (R k) (F k) (T k)=false):QdC R F T n=false:=Qcs fun⟨h1,_⟩=>by
 have:=(h1 k hk).1;rw [h] at this;cases this
theorem Qc2(hk:k<n)(h0:0<k)(h:QaJ (R (k - 1)) (T (k - 1)) (R k) (F k)=false):QdC R F T n=false:=Qcs fun⟨h1,_⟩=>by
 have:=(h1 k hk).2 h0;rw [h] at this;cases this
theorem QmN (a:Option Us)(n c:Nat)(R F T:Nat ->Int)(w:Ur)(hn:n<=1048576)(h:QaD w a n R F T):
  Cl 69 #[Uo #[Uf a n c]] w (Rt w (Un (QdC R F T n))):=by
 rcases h with h|⟨b,off,rfl,O,v⟩
 ·subst h;have U:Hid (QdC R F T 0=true):=Qax.2 ⟨fun i hi=>oM,oM⟩;go_enter func69,ntmps69;go_wp2_with fail;refine wp_loop_rounds 1 ?_;rw [rounds_succ];go_wp2_with fail;go_ret;exact⟨QbW U.symm,zO _ _⟩
 ·go_enter func69,ntmps69;go_wp2_with fail;go_loopw [3] (fun i wr=>∃k:Nat,k<=n/\ i=Ud k/\ QeM R F T k/\ wr.cell? (Ub w.heap.size)=Uq (Uf (Uq (Ua b off)) n c)/\ Bl w wr/\ w.heap.size<wr.heap.size) (fun i _=>n - (intOf i).toNat);case atStart=>exact⟨0,Uv _,rfl,fun i hi=>oM,oP,zO _ _,oP⟩
  case round=>
   obtain⟨k,hk,rfl,A,g,r,V⟩:=hrel;have m:=Ut O r.size;by_cases Q:k<n
   ·have t:wr.cell? (Ua b (off+k*3))=Uq (Ud (R k)):=(r.cell (p:=(Ua b _)) O).trans (v k Q).1;have o:wr.cell? (Ua b (off+k*3+1))=Uq (Ud (F k)):=(r.cell (p:=(Ua b _)) O).trans (v k Q).2.1;have s:wr.cell? (Ua b (off+k*3+2))=Uq (Ud (T k)):=(r.cell (p:=(Ua b _)) O).trans (v k Q).2.2;have Ha:(0:Int)<=(k:Int):=UZ _;have Hb:(k:Int)<(n:Int):=oM;have E:=hid r;have X:=hid A;cases hr:Qbe (R k) (F k) (T k) with
    | false=>
     have M:=hid hr;clear hr v r A;go_wp2_with fail;refine zR (S:=fun w'=>Bl wr w'/\ w'.cell? (Ub w.heap.size)=Uq (Uf (Uq (Ua b off)) n c)/\ w'.cell? (Ua b (off+k*3))=Uq (Ud (R k))/\ w'.cell? (Ua b (off+k*3+1))=Uq (Ud (F k))/\ w'.cell? (Ua b (off+k*3+2))=Uq (Ud (T k))) ⟨zI.drew,g,t,o,s⟩ (fun qh=> ?_);refine tZ 0 11 ?_;refine tZ 1 12 ?_;refine tZ 2 13 ?_;refine tZ 3 14 ?_;refine tZ 4 15 ?_;refine cZ 5 ?_;intro K u;go_simp;refine(QeE _ _ _ _).mono ?_;rintro e w2 ⟨rfl,z⟩;rw [M.out];have j:=Qaa qh.1 z;refine u.out _ _ ⟨j,(j.cell (p:=(Ub w.heap.size)) V).trans g,(j.cell (p:=(Ua b _)) m).trans t,(j.cell (p:=(Ua b _)) m).trans o,(j.cell (p:=(Ua b _)) m).trans s⟩ (fun qh=> ?_);clear u K;try simp only [zP]
     refine tZ 6 17 ?_;refine tZ 7 18 ?_;refine uZ 8 19 ?_;refine uZ 9 20 ?_;refine uZ 10 21 ?_;refine uZ 11 22 ?_;refine uZ 12 23 ?_;refine uZ 13 24 ?_;refine uZ 14 25 ?_;refine uZ 15 26 ?_;refine uZ 16 27 ?_;refine uZ 17 28 ?_;refine uZ 18 29 ?_;refine uZ 19 30 ?_;refine uZ 20 31 ?_;refine uZ 21 32 ?_;refine uZ 22 33 ?_;refine uZ 23 34 ?_;refine uZ 24 35 ?_;refine tZ 25 36 ?_;refine zD ?_;have y:=hid (Qaa (wr:=wr) (w1:=wr) zI j);clear qh j z;go_wp2_with fail;go_ret;exact⟨QbW (Qd9 Q M).symm,E.trans (y.mono oM)⟩
    | true=>
     have M:=hid hr;clear hr;by_cases H:k=0
     ·have hg:decide (0<k)=false:=oS;have J:=hid H;clear v r A H;go_wp2_with fail;refine zR (S:=fun w'=>Bl wr w'/\ w'.cell? (Ub w.heap.size)=Uq (Uf (Uq (Ua b off)) n c)/\ w'.cell? (Ua b (off+k*3))=Uq (Ud (R k))/\ w'.cell? (Ua b (off+k*3+1))=Uq (Ud (F k))/\ w'.cell? (Ua b (off+k*3+2))=Uq (Ud (T k))) ⟨zI.drew,g,t,o,s⟩ (fun qh=> ?_);refine tZ 0 11 ?_;refine tZ 1 12 ?_;refine tZ 2 13 ?_;refine tZ 3 14 ?_;refine tZ 4 15 ?_;refine cZ 5 ?_;intro K u;go_simp;refine(QeE _ _ _ _).mono ?_;rintro e w2 ⟨rfl,z⟩;rw [M.out];have j:=Qaa qh.1 z;refine u.out _ _ ⟨j,(j.cell (p:=(Ub w.heap.size)) V).trans g,(j.cell (p:=(Ua b _)) m).trans t,(j.cell (p:=(Ua b _)) m).trans o,(j.cell (p:=(Ua b _)) m).trans s⟩ (fun qh=> ?_);clear u K;try simp only [zP]
      refine tZ 6 17 ?_;refine tZ 7 18 ?_;refine tZ 8 19 ?_;refine tZ 9 20 ?_;refine tZ 10 21 ?_;refine uZ 11 22 ?_;refine uZ 12 23 ?_;refine uZ 13 24 ?_;refine uZ 14 25 ?_;refine uZ 15 26 ?_;refine uZ 16 27 ?_;refine uZ 17 28 ?_;refine uZ 18 29 ?_;refine uZ 19 30 ?_;refine uZ 20 31 ?_;refine uZ 21 32 ?_;refine uZ 22 33 ?_;refine uZ 23 34 ?_;refine tZ 24 35 ?_;refine tZ 25 36 ?_;refine zD ?_;have L:=hid qh.2.1;have y:=hid j;clear qh j z;go_wp2_with fail;go_roundw;case rel=>exact⟨k+1,Q,oN,Qdd X M (fun h=>oH J),L,E.trans (y.mono oM),oH y.size⟩
      case measure=>exact oE
     ·have hg:decide (0<k)=true:=oS;have Y:=(r.cell (p:=(Ua b (off+(k - 1)*3))) O).trans (v (k - 1) oM).1;have Z:=(r.cell (p:=(Ua b (off+(k - 1)*3+1))) O).trans (v (k - 1) oM).2.1;have G:=(r.cell (p:=(Ua b (off+(k - 1)*3+2))) O).trans (v (k - 1) oM).2.2;have P:IntKind.i64.wrap ((k:Int) - 1)=(k:Int) - 1:=Qa3 _ oM oM;have W:((k:Int) - 1).toNat=k - 1:=oM;have e2:(1:Int)<=(k:Int):=oM;have e3:(k:Int) - 1<(n:Int):=oM;have D:=Qbf.1 (A (k - 1) oM).1;have B:=hid D;have J:=hid H;clear v r A H D;go_wp2_with fail;refine zR (S:=fun w'=>Bl wr w'/\ w'.cell? (Ub w.heap.size)=Uq (Uf (Uq (Ua b off)) n c)/\ w'.cell? (Ua b (off+k*3))=Uq (Ud (R k))/\ w'.cell? (Ua b (off+k*3+1))=Uq (Ud (F k))/\ w'.cell? (Ua b (off+k*3+2))=Uq (Ud (T k))/\ w'.cell? (Ua b (off+(k - 1)*3))=Uq (Ud (R (k - 1)))/\ w'.cell? (Ua b (off+(k - 1)*3+1))=Uq (Ud (F (k - 1)))/\ w'.cell? (Ua b (off+(k - 1)*3+2))=Uq (Ud (T (k - 1)))) ⟨zI.drew,g,t,o,s,Y,Z,G⟩ (fun qh=> ?_);refine tZ 0 11 ?_;refine tZ 1 12 ?_;refine tZ 2 13 ?_;refine tZ 3 14 ?_;refine tZ 4 15 ?_;refine cZ 5 ?_;intro K u;go_simp;refine(QeE _ _ _ _).mono ?_;rintro e w2 ⟨rfl,z⟩;rw [M.out];have j:=Qaa qh.1 z;refine u.out _ _ ⟨j,(j.cell (p:=(Ub w.heap.size)) V).trans g,(j.cell (p:=(Ua b _)) m).trans t,(j.cell (p:=(Ua b _)) m).trans o,(j.cell (p:=(Ua b _)) m).trans s,(j.cell (p:=(Ua b _)) m).trans Y,(j.cell (p:=(Ua b _)) m).trans Z,(j.cell (p:=(Ua b _)) m).trans G⟩ (fun qh=> ?_);clear u K;try simp only [zP]
      refine tZ 6 17 ?_;refine tZ 7 18 ?_;refine tZ 8 19 ?_;refine tZ 9 20 ?_;refine tZ 10 21 ?_;refine tZ 11 22 ?_;refine tZ 12 23 ?_;refine tZ 13 24 ?_;refine tZ 14 25 ?_;refine tZ 15 26 ?_;refine tZ 16 27 ?_;refine tZ 17 28 ?_;refine tZ 18 29 ?_;refine tZ 19 30 ?_;refine tZ 20 31 ?_;refine tZ 21 32 ?_;refine cZ 22 ?_;intro K u;go_simp;refine(Qk7 (R (k - 1)) (F (k - 1)) (T (k - 1)) (R k) (F k) (T k) _ (oH B) (oH B)).mono ?_;rintro e w3 ⟨rfl,N⟩;have q:=Qaa j N;cases ha:QaJ (R (k - 1)) (T (k - 1)) (R k) (F k) with
      | false=>
       have I:=hid ha;clear ha;refine u.out _ _ ⟨q,(q.cell (p:=(Ub w.heap.size)) V).trans g,(q.cell (p:=(Ua b _)) m).trans t,(q.cell (p:=(Ua b _)) m).trans o,(q.cell (p:=(Ua b _)) m).trans s,(q.cell (p:=(Ua b _)) m).trans Y,(q.cell (p:=(Ua b _)) m).trans Z,(q.cell (p:=(Ua b _)) m).trans G⟩ (fun qh=> ?_);clear u K;try simp only [zP]
       refine tZ 23 34 ?_;refine tZ 24 35 ?_;refine tZ 25 36 ?_;refine zD ?_;have y:=hid q;clear qh j z N q;go_wp2_with fail;go_ret;exact⟨QbW (Qc2 Q (oH J) I).symm,E.trans (y.mono oM)⟩
      | true=>
       have I:=hid ha;clear ha;refine u.out _ _ ⟨q,(q.cell (p:=(Ub w.heap.size)) V).trans g,(q.cell (p:=(Ua b _)) m).trans t,(q.cell (p:=(Ua b _)) m).trans o,(q.cell (p:=(Ua b _)) m).trans s,(q.cell (p:=(Ua b _)) m).trans Y,(q.cell (p:=(Ua b _)) m).trans Z,(q.cell (p:=(Ua b _)) m).trans G⟩ (fun qh=> ?_);clear u K;try simp only [zP]
       refine tZ 23 34 ?_;refine tZ 24 35 ?_;refine tZ 25 36 ?_;refine zD ?_;have L:=hid qh.2.1;have y:=hid q;clear qh j z N q P W e2 e3;go_wp2_with fail;go_roundw;case rel=>exact⟨k+1,Q,oN,Qdd X M (fun _=>I.out),L,E.trans (y.mono oM),oH y.size⟩
       case measure=>exact oE
   ·obtain rfl:k=n:=oM;have E:=hid r;by_cases C:k<=1000
    ·have U:Hid (QdC R F T k=true):=Qax.2 ⟨A,C⟩;have hd:decide ((k:Int)<=1000)=true:=oS;clear v r A;go_wp2_with fail;go_ret;exact⟨QbW U.symm,E⟩
    ·have U:Hid (QdC R F T k=false):=Qcs fun h=>C h.2;have hd:decide ((k:Int)<=1000)=false:=oS;clear v r A;go_wp2_with fail;go_ret;exact⟨QbW U.symm,E⟩
theorem Qm5 (a:Option Us)(n c:Nat)(R F T:Nat ->Int)(w:Ur)(hn:n<=1048576)(h:QaD w a n R F T):
  Cl 176 #[Uo #[Uf a n c]] w (Rt w (Un (QdC R F T n))):=by
 by_cases hm:n<=1000;case neg=>
  have G:Hid (QdC R F T n=false):=Qcs fun h=>hm h.2;go_enter func176,ntmps176;go_wp2_with fail;go_ret;exact⟨QbW G.symm,zO _ _⟩
 rcases h with h|⟨b,off,rfl,Q,z⟩
 ·subst h;have G:Hid (QdC R F T 0=true):=Qax.2 ⟨fun i hi=>oM,oM⟩;go_enter func176,ntmps176;go_wp2_with fail;refine wp_loop_rounds 1 ?_;rw [rounds_succ];go_wp2_with fail;go_ret;exact⟨QbW G.symm,zO _ _⟩
 ·go_enter func176,ntmps176;go_wp2_with fail;go_loopw [12] (fun i wr=>∃k:Nat,k<=n/\ i=Ud k/\ QeM R F T k/\ wr.cell? (Ub w.heap.size)=Uq (Uf (Uq (Ua b off)) n c)/\ Bl w wr/\ w.heap.size<wr.heap.size) (fun i _=>n - (intOf i).toNat);case atStart=>exact⟨0,Uv _,rfl,fun i hi=>oM,oP,zO _ _,oP⟩
  case round=>
   obtain⟨k,hk,rfl,V,L,y,He⟩:=hrel;have Hf:=Ut Q y.size;by_cases U:k<n
   ·have Hc:wr.cell? (Ua b (off+k*3))=Uq (Ud (R k)):=(y.cell (p:=(Ua b _)) Q).trans (z k U).1;have Ha:wr.cell? (Ua b (off+k*3+1))=Uq (Ud (F k)):=(y.cell (p:=(Ua b _)) Q).trans (z k U).2.1;have Hb:wr.cell? (Ua b (off+k*3+2))=Uq (Ud (T k)):=(y.cell (p:=(Ua b _)) Q).trans (z k U).2.2;have Y:=hid y;have HO:=hid V;obtain⟨u,v⟩:=zE (wr.alloc (Uj #[Ud (R k),Ud (F k),Ud (T k)] 123));have q:wr.heap.size<u.heap.size:=v▸oP;have H:w.heap.size<u.heap.size:=oM;have o:b<u.heap.size:=oM;have Z:Bl wr u:=v▸zO _ _;have s:u.cell? (Ub w.heap.size)=Uq (Uf (Uq (Ua b off)) n c):=(Z.cell (p:=(Ub w.heap.size)) He).trans L;have A:u.cell? (Ub wr.heap.size)=Uq (Ud (R k)):=v▸oP;have E:u.cell? (Ua wr.heap.size 1)=Uq (Ud (F k)):=v▸oP;have M:u.cell? (Ua wr.heap.size 2)=Uq (Ud (T k)):=v▸oP;have I:=hid Z;cases hr:Qbe (R k) (F k) (T k) with
    | false=>
     have O:=hid hr;clear hr z y V Z;go_wp2_with fail;try rw [v]
     clear v L Hc Ha Hb;refine zR (S:=fun w'=>Bl u w'/\ w'.cell? (Ub w.heap.size)=Uq (Uf (Uq (Ua b off)) n c)/\ w'.cell? (Ub wr.heap.size)=Uq (Ud (R k))/\ w'.cell? (Ua wr.heap.size 1)=Uq (Ud (F k))/\ w'.cell? (Ua wr.heap.size 2)=Uq (Ud (T k))) ⟨zI.drew,s,A,E,M⟩ (fun qh=> ?_);refine tZ 0 17 ?_;refine cZ 1 ?_;intro K r;go_simp;refine(Qei _ _ _ _).mono ?_;rintro e w2 ⟨rfl,t⟩;rw [O.out];have j:=Qaa qh.1 t;refine r.out _ _ ⟨j,(j.cell (p:=(Ub w.heap.size)) H).trans s,(j.cell (p:=(Ub wr.heap.size)) q).trans A,(j.cell (p:=(Ua wr.heap.size 1)) q).trans E,(j.cell (p:=(Ua wr.heap.size 2)) q).trans M⟩ (fun qh=> ?_);clear r K;try simp only [zP]
     refine tZ 2 19 ?_;refine tZ 3 20 ?_;refine uZ 4 21 ?_;refine uZ 5 22 ?_;refine uZ 6 23 ?_;refine uZ 7 24 ?_;refine uZ 8 25 ?_;refine uZ 9 26 ?_;refine uZ 10 27 ?_;refine uZ 11 28 ?_;refine uZ 12 29 ?_;refine uZ 13 30 ?_;refine uZ 14 31 ?_;refine uZ 15 32 ?_;refine uZ 16 33 ?_;refine tZ 17 34 ?_;refine zD ?_;have g:=hid j;clear qh j t;go_wp2_with fail;go_ret;exact⟨QbW (Qd9 U O).symm,Y.trans ((I.trans (g.mono oM)).mono oM)⟩
    | true=>
     have O:=hid hr;clear hr;by_cases C:k=0
     ·have hg:decide (0<k)=false:=oS;have P:=hid C;clear z y V C Z;go_wp2_with fail;try rw [v]
      clear v L Hc Ha Hb;refine zR (S:=fun w'=>Bl u w'/\ w'.cell? (Ub w.heap.size)=Uq (Uf (Uq (Ua b off)) n c)/\ w'.cell? (Ub wr.heap.size)=Uq (Ud (R k))/\ w'.cell? (Ua wr.heap.size 1)=Uq (Ud (F k))/\ w'.cell? (Ua wr.heap.size 2)=Uq (Ud (T k))) ⟨zI.drew,s,A,E,M⟩ (fun qh=> ?_);refine tZ 0 17 ?_;refine cZ 1 ?_;intro K r;go_simp;refine(Qei _ _ _ _).mono ?_;rintro e w2 ⟨rfl,t⟩;rw [O.out];have j:=Qaa qh.1 t;refine r.out _ _ ⟨j,(j.cell (p:=(Ub w.heap.size)) H).trans s,(j.cell (p:=(Ub wr.heap.size)) q).trans A,(j.cell (p:=(Ua wr.heap.size 1)) q).trans E,(j.cell (p:=(Ua wr.heap.size 2)) q).trans M⟩ (fun qh=> ?_);clear r K;try simp only [zP]
      refine tZ 2 19 ?_;refine tZ 3 20 ?_;refine tZ 4 21 ?_;refine tZ 5 22 ?_;refine tZ 6 23 ?_;refine uZ 7 24 ?_;refine uZ 8 25 ?_;refine uZ 9 26 ?_;refine uZ 10 27 ?_;refine uZ 11 28 ?_;refine uZ 12 29 ?_;refine uZ 13 30 ?_;refine uZ 14 31 ?_;refine uZ 15 32 ?_;refine tZ 16 33 ?_;refine tZ 17 34 ?_;refine zD ?_;have W:=hid qh.2.1;have g:=hid j;clear qh j t;go_wp2_with fail;go_roundw;case rel=>exact⟨k+1,U,oN,Qdd HO O (fun h=>oH P),W,Y.trans ((I.trans (g.mono oM)).mono oM),oH g.size⟩
      case measure=>exact oE
     ·have hg:decide (0<k)=true:=oS;have J:=y.trans (Z.mono oM);have N:=(J.cell (p:=(Ua b (off+(k - 1)*3))) Q).trans (z (k - 1) oM).1;have X:=(J.cell (p:=(Ua b (off+(k - 1)*3+1))) Q).trans (z (k - 1) oM).2.1;have B:=(J.cell (p:=(Ua b (off+(k - 1)*3+2))) Q).trans (z (k - 1) oM).2.2;have e0:IntKind.i64.wrap ((k:Int) - 1)=(k:Int) - 1:=Qa3 _ oM oM;have e1:((k:Int) - 1).toNat=k - 1:=oM;have e2:(1:Int)<=(k:Int):=oM;have e3:(k:Int) - 1<(n:Int):=oM;have Hd:=Qbf.1 (V (k - 1) oM).1;have HP:=hid Hd;have P:=hid C;clear z y V C Hd Z J;go_wp2_with fail;try rw [v]
      clear v L Hc Ha Hb;refine zR (S:=fun w'=>Bl u w'/\ w'.cell? (Ub w.heap.size)=Uq (Uf (Uq (Ua b off)) n c)/\ w'.cell? (Ub wr.heap.size)=Uq (Ud (R k))/\ w'.cell? (Ua wr.heap.size 1)=Uq (Ud (F k))/\ w'.cell? (Ua wr.heap.size 2)=Uq (Ud (T k))/\ w'.cell? (Ua b (off+(k - 1)*3))=Uq (Ud (R (k - 1)))/\ w'.cell? (Ua b (off+(k - 1)*3+1))=Uq (Ud (F (k - 1)))/\ w'.cell? (Ua b (off+(k - 1)*3+2))=Uq (Ud (T (k - 1)))) ⟨zI.drew,s,A,E,M,N,X,B⟩ (fun qh=> ?_);refine tZ 0 17 ?_;refine cZ 1 ?_;intro K r;go_simp;refine(Qei _ _ _ _).mono ?_;rintro e w2 ⟨rfl,t⟩;rw [O.out];have j:=Qaa qh.1 t;refine r.out _ _ ⟨j,(j.cell (p:=(Ub w.heap.size)) H).trans s,(j.cell (p:=(Ub wr.heap.size)) q).trans A,(j.cell (p:=(Ua wr.heap.size 1)) q).trans E,(j.cell (p:=(Ua wr.heap.size 2)) q).trans M,(j.cell (p:=(Ua b _)) o).trans N,(j.cell (p:=(Ua b _)) o).trans X,(j.cell (p:=(Ua b _)) o).trans B⟩ (fun qh=> ?_);clear r K;try simp only [zP]
      refine tZ 2 19 ?_;refine tZ 3 20 ?_;refine tZ 4 21 ?_;refine tZ 5 22 ?_;refine tZ 6 23 ?_;refine tZ 7 24 ?_;refine tZ 8 25 ?_;refine tZ 9 26 ?_;refine tZ 10 27 ?_;refine tZ 11 28 ?_;refine tZ 12 29 ?_;refine tZ 13 30 ?_;refine cZ 14 ?_;intro K r;go_simp;refine(Qhb (R (k - 1)) (F (k - 1)) (T (k - 1)) (R k) (F k) (T k) _ (oH HP) (oH HP)).mono ?_;rintro e w3 ⟨rfl,b3⟩;have m:=Qaa j b3;cases ha:QaJ (R (k - 1)) (T (k - 1)) (R k) (F k) with
      | false=>
       have D:=hid ha;clear ha;refine r.out _ _ ⟨m,(m.cell (p:=(Ub w.heap.size)) H).trans s,(m.cell (p:=(Ub wr.heap.size)) q).trans A,(m.cell (p:=(Ua wr.heap.size 1)) q).trans E,(m.cell (p:=(Ua wr.heap.size 2)) q).trans M,(m.cell (p:=(Ua b _)) o).trans N,(m.cell (p:=(Ua b _)) o).trans X,(m.cell (p:=(Ua b _)) o).trans B⟩ (fun qh=> ?_);clear r K;try simp only [zP]
       refine tZ 15 32 ?_;refine tZ 16 33 ?_;refine tZ 17 34 ?_;refine zD ?_;have g:=hid m;clear qh j t b3 m;go_wp2_with fail;go_ret;exact⟨QbW (Qc2 U (oH P) D).symm,Y.trans ((I.trans (g.mono oM)).mono oM)⟩
      | true=>
       have D:=hid ha;clear ha;refine r.out _ _ ⟨m,(m.cell (p:=(Ub w.heap.size)) H).trans s,(m.cell (p:=(Ub wr.heap.size)) q).trans A,(m.cell (p:=(Ua wr.heap.size 1)) q).trans E,(m.cell (p:=(Ua wr.heap.size 2)) q).trans M,(m.cell (p:=(Ua b _)) o).trans N,(m.cell (p:=(Ua b _)) o).trans X,(m.cell (p:=(Ua b _)) o).trans B⟩ (fun qh=> ?_);clear r K;try simp only [zP]
       refine tZ 15 32 ?_;refine tZ 16 33 ?_;refine tZ 17 34 ?_;refine zD ?_;have W:=hid qh.2.1;have g:=hid m;clear qh j t b3 m e0 e1 e2 e3;go_wp2_with fail;go_roundw;case rel=>exact⟨k+1,U,oN,Qdd HO O (fun _=>D.out),W,Y.trans ((I.trans (g.mono oM)).mono oM),oH g.size⟩
       case measure=>exact oE
   ·obtain rfl:k=n:=oM;have Y:=hid y;have G:Hid (QdC R F T k=true):=Qax.2 ⟨V,hm⟩;clear z y V;go_wp2_with fail;go_ret;exact⟨QbW G.symm,Y⟩
theorem QoE (a a':Option Us)(n c c':Nat)(R F T:Nat ->Int)(w:Ur)(hn:n<=1048576)(h:QaD w a n R F T)(t:QaD w a' n R F T):
  Cl 90 #[Uf a n c,Uf a' n c'] w (Rt w (Un true)):=by
 by_cases o:n=0
 ·subst o;go_enter func90,ntmps90;go_wp2_with fail;refine wp_loop_rounds 1 ?_;rw [rounds_succ];go_wp2_with fail;go_ret;exact⟨rfl,zI⟩
 ·rcases h with h|⟨b,off,rfl,z,u⟩
  ·exact absurd h o
  rcases t with t|⟨b',r,rfl,g,v⟩
  ·exact absurd t o
  go_enter func90,ntmps90;go_wp2_with fail;go_loopw [5] (fun i wr=>∃k:Nat,k<=n/\ i=Ud k/\ Bl w wr) (fun i _=>n - (intOf i).toNat);case atStart=>exact⟨0,Uv _,rfl,zI⟩
  case round=>
   obtain⟨k,G,rfl,j⟩:=hrel;have s:=Ut z j.size;have A:=Ut g j.size;by_cases q:k<n
   ·have x0:wr.cell? (Ua b (off+k*3))=Uq (Ud (R k)):=(j.cell (p:=(Ua b _)) z).trans (u k q).1;have O:wr.cell? (Ua b (off+k*3+1))=Uq (Ud (F k)):=(j.cell (p:=(Ua b _)) z).trans (u k q).2.1;have Q:wr.cell? (Ua b (off+k*3+2))=Uq (Ud (T k)):=(j.cell (p:=(Ua b _)) z).trans (u k q).2.2;have U:wr.cell? (Ua b' (r+k*3))=Uq (Ud (R k)):=(j.cell (p:=(Ua b' _)) g).trans (v k q).1;have V:wr.cell? (Ua b' (r+k*3+1))=Uq (Ud (F k)):=(j.cell (p:=(Ua b' _)) g).trans (v k q).2.1;have Y:wr.cell? (Ua b' (r+k*3+2))=Uq (Ud (T k)):=(j.cell (p:=(Ua b' _)) g).trans (v k q).2.2;have H:(0:Int)<=(k:Int):=UZ _;have I:(k:Int)<(n:Int):=oM;have y:=hid j;clear u v j;go_wp2_with fail;refine zR (S:=fun w'=>Bl wr w'/\ w'.cell? (Ua b (off+k*3))=Uq (Ud (R k))/\ w'.cell? (Ua b (off+k*3+1))=Uq (Ud (F k))/\ w'.cell? (Ua b (off+k*3+2))=Uq (Ud (T k))/\ w'.cell? (Ua b' (r+k*3))=Uq (Ud (R k))/\ w'.cell? (Ua b' (r+k*3+1))=Uq (Ud (F k))/\ w'.cell? (Ua b' (r+k*3+2))=Uq (Ud (T k))) ⟨zI.drew,x0,O,Q,U,V,Y⟩ (fun qh=> ?_);refine tZ 0 17 ?_;refine tZ 1 18 ?_;refine tZ 2 19 ?_;refine tZ 3 20 ?_;refine tZ 4 21 ?_;refine tZ 5 22 ?_;refine tZ 6 23 ?_;refine tZ 7 24 ?_;refine cZ 8 ?_;intro K M;go_simp;refine(Qqk (R k) (F k) (T k) _).mono ?_;rintro e w2 ⟨rfl,E⟩;have m:=Qaa qh.1 E;refine M.out _ _ ⟨m,(m.cell (p:=(Ua b _)) s).trans x0,(m.cell (p:=(Ua b _)) s).trans O,(m.cell (p:=(Ua b _)) s).trans Q,(m.cell (p:=(Ua b' _)) A).trans U,(m.cell (p:=(Ua b' _)) A).trans V,(m.cell (p:=(Ua b' _)) A).trans Y⟩ (fun qh=> ?_);clear M K;try simp only [zP]
    refine tZ 9 26 ?_;refine zD ?_;have Z:=hid m;clear qh m E;go_wp2_with fail;go_roundw;case rel=>exact⟨k+1,q,oN,y.trans (Z.mono y.size)⟩
    case measure=>exact oE
   ·obtain rfl:k=n:=oM;have y:=hid j;clear u v j;go_wp2_with fail;go_ret;exact⟨rfl,y⟩
theorem Qj1 (a a':Option Us)(n c c':Nat)(R F T:Nat ->Int)(w:Ur)(hn:n<=1048576)(h:QaD w a n R F T)(h':QaD w a' n R F T):
  Cl 56 #[Uo #[Uf a n c],Uo #[Uf a' n c']] w (Rt w (Un true)):=by
 have j:=hid (fun(o o':Obj)=>Qak w o o');go_enter func56,ntmps56;go_wp2_with fail;refine(QoE a a' n c c' R F T _ hn (h.bw (j _ _)) (h'.bw (j _ _))).mono ?_;rintro e w1 ⟨rfl,k⟩;have m:=hid (Qaa (j _ _) k);clear k h h';go_wp2_with fail;go_ret;exact⟨rfl,m⟩
def gS (p:List ByteArray)(i:Nat):ByteArray:=p.getD i ByteArray.empty
def QaI (w:Ur)(a:Option Us)(p:List ByteArray):Prop:=
 p.length=0 \/∃b off,a=Uq (Ua b off)/\ b<w.heap.size/\∀i,i<p.length ->w.cell? (Ua b (off+i))=Uq (Um (gS p i))
theorem QaI.kept(h:QaI w a p)(hb:Below B w w1)(hB:w.heap.size<=B):QaI w1 a p:=by
 refine h.imp id ?_;rintro⟨b,off,e,j,k⟩;exact⟨b,off,e,Ut j hb.size,fun i hi=>(hb.cell (p:=(Ua b (off+i))) (Ut j hB)).trans (k i hi)⟩
theorem QaI.bw(h:QaI w a p)(hb:Bl w w1):QaI w1 a p:=h.kept hb zL
structure Lf where
 p:List ByteArray
 fl:Bool
 r:Int
 q:Int
 v:ByteArray
def gL (l:List Lf)(i:Nat):Lf:=l.getD i ⟨[],false,0,0,ByteArray.empty⟩
def QbK (w:Ur)(a:Option Us)(l:List Lf):Prop:=
 l.length=0 \/∃b off,a=Uq (Ua b off)/\ b<w.heap.size/\∀i,i<l.length ->∃pa pc,w.cell? (Ua b (off+i*5))=Uq (Uf pa (gL l i).p.length pc)/\ QaI w pa (gL l i).p/\ w.cell? (Ua b (off+i*5+1))=Uq (Un (gL l i).fl)/\ w.cell? (Ua b (off+i*5+2))=Uq (Ud (gL l i).r)/\ w.cell? (Ua b (off+i*5+3))=Uq (Ud (gL l i).q)/\ w.cell? (Ua b (off+i*5+4))=Uq (Um (gL l i).v)
theorem QbK.bw{l:List Lf}(h:QbK w a l)(hb:Bl w w1):QbK w1 a l:=by
 refine h.imp id ?_;rintro⟨b,off,e,j,y⟩;refine⟨b,off,e,Ut j hb.size,fun i hi=> ?_⟩;obtain⟨z,g,k,s,m,r,u,v⟩:=y i hi;have q:=fun o=>hb.cell (p:=(Ua b o)) j;exact⟨z,g,(q _).trans k,s.bw hb,(q _).trans m,(q _).trans r,(q _).trans u,(q _).trans v⟩
theorem Qj2 (a a':Option Us)(c c':Nat)(p:List ByteArray)(w:Ur)(hn:p.length<=1048576)(h:QaI w a p)(q:QaI w a' p):
  Cl 119 #[Uf a p.length c,Uf a' p.length c'] w (Rt w (Un true)):=by
 by_cases r:p.length=0
 ·rw [r];go_enter func119,ntmps119;go_wp2_with fail;refine wp_loop_rounds 1 ?_;rw [rounds_succ];go_wp2_with fail;go_ret;exact⟨rfl,zI⟩
 ·rcases h with h|⟨b,off,rfl,t,u⟩
  ·exact absurd h r
  rcases q with q|⟨b',A,rfl,o,v⟩
  ·exact absurd q r
  go_enter func119,ntmps119;go_wp2_with fail;go_loopw [5] (fun i wr=>∃k:Nat,k<=p.length/\ i=Ud k/\ Bl w wr) (fun i _=>p.length - (intOf i).toNat);case atStart=>exact⟨0,Uv _,rfl,zI⟩
  case round=>
   obtain⟨k,O,rfl,m⟩:=hrel;by_cases y:k<p.length
   ·have x0:=(m.cell (p:=(Ua b (off+k))) t).trans (u k y);have E:=(m.cell (p:=(Ua b' (A+k))) o).trans (v k y);obtain⟨s,z⟩:=zE (gS p k);rw [z] at x0 E;have Q:(0:Int)<=(k:Int):=UZ _;have U:(k:Int)<(p.length:Int):=oM;have M:(s.toList==s.toList)=true:=oP;have j:=hid m;clear u v m z;go_wp2_with fail;go_quiet (fail);have g:=hid (show Bl w (wr.drewN nq) from⟨j.os,j.tape,j.output,j.size,j.block⟩);go_wp2_with fail;go_roundw;case rel=>exact⟨k+1,y,oN,g⟩
    case measure=>exact oE
   ·obtain rfl:k=p.length:=oM;have j:=hid m;clear u v m;go_wp2_with fail;go_ret;exact⟨rfl,j⟩
theorem QoD (r q:Int)(w:Ur):Cl 120 #[Uo #[Ud r,Ud q],Uo #[Ud r,Ud q]] w (Rt w (Un true)):=by
 have m:(r !=r)=false:=oP;have k:(q !=q)=false:=oP;have j:=hid ((zO w (Uj #[Ud r,Ud q] 115)).alloc oP (Uj #[Ud r,Ud q] 115));go_enter func120,ntmps120;go_wp2_with fail;go_ret;exact⟨rfl,j⟩
theorem Qnq (a a':Option Us)(c c':Nat)(p:List ByteArray)(fl:Bool)(r q:Int)(v:ByteArray)(w:Ur)(hn:p.length<=1048576)(h:QaI w a p)(h':QaI w a' p):
  Cl 89 #[Uo #[Uf a p.length c,Un fl,Ud r,Ud q,Um v],Uo #[Uf a' p.length c',Un fl,Ud r,Ud q,Um v]] w (Rt w (Un true)):=by
 obtain⟨W,j⟩:=zE ((w.alloc (Uj #[Uf a p.length c,Un fl,Ud r,Ud q,Um v] 117)).alloc (Uj #[Uf a' p.length c',Un fl,Ud r,Ud q,Um v] 117));have y:Bl w W:=j▸(zO _ _).alloc oP _;have Y:W.heap.size=w.heap.size+2:=j▸oP;have k0:W.cell? (Ub w.heap.size)=Uq (Uf a p.length c):=j▸oP;have J:W.cell? (Ua (w.heap.size+1) 0)=Uq (Uf a' p.length c'):=j▸oP;have o:W.cell? (Ua w.heap.size 1)=Uq (Un fl):=j▸oP;have b:W.cell? (Ua w.heap.size 2)=Uq (Ud r):=j▸oP;have s:W.cell? (Ua w.heap.size 3)=Uq (Ud q):=j▸oP;have A:W.cell? (Ua w.heap.size 4)=Uq (Um v):=j▸oP;have E:W.cell? (Ua (w.heap.size+1) 1)=Uq (Un fl):=j▸oP;have M:W.cell? (Ua (w.heap.size+1) 2)=Uq (Ud r):=j▸oP;have O:W.cell? (Ua (w.heap.size+1) 3)=Uq (Ud q):=j▸oP;have Q:W.cell? (Ua (w.heap.size+1) 4)=Uq (Um v):=j▸oP;have t:=hid (Qj2 a a' c c' p W hn (h.bw y) (h'.bw y));have Z:=hid y;have g:=hid Y;have D:(fl !=fl)=false:=oP;have F:(v.toList==v.toList)=true:=oP;clear h h' y Y;go_enter func89,ntmps89;go_wp2_with fail;try rw [j]
 clear j;refine t.mono ?_;rintro e w1 ⟨rfl,k⟩;have m:=fun(i:Nat)=>k.cell (p:=(Ua w.heap.size i)) (show w.heap.size<W.heap.size by have:=g.out;omega);have u:=fun(i:Nat)=>k.cell (p:=(Ua (w.heap.size+1) i)) (show w.heap.size+1<W.heap.size by have:=g.out;omega);have K:=(m 1).trans o;have L:=(m 2).trans b;have N:=(m 3).trans s;have U:=(m 4).trans A;have X:=(u 1).trans E;have B:=(u 2).trans M;have C:=(u 3).trans O;have V:=(u 4).trans Q;have G:=hid (Qaa Z k);have I:w.heap.size+1<w1.heap.size:=oJ k.size g;clear m u k0 o b s A J E M O Q k t;go_wp2_with fail;refine(QoD r q w1).mono ?_;rintro e w2 ⟨rfl,z⟩;have P:=(z.cell (p:=(Ua w.heap.size 4)) (show w.heap.size<w1.heap.size by omega)).trans U;have R:=(z.cell (p:=(Ua (w.heap.size+1) 4)) I).trans V;have H:=hid (Qaa G z);clear z K L N U X B C V;go_wp2_with fail;go_ret;exact⟨rfl,H⟩
def LfI (x:Lf):Prop:=(Lit.int Uh x.r).wf=true/\ (Lit.int Uh x.q).wf=true
theorem Qbq (b off j:Nat):((Ua b off):Us).add j=(Ua b (off+j)):=by
 by_cases k:j=0
 ·subst k;rfl
 ·simp [Addr.add,k]
def LBd (l:List Lf):Prop:=∀i,(gL l i).p.length<=1048576
theorem Qlj (a a':Option Us)(c c':Nat)(l:List Lf)(w:Ur)(hn:l.length<=1048576)(hp:LBd l)(h:QbK w a l)(I:QbK w a' l):
  Cl 55 #[Uf a l.length c,Uf a' l.length c'] w (Rt w (Un true)):=by
 by_cases J:l.length=0
 ·rw [J];go_enter func55,ntmps55;go_wp2_with fail;refine wp_loop_rounds 1 ?_;rw [rounds_succ];go_wp2_with fail;go_ret;exact⟨rfl,zI⟩
 ·rcases h with h|⟨b,off,rfl,y,L⟩
  ·exact absurd h J
  rcases I with I|⟨b',u,rfl,z,N⟩
  ·exact absurd I J
  go_enter func55,ntmps55;go_wp2_with fail;go_loopw [5] (fun i wr=>∃k:Nat,k<=l.length/\ i=Ud k/\ Bl w wr) (fun i _=>l.length - (intOf i).toNat);case atStart=>exact⟨0,Uv _,rfl,zI⟩
  case round=>
   obtain⟨k,hk,rfl,j⟩:=hrel;have g:=Ut y j.size;have t:=Ut z j.size;by_cases X:k<l.length
   ·obtain⟨pa,pc,E,s,M,O,Q,U⟩:=L k X;obtain⟨Ha,Hb,V,B,Y,Z,G,H⟩:=N k X;have R:=hp k;obtain⟨p,P⟩:=zE ((gL l k).p);obtain⟨A,F⟩:=zE ((gL l k).fl);obtain⟨r,W⟩:=zE ((gL l k).r);obtain⟨q,T⟩:=zE ((gL l k).q);obtain⟨v,hv⟩:=zE ((gL l k).v);rw [P] at E s V B R;rw [F] at M Y;rw [W] at O Z;rw [T] at Q G;rw [hv] at U H;have x0:=(j.cell (p:=(Ua b (off+k*5))) y).trans E;have x1:=(j.cell (p:=(Ua b (off+k*5+1))) y).trans M;have x2:=(j.cell (p:=(Ua b (off+k*5+2))) y).trans O;have x3:=(j.cell (p:=(Ua b (off+k*5+3))) y).trans Q;have x4:=(j.cell (p:=(Ua b (off+k*5+4))) y).trans U;have y0:=(j.cell (p:=(Ua b' (u+k*5))) z).trans V;have y1:=(j.cell (p:=(Ua b' (u+k*5+1))) z).trans Y;have y2:=(j.cell (p:=(Ua b' (u+k*5+2))) z).trans Z;have y3:=(j.cell (p:=(Ua b' (u+k*5+3))) z).trans G;have y4:=(j.cell (p:=(Ua b' (u+k*5+4))) z).trans H;have Hc:=hid (s.bw j);have Hd:=hid (B.bw j);have He:(0:Int)<=(k:Int):=UZ _;have Hf:(k:Int)<(l.length:Int):=oM;have o:=hid j;clear L N j E s M O Q U V B Y Z G H P F W T hv hp;go_wp2_with fail;refine zR (S:=fun w'=>Bl wr w'/\ w'.cell? (Ua b (off+k*5))=Uq (Uf pa p.length pc)/\ w'.cell? (Ua b (off+k*5+1))=Uq (Un A)/\ w'.cell? (Ua b (off+k*5+2))=Uq (Ud r)/\ w'.cell? (Ua b (off+k*5+3))=Uq (Ud q)/\ w'.cell? (Ua b (off+k*5+4))=Uq (Um v)/\ w'.cell? (Ua b' (u+k*5))=Uq (Uf Ha p.length Hb)/\ w'.cell? (Ua b' (u+k*5+1))=Uq (Un A)/\ w'.cell? (Ua b' (u+k*5+2))=Uq (Ud r)/\ w'.cell? (Ua b' (u+k*5+3))=Uq (Ud q)/\ w'.cell? (Ua b' (u+k*5+4))=Uq (Um v)) ⟨zI.drew,x0,x1,x2,x3,x4,y0,y1,y2,y3,y4⟩ (fun qh=> ?_);refine tZ 0 17 ?_;refine tZ 1 18 ?_;refine tZ 2 19 ?_;refine tZ 3 20 ?_;refine tZ 4 21 ?_;refine tZ 5 22 ?_;refine tZ 6 23 ?_;refine tZ 7 24 ?_;refine cZ 8 ?_;intro K D;go_simp;refine(Qnq pa Ha pc Hb p A r q v _ R (Hc.bw qh.1) (Hd.bw qh.1)).mono ?_;rintro e w2 ⟨rfl,C⟩;have m:=Qaa qh.1 C;refine D.out _ _ ⟨m,(m.cell (p:=(Ua b _)) g).trans x0,(m.cell (p:=(Ua b _)) g).trans x1,(m.cell (p:=(Ua b _)) g).trans x2,(m.cell (p:=(Ua b _)) g).trans x3,(m.cell (p:=(Ua b _)) g).trans x4,(m.cell (p:=(Ua b' _)) t).trans y0,(m.cell (p:=(Ua b' _)) t).trans y1,(m.cell (p:=(Ua b' _)) t).trans y2,(m.cell (p:=(Ua b' _)) t).trans y3,(m.cell (p:=(Ua b' _)) t).trans y4⟩ (fun qh=> ?_);clear D K;try simp only [zP]
    refine tZ 9 26 ?_;refine zD ?_;have HZ:=hid m;clear qh m C;go_wp2_with fail;go_roundw;case rel=>exact⟨k+1,X,oN,o.trans (HZ.mono o.size)⟩
    case measure=>exact oE
   ·obtain rfl:k=l.length:=oM;have o:=hid j;clear L N j;go_wp2_with fail;go_ret;exact⟨rfl,o⟩
theorem QhO (a a':Option Us)(c c':Nat)(l:List Lf)(x x':Option Us)(n d d':Nat)(R F T:Nat ->Int)(w:Ur)(hn:l.length<=1048576)(hp:LBd l)(hm:n<=1048576)(h:QbK w a l)(h':QbK w a' l)(k:QaD w x n R F T)(k':QaD w x' n R F T):
  Cl 33 #[Uo #[Uf a l.length c,Uf x n d],Uo #[Uf a' l.length c',Uf x' n d']] w (Rt w (Un true)):=by
 obtain⟨W,j⟩:=zE ((w.alloc (Uj #[Uf a l.length c,Uf x n d] 40)).alloc (Uj #[Uf a' l.length c',Uf x' n d'] 40));have m:Bl w W:=j▸Qak _ _ _;have o:W.heap.size=w.heap.size+2:=j▸oP;have k0:W.cell? (Ub w.heap.size)=Uq (Uf a l.length c):=j▸oP;have g:W.cell? (Ua w.heap.size 1)=Uq (Uf x n d):=j▸oP;have s:W.cell? (Ua (w.heap.size+1) 0)=Uq (Uf a' l.length c'):=j▸oP;have t:W.cell? (Ua (w.heap.size+1) 1)=Uq (Uf x' n d'):=j▸oP;have v:=hid (Qlj a a' c c' l W hn hp (h.bw m) (h'.bw m));have u:=hid (fun w1(hb:Bl W w1)=>Qj1 x x' n d d' R F T w1 hm ((k.bw m).bw hb) ((k'.bw m).bw hb));have i:=hid m;have y:=hid o;clear h h' k k' m o;go_enter func33,ntmps33;go_wp2_with fail;try rw [j]
 clear j;refine v.mono ?_;rintro e w1 ⟨rfl,q⟩;have A:=(q.cell (p:=(Ua w.heap.size 1)) (show w.heap.size<W.heap.size by have:=y.out;omega)).trans g;have E:=(q.cell (p:=(Ua (w.heap.size+1) 1)) (show w.heap.size+1<W.heap.size by have:=y.out;omega)).trans t;have r:=hid q;clear q k0 g s t v;go_wp2_with fail;refine(u w1 r).mono ?_;rintro e w2 ⟨rfl,z⟩;have b:=hid (Qaa i (Qaa r z));clear z A E u;go_wp2_with fail;go_ret;exact⟨rfl,b⟩
def Qqf (p:List ByteArray):Prop:=p.length<=9223372036854775807/\∀i,(gS p i).size<=9223372036854775807
def PSm (p:List ByteArray):Prop:=p.length<=1048576/\∀i,(gS p i).size<=1048576
def Qgh (x:Lf):Prop:=Qqf x.p/\ x.v.size<=9223372036854775807
def Qoq (x:Lf):Prop:=PSm x.p/\ x.v.size<=1048576
theorem Qfc(h:p.length<=i):gS p i=ByteArray.empty:=by simp [gS,UR,US h]
theorem QkL (a:Option Us)(c:Nat)(p:List ByteArray)(k:Int)(w:Ur)(hk0:0<=k)(hk1:k<=1048576)(hb:Qqf p)(h:QaI w a p):
  Cl 96 #[Uf a p.length c,Ud k] w fun e w'=>(∃k',e=Ui (Ud k')/\ -1<=k'/\ k'<=k/\ (0<=k' ->PSm p))/\ w'=w:=by
 obtain⟨G,y⟩:=hb;by_cases V:k<(p.length:Int)
 ·obtain⟨m,g⟩:=zE (k - (p.length:Int));have w1:IntKind.i64.wrap m=m:=by rw [UY];omega
  have w2:IntKind.i64.wrap (k - (p.length:Int))=m:=by rw [UY];omega
  have u:decide (m<0)=true:=oS;clear h y;go_enter func96,ntmps96;go_wp2_with fail;go_ret;exact⟨⟨-1,rfl,oM,oM,fun h=>oM⟩,rfl⟩
 ·obtain⟨m,g⟩:=zE (k - (p.length:Int));have w1:IntKind.i64.wrap m=m:=by rw [UY];omega
  have w2:IntKind.i64.wrap (k - (p.length:Int))=m:=by rw [UY];omega
  have u:decide (m<0)=false:=oS;have Y:p.length<=1048576:=oM;go_enter func96,ntmps96;go_wp2_with fail;have t:0<=m/\ m<=k:=oM;clear g w1 w2 u V;go_loop [1,5] (fun kv iv=>∃(j:Nat) (r:Int),j<=p.length/\ iv=Ud (j:Int)/\ kv=Ud r/\ 0<=r/\ r<=k/\ Hid (∀i,i<j ->(gS p i).size<=1048576)) (fun _ iv=>p.length - (intOf iv).toNat);case atStart=>exact⟨0,m,Uv _,rfl,rfl,t.1,t.2,hid (fun i hi=>oM)⟩
  case round=>
   obtain⟨j,r,I,rfl,rfl,K,U,E⟩:=hrel;by_cases o:j<p.length
   ·rcases h with h|⟨b,off,rfl,H,z⟩
    ·omega
    have x0:=z j o;have Z:=y j;obtain⟨s,v⟩:=zE (gS p j);rw [v] at x0 Z;have L:(0:Int)<=(j:Int):=UZ _;have N:(j:Int)<(p.length:Int):=oM;have Q:=hid v;obtain⟨q,J⟩:=zE (r - (s.size:Int));have w1:IntKind.i64.wrap q=q:=(by rw [UY];omega);have w2:IntKind.i64.wrap (r - (s.size:Int))=q:=(by rw [UY];omega);clear z v;by_cases A:q<0
    ·have u:decide (q<0)=true:=oU A;go_wp2_with fail;go_ret;exact⟨⟨-1,rfl,oM,oM,fun h=>oM⟩,rfl⟩
    ·have u:decide (q<0)=false:=oU A;have M:Hid (∀i,i<j+1 ->(gS p i).size<=1048576):=hid (fun i hi=>by
      by_cases e:i=j
      ·rw [e,Q.out];omega
      ·exact E i oM)
     go_wp2_with fail;go_round;case rel=>exact⟨j+1,q,o,oN,rfl,oM,oM,M⟩
     case measure=>exact oE
   ·obtain rfl:j=p.length:=oM;have O:Hid (PSm p):=hid ⟨Y,fun i=>by
     by_cases hi:i<p.length
     ·exact E i hi
     ·rw [Qfc oM];simp⟩
    clear h;go_wp2_with fail;go_ret;exact⟨⟨r,rfl,oM,U,fun _=>O.out⟩,rfl⟩
theorem Qol (a:Option Us)(c:Nat)(x:Lf)(k:Int)(w:Ur)(hk0:0<=k)(hk1:k<=1048576)(hb:Qgh x)(h:QaI w a x.p):
  Cl 61 #[Uo #[Uf a x.p.length c,Un x.fl,Ud x.r,Ud x.q,Um x.v],Ud k] w fun e w'=>(∃j,e=Ui (Ud j)/\ -1<=j/\ j<=k/\ (0<=j ->Qoq x))/\ Bl w w':=by
 obtain⟨p,o,r,q,v⟩:=x;obtain⟨g,O⟩:=hb;dsimp only at g O h ⊢;obtain⟨W,u⟩:=zE (w.alloc (Uj #[Uf a p.length c,Un o,Ud r,Ud q,Um v] 113));have z:Bl w W:=u▸zO _ _;have k0:W.cell? (Ub w.heap.size)=Uq (Uf a p.length c):=u▸oP;have Y:W.cell? (Ua w.heap.size 4)=Uq (Um v):=u▸oP;have t:=hid (QkL a c p k W hk0 hk1 g (h.bw z));have y:=hid z;clear h z g;go_enter func61,ntmps61;go_wp2_with fail;try rw [u]
 clear u;refine t.mono ?_;rintro e w1 ⟨⟨j,rfl,Q,U,s⟩,rfl⟩;have A:=hid s;clear s t;by_cases i:j<0
 ·have E:decide (j<0)=true:=oU i;go_wp2_with fail;go_ret;exact⟨⟨-1,rfl,oM,oM,fun h=>oM⟩,y⟩
 ·have E:decide (j<0)=false:=oU i;obtain⟨m,V⟩:=zE (j - (v.size:Int));have w1:IntKind.i64.wrap m=m:=by rw [UY];omega
  have w2:IntKind.i64.wrap (j - (v.size:Int))=m:=by rw [UY];omega
  by_cases b:m<0
  ·have M:decide (m<0)=true:=oU b;go_wp2_with fail;go_ret;exact⟨⟨-1,rfl,oM,oM,fun h=>oM⟩,y⟩
  ·have M:decide (m<0)=false:=oU b;go_wp2_with fail;go_ret;exact⟨⟨m,rfl,oM,oM,fun _=>⟨A oM,oQ⟩⟩,y⟩
theorem QlQ (a:Option Us)(c:Nat)(l:List Lf)(k:Int)(w:Ur)(hk0:0<=k)(hk1:k<=1048576)(hn:l.length<=9223372036854775807)(hb:∀i,Qgh (gL l i))(h:QbK w a l):
  Cl 39 #[Uf a l.length c,Ud k] w fun e w'=>(∃q,e=Ui (Ud q)/\ -1<=q/\ q<=k/\ (0<=q ->l.length<=1048576/\∀i,Qoq (gL l i)))/\ Bl w w':=by
 obtain⟨r,K⟩:=zE (k - (l.length:Int));have w1:IntKind.i64.wrap r=r:=by rw [UY];omega
 have w2:IntKind.i64.wrap (k - (l.length:Int))=r:=by rw [UY];omega
 by_cases u:r<0
 ·have z:decide (r<0)=true:=oU u;clear h hb;go_enter func39,ntmps39;go_wp2_with fail;go_ret;exact⟨⟨-1,rfl,oM,oM,fun h=>oM⟩,zI⟩
 ·have z:decide (r<0)=false:=oU u;have X:l.length<=1048576:=oM;go_enter func39,ntmps39;go_wp2_with fail;have V:0<=r/\ r<=k:=oM;clear K w1 w2 z u;go_loopw [1,5] (fun kv iv wr=>∃(j:Nat) (v:Int),j<=l.length/\ iv=Ud (j:Int)/\ kv=Ud v/\ 0<=v/\ v<=k/\ Hid (∀i,i<j ->Qoq (gL l i))/\ Hid (Bl w wr)) (fun _ iv _=>l.length - (intOf iv).toNat);case atStart=>exact⟨0,r,Uv _,rfl,rfl,V.1,V.2,hid (fun i hi=>oM),hid zI⟩
  case round=>
   obtain⟨j,v,S,rfl,rfl,L,N,G,m⟩:=hrel;by_cases Y:j<l.length
   ·rcases h with h|⟨b,off,rfl,y,U⟩
    ·omega
    obtain⟨B,C,A,s,E,M,O,Q⟩:=U j Y;have x0:=(m.cell (p:=(Ua b (off+j*5))) y).trans A;have D:=(m.cell (p:=(Ua b (off+j*5+1))) y).trans E;have F:=(m.cell (p:=(Ua b (off+j*5+2))) y).trans M;have P:=(m.cell (p:=(Ua b (off+j*5+3))) y).trans O;have R:=(m.cell (p:=(Ua b (off+j*5+4))) y).trans Q;have t:=hid (Qol B C (gL l j) v wr L oM (hb j) (s.bw m));have i1:(0:Int)<=(j:Int):=UZ _;have i2:(j:Int)<(l.length:Int):=oM;clear U A s E M O Q;go_wp2_with fail;refine t.mono ?_;rintro e w3 ⟨⟨q,rfl,T,W,Z⟩,o⟩;have J:=hid Z;have g:=hid (m.trans (o.mono m.size));clear Z t o x0 D F P R;by_cases u:q<0
    ·have z:decide (q<0)=true:=oU u;go_wp2_with fail;go_ret;exact⟨⟨-1,rfl,oM,oM,fun h=>oM⟩,g⟩
    ·have z:decide (q<0)=false:=oU u;have H:Hid (∀i,i<j+1 ->Qoq (gL l i)):=hid (fun i hi=>by
      by_cases e:i=j
      ·rw [e];exact J oM
      ·exact G i oM)
     go_wp2_with fail;go_roundw;case rel=>exact⟨j+1,q,Y,oN,rfl,oM,oM,H,g⟩
     case measure=>exact oE
   ·obtain rfl:j=l.length:=oM;have I:Hid (l.length<=1048576/\∀i,Qoq (gL l i)):=hid ⟨X,fun i=>by
     by_cases hi:i<l.length
     ·exact G i hi
     ·have e:gL l i=⟨[],false,0,0,ByteArray.empty⟩:=(by simp [gL,UR,US (show l.length<=i by omega)]);rw [e];exact⟨⟨oP,fun i=>by rw [Qfc oP];simp⟩,oP⟩⟩
    clear h;go_wp2_with fail;go_ret;exact⟨⟨v,rfl,oM,N,fun _=>I.out⟩,m⟩
theorem QcC:(prog.info? 9).map (fun i=>(i.zero,i.size,i.bytes))=Uq (Uq (Um ByteArray.empty),1,16):=oK
theorem QkN (a:Option Us)(c:Nat)(p:List ByteArray)(w:Ur)(hn:p.length<=1048576)(h:QaI w a p):
  Cl 105 #[Uf a p.length c] w fun e w'=>e=Ui (Uf (Uc w.heap.size) p.length p.length)/\ QaI w' (Uc w.heap.size) p/\ Bl w w'/\ w.heap.size<w'.heap.size/\∃xs,w'.ownsRow w.heap.size 9 1 (Uf (Uc w.heap.size) p.length p.length) p.length xs:=by
 obtain⟨M,hi,J,K,L⟩:=info_parts QcC;have H:p.length<=maxLen:=oL;have V:M.bytes*p.length<=281474976710656:=by rw [L];omega
 go_enter func105,ntmps105;go_wp2_with (at_make;refine wpList_make_full _ rfl _ _ 90 rfl w.heap.size 9 M _ 1 underlying90 hi J K _ _ _ _ p.length rfl rfl rfl rfl V H zL ?_;intro w1 m g);have q:Bl w w1:=zI.grown g zL (fun _ h=>by cases h);have A:∃xs,w1.ownsRow w.heap.size 9 1 (Uf (Uc w.heap.size) p.length p.length) p.length xs:=⟨_,m⟩;clear m g;go_loopw [4] (fun i wr=>∃k:Nat,k<=p.length/\ i=Ud k/\ Bl w wr/\∃xs:List Value,wr.ownsRow w.heap.size 9 1 (Uf (Uc w.heap.size) p.length p.length) p.length xs/\∀j,j<k ->xs[j]? =Uq (Um (gS p j))) (fun i _=>p.length - (intOf i).toNat);case atStart=>obtain⟨xs,I⟩:=A;exact⟨0,Uv _,rfl,q,xs,I,fun j hj=>oM⟩
 case round=>
  clear A q;obtain⟨k,X,rfl,q,xs,m,r⟩:=hrel;by_cases t:k<p.length
  ·rcases h with h|⟨b,off,rfl,U,z⟩
   ·omega
   have Y:=(q.cell (p:=(Ua b (off+k))) U).trans (z k t);obtain⟨s,y⟩:=zE (gS p k);rw [y] at Y;obtain⟨F,B⟩:=QaA m k oM;have N:=m.frozenAt k;have G:=m.1;have v:=hid (m.stored k (Um s)).1;have Q:Hid (∀j,j<k+1 ->(xs.set k (Um s))[j]? =Uq (Um (gS p j))):=hid (fun j hj=>by
    by_cases Z:j=k
    ·subst Z;rw [UQ oM,y]
    ·rw [UP oM];exact r j oM)
   have u:=hid (q.setCell (p:=(Ua w.heap.size k)) zL (Um s));have C:(0:Int)<=(k:Int):=UZ _;have D:(k:Int)<(p.length:Int):=oM;clear m r G q z y;go_wp2_with fail;go_roundw;case rel=>exact⟨k+1,t,oN,u,_,v,Q⟩
   case measure=>exact oE
  ·obtain rfl:k=p.length:=oM;have o:=(m.lt w.heap.size rfl).2;have E:QaI wr (Uc w.heap.size) p:=.inr ⟨w.heap.size,0,rfl,o,fun i hi=>by
    rw [Uw,m.cellAt _ oM];exact r i hi⟩
   have v:=hid E;have O:=hid m;have u:=hid q;clear m r E q h;go_wp2_with fail;go_ret;exact⟨rfl,v,u,o,_,O⟩
theorem QpW (r q:Int)(w:Ur):
  Cl 106 #[Uo #[Ud r,Ud q]] w (Rt w (Uo #[Ud r,Ud q])):=by
 go_enter func106,ntmps106;go_wp2;refine zF (v:=Uo #[Ud r,Ud q]) (by simp [results,results106,go_sem]) ⟨rfl,?_⟩;exact((zO _ _).alloc oP _).alloc oS _
structure Bx5 (w:Ur)(b:Nat)(v0 v1 v2 v3 v4:Value):Prop where
 c0:w.cell? (Ub b)=Uq v0
 c1:w.cell? (Ua b 1)=Uq v1
 c2:w.cell? (Ua b 2)=Uq v2
 c3:w.cell? (Ua b 3)=Uq v3
 c4:w.cell? (Ua b 4)=Uq v4
 f:∀i,w.frozen? (Ua b i)=false
 lt:b<w.heap.size
theorem Bx5.q2(h:Bx5 w b v0 v1 v2 v3 v4):w.cell? (Ub b)=Uq v0/\ w.cell? (Ua b 1)=Uq v1:=⟨h.c0,h.c1⟩
theorem Bx5.p2(h:Bx5 w b v0 v1 v2 v3 v4):w.cell? (Ub b)=Uq v0/\ w.cell? (Ua b 1)=Uq v1/\ ∀i,w.frozen? (Ua b i)=false:=⟨h.c0,h.c1,h.f⟩
theorem Bx5.q3(h:Bx5 w b v0 v1 v2 v3 v4):w.cell? (Ub b)=Uq v0/\ w.cell? (Ua b 1)=Uq v1/\ w.cell? (Ua b 2)=Uq v2:=⟨h.c0,h.c1,h.c2⟩
theorem Bx5.p3(h:Bx5 w b v0 v1 v2 v3 v4):w.cell? (Ub b)=Uq v0/\ w.cell? (Ua b 1)=Uq v1/\ w.cell? (Ua b 2)=Uq v2/\ ∀i,w.frozen? (Ua b i)=false:=⟨h.c0,h.c1,h.c2,h.f⟩
theorem Bx5.q5(h:Bx5 w b v0 v1 v2 v3 v4):w.cell? (Ub b)=Uq v0/\ w.cell? (Ua b 1)=Uq v1/\ w.cell? (Ua b 2)=Uq v2/\ w.cell? (Ua b 3)=Uq v3/\ w.cell? (Ua b 4)=Uq v4:=⟨h.c0,h.c1,h.c2,h.c3,h.c4⟩
theorem Bx5.p5(h:Bx5 w b v0 v1 v2 v3 v4):w.cell? (Ub b)=Uq v0/\ w.cell? (Ua b 1)=Uq v1/\ w.cell? (Ua b 2)=Uq v2/\ w.cell? (Ua b 3)=Uq v3/\ w.cell? (Ua b 4)=Uq v4/\ ∀i,w.frozen? (Ua b i)=false:=⟨h.c0,h.c1,h.c2,h.c3,h.c4,h.f⟩
theorem Bx5.bw(h:Bx5 w b v0 v1 v2 v3 v4)(hb:Below B w w')(hB:b<B):Bx5 w' b v0 v1 v2 v3 v4:=
 ⟨(hb.cell (p:=(Ub b)) hB).trans h.c0,(hb.cell (p:=(Ua b 1)) hB).trans h.c1,(hb.cell (p:=(Ua b 2)) hB).trans h.c2,(hb.cell (p:=(Ua b 3)) hB).trans h.c3,(hb.cell (p:=(Ua b 4)) hB).trans h.c4,fun i=>(hb.frozen (p:=(Ua b i)) hB).trans (h.f i),Ut h.lt hb.size⟩
theorem QaI.same(h:QaI w a p)(hs:w.heap.size<=w1.heap.size)(hk:∀x,a=Uq x ->w1.heap[x.block]? =w.heap[x.block]?):QaI w1 a p:=by
 refine h.imp id ?_;rintro⟨b,off,rfl,k,j⟩;refine⟨b,off,rfl,Ut k hs,fun i hi=> ?_⟩;have e:=hk _ rfl;rw [<- j i hi];unfold UE;simp only [e]
theorem QaI.set(h:QaI w a p)(q:Us)(u:Value)(hq:∀x,a=Uq x ->x.block≠q.block):QaI (w.setCell q u) a p:=
 h.same (by simp [UC]) (fun x hx=>zH _ _ _ _ (hq x hx))
theorem Bx5.setAt(h:Bx5 w b v0 v1 v2 v3 v4)(q:Us)(u:Value)(hq:q.block≠b):Bx5 (w.setCell q u) b v0 v1 v2 v3 v4:=
 ⟨by rw [UF _ _ _ _ hq];exact h.c0,by rw [UF _ _ _ _ hq];exact h.c1,by rw [UF _ _ _ _ hq];exact h.c2,by rw [UF _ _ _ _ hq];exact h.c3,by rw [UF _ _ _ _ hq];exact h.c4,fun i=>by rw [UG];exact h.f i,by simp [UC];exact h.lt⟩
theorem Bx5.set0(h:Bx5 w b v0 v1 v2 v3 v4)(u:Value):Bx5 (w.setCell (Ub b) u) b u v1 v2 v3 v4:=
 ⟨UH _ _ _ h.c0,by simp [UI,h.c1],by simp [UI,h.c2],by simp [UI,h.c3],by simp [UI,h.c4],fun i=>by rw [UG];exact h.f i,by simp [UC];exact h.lt⟩
theorem Bx5.set1(h:Bx5 w b v0 v1 v2 v3 v4)(u:Value):Bx5 (w.setCell (Ua b 1) u) b v0 u v2 v3 v4:=
 ⟨by simp [UI,h.c0],UH _ _ _ h.c1,by simp [UI,h.c2],by simp [UI,h.c3],by simp [UI,h.c4],fun i=>by rw [UG];exact h.f i,by simp [UC];exact h.lt⟩
theorem QpV{c0 c1 c2:Obj}(b1:Below (((w.alloc c0).alloc c1).alloc c2).heap.size (((w.alloc c0).alloc c1).alloc c2) w1):
  ((∀i,w1.cell? (Ua w.heap.size i)=(w.alloc c0).cell? (Ua w.heap.size i))/\ (∀i,w1.cell? (Ua (w.heap.size+1) i)=((w.alloc c0).alloc c1).cell? (Ua (w.heap.size+1) i))/\ (∀i,w1.cell? (Ua (w.heap.size+1+1) i)=(((w.alloc c0).alloc c1).alloc c2).cell? (Ua (w.heap.size+1+1) i)))/\
  (∀i,w1.frozen? (Ua (w.heap.size+1) i)=((w.alloc c0).alloc c1).frozen? (Ua (w.heap.size+1) i))/\ (∀i,w1.frozen? (Ua (w.heap.size+1+1) i)=(((w.alloc c0).alloc c1).alloc c2).frozen? (Ua (w.heap.size+1+1) i)):=by
 have j:Below ((w.alloc c0).alloc c1).heap.size ((w.alloc c0).alloc c1) w1:=(zO _ c2).trans (b1.mono oP);have k:Below (w.alloc c0).heap.size (w.alloc c0) w1:=(zO _ c1).trans (j.mono oP);exact⟨⟨fun i=>k.cell (p:=(Ua w.heap.size i)) oP,fun i=>j.cell (p:=(Ua (w.heap.size+1) i)) oP,fun i=>b1.cell (p:=(Ua (w.heap.size+1+1) i)) oP⟩,fun i=>j.frozen (p:=(Ua (w.heap.size+1) i)) oP,fun i=>b1.frozen (p:=(Ua (w.heap.size+1+1) i)) oP⟩
def PMk (w:Ur)(g n:Nat):Prop:=∃cur,w.heap[g]? =Uq (.cells cur 9 (0,0))/\ n<=cur.size
theorem PMk.same(h:PMk w g n)(e:w'.heap[g]? =w.heap[g]?):PMk w' g n:=by
 obtain⟨j,k,m⟩:=h;exact⟨j,e.trans k,m⟩
theorem PMk.set(h:PMk w g n)(q:Us)(u:Value)(hq:g≠q.block):PMk (w.setCell q u) g n:=h.same (zH _ _ _ _ hq)
theorem PMk.of(h:w.ownsRow B 9 1 (Uf (Uc g) n n) n xs):PMk w g n:=by
 rcases h.2 with ⟨k,_⟩|⟨u,r,j,q,o,m,v,y,z,t⟩
 ·cases k
 ·cases q;exact⟨j,m,oM⟩
theorem Qon (a:Option Us)(c:Nat)(p:List ByteArray)(fl:Bool)(r q:Int)(v:ByteArray)(w:Ur)(hn:p.length<=1048576)(h:QaI w a p):
  Cl 76 #[Uo #[Uf a p.length c,Un fl,Ud r,Ud q,Um v]] w fun e w'=>∃g,w.heap.size<=g/\ (g<w'.heap.size/\ PMk w' g p.length)/\ e=Ui (Uo #[Uf (Uc g) p.length p.length,Un fl,Ud r,Ud q,Um v])/\ QaI w' (Uc g) p/\ Bl w w':=by
 go_enter func76,ntmps76;go_wp2_with fail;refine(QkN a c p _ hn (h.bw (((zO _ _).alloc oP _).alloc oS _))).mono ?_;rintro e w1 ⟨rfl,U,M,D,xs,b⟩;obtain⟨⟨o,u,y⟩,K,L⟩:=QpV M;have Y:Bl w w1:=(((zO _ _).alloc oP _).alloc oS _).trans (M.mono oS);have Q:w.heap.size+1+1+1<w1.heap.size:=by have:=D;simp at this;omega
 simp only [UD] at U b;have E:=hid U;have A:=hid (PMk.of b);have s:=hid Y;have F:w1.cell? (Ua w.heap.size 1)=Uq (Un fl):=by rw [o];simp
 have P:w1.cell? (Ua w.heap.size 2)=Uq (Ud r):=by rw [o];simp
 have R:w1.cell? (Ua w.heap.size 3)=Uq (Ud q):=by rw [o];simp
 have X:w1.cell? (Ua w.heap.size 4)=Uq (Um v):=by rw [o];simp
 have N:Bx5 w1 (w.heap.size+1) Ue (Un false) (Ud 0) (Ud 0) (Um ByteArray.empty):=⟨by rw [u,UJ _ _ _ _ oP];rfl,by rw [u,UJ _ _ _ _ oP];rfl,by rw [u,UJ _ _ _ _ oP];rfl,by rw [u,UJ _ _ _ _ oP];rfl,by rw [u,UJ _ _ _ _ oP];rfl,fun i=>by rw [K,UK _ _ _ _ oP],oM⟩;have j:Bx5 w1 (w.heap.size+1+1) Ue (Un false) (Ud 0) (Ud 0) (Um ByteArray.empty):=⟨by rw [y,UJ _ _ _ _ oP];rfl,by rw [y,UJ _ _ _ _ oP];rfl,by rw [y,UJ _ _ _ _ oP];rfl,by rw [y,UJ _ _ _ _ oP];rfl,by rw [y,UJ _ _ _ _ oP];rfl,fun i=>by rw [L,UK _ _ _ _ oP],oM⟩;clear U Y M D b o u y K L h;obtain⟨x0,C,Z⟩:=j.p2;have z:=hid N;have t:=hid j;clear N j;go_wp2_with fail;obtain⟨W,k⟩:=zE ((w1.setCell (Ua (w.heap.size+1+1) 0) (Uf (Uq (Ua (w.heap.size+1+1+1) 0)) p.length p.length)).setCell (Ua (w.heap.size+1+1) 1) (Un fl));have J:Bx5 W (w.heap.size+1+1) (Uf (Uq (Ua (w.heap.size+1+1+1) 0)) p.length p.length) (Un fl) (Ud 0) (Ud 0) (Um ByteArray.empty):=k▸(t.set0 _).set1 _;have H:Bx5 W (w.heap.size+1) Ue (Un false) (Ud 0) (Ud 0) (Um ByteArray.empty):=k▸(z.setAt _ _ oP).setAt _ _ oP;have I:QaI W (Uq (Ua (w.heap.size+1+1+1) 0)) p:=by rw [<- k];exact(E.set _ _ (fun x j=>by simp at j;subst j;simp)).set _ _ (fun x j=>by simp at j;subst j;simp)
 have G:PMk W (w.heap.size+1+1+1) p.length:=k▸(A.set _ _ oP).set _ _ oP;have O:Bl w W:=k▸(s.setCell oS _).setCell oS _;have B:W.cell? (Ua w.heap.size 4)=Uq (Um v):=by rw [<- k,UF _ _ _ _ oS,UF _ _ _ _ oS];exact X
 have V:w.heap.size+1+1+1<W.heap.size:=by rw [<- k];simp [UC];exact Q
 rw [k];clear k t z E A s F P R X x0 C Z Q;refine(QpW r q W).mono ?_;rintro e w2 ⟨rfl,m⟩;have m4:=(m.cell (p:=(Ua w.heap.size 4)) (show w.heap.size<W.heap.size by omega)).trans B;have t:=hid (J.bw m oM);have z:=hid (H.bw m oM);have E:=hid (I.bw m);have A:=hid (G.same (m.block _ V));have s:=hid (O.trans (m.mono O.size));have Q:w.heap.size+1+1+1<w2.heap.size:=Ut V m.size;have Z:=t.f;obtain⟨x0,C,x2,x3,x4⟩:=t.q5;have fo:=z.f;obtain⟨S,b,T,o3,o4⟩:=z.q5;clear J H I G O m B V;go_wp2_with fail;refine zF (v:=Uo #[Uf (Uq (Ua (w.heap.size+1+1+1) 0)) p.length p.length,Un fl,Ud r,Ud q,Um v]) (by simp [results,results76,go_sem,S,b,T,o3,o4]) ⟨w.heap.size+1+1+1,oM,⟨by simp [UC];omega,?_⟩,rfl,?_,?_⟩
 ·repeat (refine PMk.set ?_ _ _ (by simp;try omega))
  exact A
 ·repeat (refine QaI.set ?_ _ _ (fun x j=>by simp at j;subst j;simp;try omega))
  exact E
 ·repeat (refine Below.setCell ?_ (by simp;try omega) _)
  exact s
theorem QcZ:(prog.info? 117).map (fun i=>(i.zero,i.size,i.bytes))=Uq (Uq (Uo #[Ue,Un false,Ud 0,Ud 0,Um ByteArray.empty]),5,64):=oK
def Qow (w:Ur)(B:Nat)(xs:List Value)(x:Lf)(j:Nat):Prop:=
 ∃g,B<g/\ (g<w.heap.size/\ PMk w g x.p.length)/\ QaI w (Uc g) x.p/\ xs[j*5]? =Uq (Uf (Uc g) x.p.length x.p.length)/\ xs[j*5+1]? =Uq (Un x.fl)/\ xs[j*5+2]? =Uq (Ud x.r)/\ xs[j*5+3]? =Uq (Ud x.q)/\ xs[j*5+4]? =Uq (Um x.v)
def QkU (xs:List Value)(k:Nat)(v0 v1 v2 v3 v4:Value):List Value:=((((xs.set (k*5) v0).set (k*5+1) v1).set (k*5+2) v2).set (k*5+3) v3).set (k*5+4) v4
theorem Qe1(h:j≠k)(hi:i<5):(QkU xs k v0 v1 v2 v3 v4)[j*5+i]? =xs[j*5+i]? :=by
 unfold QkU;rw [UP oM,UP oM,UP oM,UP oM,UP oM]
theorem Qob(h:k*5+4<xs.length):(QkU xs k v0 v1 v2 v3 v4)[k*5]? =Uq v0/\ (QkU xs k v0 v1 v2 v3 v4)[k*5+1]? =Uq v1/\ (QkU xs k v0 v1 v2 v3 v4)[k*5+2]? =Uq v2/\ (QkU xs k v0 v1 v2 v3 v4)[k*5+3]? =Uq v3/\ (QkU xs k v0 v1 v2 v3 v4)[k*5+4]? =Uq v4:=by
 unfold QkU;refine⟨?_,?_,?_,?_,?_⟩
 ·rw [UP oM,UP oM,UP oM,UP oM,UQ oM]
 ·rw [UP oM,UP oM,UP oM,UQ oS]
 ·rw [UP oM,UP oM,UQ oS]
 ·rw [UP oM,UQ oS]
 ·rw [UQ oS]
theorem Qow.put{x:Lf}(h:Qow w B xs x j)(hj:j≠k)(hs:w.heap.size<=w'.heap.size)(hb:∀g,B<g ->g<w.heap.size ->w'.heap[g]? =w.heap[g]?):Qow w' B (QkU xs k v0 v1 v2 v3 v4) x j:=by
 obtain⟨g,q,m,r,u,v,y,z,t⟩:=h;refine⟨g,q,⟨oH m.1,m.2.same (hb g q m.1)⟩,r.same hs (fun x hx=>by simp at hx;subst hx;exact hb g q m.1),?_,?_,?_,?_,?_⟩
 ·exact(Qe1 (i:=0) hj oM).trans u
 ·exact(Qe1 (i:=1) hj oM).trans v
 ·exact(Qe1 (i:=2) hj oM).trans y
 ·exact(Qe1 (i:=3) hj oM).trans z
 ·exact(Qe1 (i:=4) hj oM).trans t
theorem Qe9(h:b<g):(((((w.setCell (Ua b (k*5)) v0).setCell (Ua b (k*5+1)) v1).setCell (Ua b (k*5+2)) v2).setCell (Ua b (k*5+3)) v3).setCell (Ua b (k*5+4)) v4).heap[g]? =w.heap[g]? :=by
 have q:∀(w:Ur) (o:Nat) (v:Value),(w.setCell (Ua b o) v).heap[g]? =w.heap[g]? :=fun w o v=>zH _ _ _ _ oS;rw [q,q,q,q,q]
theorem QeA:(((((w.setCell (Ua b (k*5)) v0).setCell (Ua b (k*5+1)) v1).setCell (Ua b (k*5+2)) v2).setCell (Ua b (k*5+3)) v3).setCell (Ua b (k*5+4)) v4).heap.size=w.heap.size:=by simp [UC]
def QdB (w:Ur)(a:Option Us)(l:List Lf):Prop:=
 l.length=0 \/∃b off,a=Uq (Ua b off)/\ b<w.heap.size/\∀i,i<l.length ->∃pa pc,(w.cell? (Ua b (off+i*5))=Uq (Uf pa (gL l i).p.length pc)/\ (gL l i).p.length<=pc/\ pc<=9223372036854775807)/\ QaI w pa (gL l i).p/\ w.cell? (Ua b (off+i*5+1))=Uq (Un (gL l i).fl)/\ w.cell? (Ua b (off+i*5+2))=Uq (Ud (gL l i).r)/\ w.cell? (Ua b (off+i*5+3))=Uq (Ud (gL l i).q)/\ w.cell? (Ua b (off+i*5+4))=Uq (Um (gL l i).v)
theorem QdB.bw{l:List Lf}(h:QdB w a l)(hb:Bl w w1):QdB w1 a l:=by
 refine h.imp id ?_;rintro⟨b,off,e,j,z⟩;refine⟨b,off,e,Ut j hb.size,fun i hi=> ?_⟩;obtain⟨g,t,⟨k,y⟩,s,m,r,u,v⟩:=z i hi;have q:=fun o=>hb.cell (p:=(Ua b o)) j;exact⟨g,t,⟨(q _).trans k,y⟩,s.bw hb,(q _).trans m,(q _).trans r,(q _).trans u,(q _).trans v⟩
theorem QdB.seg{l:List Lf}(h:QdB w a l):QbK w a l:=by
 refine h.imp id ?_;rintro⟨b,off,e,v,u⟩;refine⟨b,off,e,v,fun i hi=> ?_⟩;obtain⟨y,z,⟨j,_⟩,s,k,m,q,r⟩:=u i hi;exact⟨y,z,j,s,k,m,q,r⟩
def QeP (w:Ur)(B:Nat)(a:Option Us)(l:List Lf):Prop:=∀w',w.heap.size<=w'.heap.size ->(∀g,B<=g ->g<w.heap.size ->w'.heap[g]? =w.heap[g]?) ->QdB w' a l
theorem QeP.cap{l:List Lf}(h:QeP w B a l):QdB w a l:=h w zL (fun _ _ _=>rfl)
theorem QeP.seg{l:List Lf}(h:QeP w B a l):QbK w a l:=h.cap.seg
theorem QeP.move{l:List Lf}(h:QeP w B a l)(hBC:C<=B)(hs:w.heap.size<=w1.heap.size)(hb:∀g,B<=g ->g<w.heap.size ->w1.heap[g]? =w.heap[g]?):QeP w1 C a l:=
 fun w' hs' hb'=>h w' (Ux hs hs') (fun g h1 h2=>(hb' g (Ux hBC h1) (Ut h2 hs)).trans (hb g h1 h2))
theorem QeP.set{l:List Lf}(h:QeP w B a l)(q:Us)(u:Value)(hq:q.block<B):QeP (w.setCell q u) B a l:=
 h.move zL (by simp [UC]) (fun g h1 h2=>zH _ _ _ _ oM)
theorem QeP.bw{l:List Lf}(h:QeP w B a l)(hb:Bl w w1):QeP w1 B a l:=
 h.move zL hb.size (fun g h1 h2=>hb.block g h2)
def LMk (w:Ur)(lo hi b:Nat)(l:List Lf):Prop:=
 (lo<=b/\ b<hi)/\ (∃cur,w.heap[b]? =Uq (.cells cur 117 (0,0))/\ l.length*5<=cur.size)/\∀i,i<l.length ->∃g,w.cell? (Ua b (i*5))=Uq (Uf (Uc g) (gL l i).p.length (gL l i).p.length)/\ g≠b/\ lo<=g/\ g<hi/\ PMk w g (gL l i).p.length
theorem LMk.same{l:List Lf}(h:LMk w lo hi b l)(e:∀g,lo<=g ->g<hi ->w'.heap[g]? =w.heap[g]?):LMk w' lo hi b l:=by
 obtain⟨j,⟨q,y,z⟩,t⟩:=h;refine⟨j,⟨q,(e b j.1 j.2).trans y,z⟩,fun i hi'=> ?_⟩;obtain⟨g,r,u,k,m,v⟩:=t i hi';exact⟨g,(UB (a:=(Ua b (i*5))) (e b j.1 j.2)).trans r,u,k,m,v.same (e g k m)⟩
theorem LMk.set{l:List Lf}(h:LMk w lo hi b l)(q:Us)(u:Value)(hq:q.block<lo):LMk (w.setCell q u) lo hi b l:=h.same fun g h1 h2=>zH _ _ _ _ oM
theorem LMk.wide{l:List Lf}(h:LMk w lo hi b l)(h1:lo'<=lo)(h2:hi<=hi'):LMk w lo' hi' b l:=
 ⟨⟨Ux h1 h.1.1,Ut h.1.2 h2⟩,h.2.1,fun i hi''=>by
  obtain⟨g,j,k,m,q,r⟩:=h.2.2 i hi'';exact⟨g,j,k,Ux h1 m,Ut q h2,r⟩⟩
theorem QlV (a:Option Us)(c:Nat)(l:List Lf)(w:Ur)(hn:l.length<=1048576)(hp:LBd l)(h:QbK w a l):
  Cl 49 #[Uf a l.length c] w fun e w'=>e=Ui (Uf (Uc w.heap.size) l.length l.length)/\ QeP w' w.heap.size (Uc w.heap.size) l/\ Bl w w'/\ (w.heap.size<w'.heap.size/\ LMk w' w.heap.size w'.heap.size w.heap.size l):=by
 obtain⟨i0,hi,Hi,Hj,Hk⟩:=info_parts QcZ;have hm:l.length<=maxLen:=oL;have Hh:i0.bytes*l.length<=281474976710656:=by rw [Hk];omega
 go_enter func49,ntmps49;go_wp2_with (at_make;refine wpList_make_full _ rfl _ _ 35 rfl w.heap.size 117 i0 _ 5 underlying35 hi Hi Hj _ _ _ _ l.length rfl rfl rfl rfl Hh hm zL ?_;intro w1 m S);have y:Bl w w1:=zI.grown S zL (fun _ h=>by cases h);have Ha:∃xs,w1.ownsRow w.heap.size 117 5 (Uf (Uc w.heap.size) l.length l.length) l.length xs:=⟨_,m⟩;clear m S;go_loopw [4] (fun i wr=>∃k:Nat,k<=l.length/\ i=Ud k/\ Hid (Bl w wr)/\∃xs:List Value,Hid (wr.ownsRow w.heap.size 117 5 (Uf (Uc w.heap.size) l.length l.length) l.length xs)/\ Hid (∀j,j<k ->Qow wr w.heap.size xs (gL l j) j)) (fun i _=>l.length - (intOf i).toNat);case atStart=>obtain⟨xs,ho⟩:=Ha;exact⟨0,Uv _,rfl,hid y,xs,hid ho,hid (fun j hj=>oM)⟩
 case round=>
  clear Ha y;obtain⟨k,W,rfl,y,xs,m,M⟩:=hrel;have V:=(m.lt w.heap.size rfl).2;by_cases Hd:k<l.length
  ·rcases h with h|⟨b,off,rfl,z,P⟩
   ·omega
   obtain⟨pa,pc,J,s,K,L,N,X⟩:=P k Hd;have x0:=(y.cell (p:=(Ua b (off+k*5))) z).trans J;have x1:=(y.cell (p:=(Ua b (off+k*5+1))) z).trans K;have x2:=(y.cell (p:=(Ua b (off+k*5+2))) z).trans L;have x3:=(y.cell (p:=(Ua b (off+k*5+3))) z).trans N;have x4:=(y.cell (p:=(Ua b (off+k*5+4))) z).trans X;have G:=hid (Qon pa pc (gL l k).p (gL l k).fl (gL l k).r (gL l k).q (gL l k).v wr (hp k) (s.bw y));have i1:(0:Int)<=(k:Int):=UZ _;have i2:(k:Int)<(l.length:Int):=oM;clear P J s K L N X;go_wp2_with fail;refine G.mono ?_;rintro e w2 ⟨g,Hl,R,rfl,s2,A⟩;have u:=Qbp m A (fun k W=>by simp [Value.ownBlock] at W;omega);obtain⟨u0,Hm⟩:=QaA u (k*5) oM;obtain⟨u1,Hn⟩:=QaA u (k*5+1) oM;obtain⟨u2,Ho⟩:=QaA u (k*5+2) oM;obtain⟨u3,Hp⟩:=QaA u (k*5+3) oM;obtain⟨u4,Hq⟩:=QaA u (k*5+4) oM;have f0:=u.frozenAt (k*5);have f1:=u.frozenAt (k*5+1);have f2:=u.frozenAt (k*5+2);have f3:=u.frozenAt (k*5+3);have f4:=u.frozenAt (k*5+4);have Hb:=u.1;have O:=hid (((((u.stored (k*5) (Uf (Uc g) (gL l k).p.length (gL l k).p.length)).1.stored (k*5+1) (Un (gL l k).fl)).1.stored (k*5+2) (Ud (gL l k).r)).1.stored (k*5+3) (Ud (gL l k).q)).1.stored (k*5+4) (Um (gL l k).v)).1;have I:=y.trans (A.mono oM);have Z:=hid (((((I.setCell (p:=(Ua w.heap.size (k*5))) zL (Uf (Uc g) (gL l k).p.length (gL l k).p.length)).setCell (p:=(Ua w.heap.size (k*5+1))) zL (Un (gL l k).fl)).setCell (p:=(Ua w.heap.size (k*5+2))) zL (Ud (gL l k).r)).setCell (p:=(Ua w.heap.size (k*5+3))) zL (Ud (gL l k).q)).setCell (p:=(Ua w.heap.size (k*5+4))) zL (Um (gL l k).v));have H:Hid (∀j,j<k+1 ->Qow (((((w2.setCell (Ua w.heap.size (k*5)) (Uf (Uc g) (gL l k).p.length (gL l k).p.length)).setCell (Ua w.heap.size (k*5+1)) (Un (gL l k).fl)).setCell (Ua w.heap.size (k*5+2)) (Ud (gL l k).r)).setCell (Ua w.heap.size (k*5+3)) (Ud (gL l k).q)).setCell (Ua w.heap.size (k*5+4)) (Um (gL l k).v)) w.heap.size (QkU xs k (Uf (Uc g) (gL l k).p.length (gL l k).p.length) (Un (gL l k).fl) (Ud (gL l k).r) (Ud (gL l k).q) (Um (gL l k).v)) (gL l j) j):=hid (fun j hj=>by
    by_cases T:j=k
    ·subst T;obtain⟨q0,q1,q2,q3,q4⟩:=Qob (xs:=xs) (k:=j) (v0:=Uf (Uc g) (gL l j).p.length (gL l j).p.length) (v1:=Un (gL l j).fl) (v2:=Ud (gL l j).r) (v3:=Ud (gL l j).q) (v4:=Um (gL l j).v) oM;exact⟨g,oM,⟨by rw [QeA];exact R.1,R.2.same (Qe9 (show w.heap.size<g by omega))⟩,s2.same (by rw [QeA];omega) (fun x hx=>by simp at hx;subst hx;exact Qe9 (show w.heap.size<g by omega)),q0,q1,q2,q3,q4⟩
    ·exact(M j oM).put T (by rw [QeA];exact A.size) (fun g E t=>(Qe9 E).trans (A.block g t)))
   clear m M u Hb I A y s2 G x0 x1 x2 x3 x4;obtain⟨vx,Y⟩:=zE (gL l k);rw [Y] at O Z H;rw [Y];clear Y;go_wp2_with fail;go_roundw;case rel=>exact⟨k+1,Hd,oN,Z,_,O,H⟩
   case measure=>exact oE
  ·obtain rfl:k=l.length:=oM;have He:QeP wr w.heap.size (Uc w.heap.size) l:=fun w' hs z=> .inr ⟨w.heap.size,0,rfl,oM,fun i hi=>by
    obtain⟨g,E,t,U,Q,B,C,D,F⟩:=M i hi;have m:=m.out;have q:∀o,w'.cell? (Ua w.heap.size o)=wr.cell? (Ua w.heap.size o):=fun o=>UB (w:=wr) (w':=w') (a:=(Ua w.heap.size o)) (z _ zL V);exact⟨_,_,⟨by rw [Uw,q,m.cellAt _ oM];exact Q,Uu _,oH (hp i)⟩,U.same hs (fun x hx=>by simp at hx;subst hx;exact z g (Nat.le_of_lt E) t.1),by rw [Uw,q,m.cellAt _ oM];exact B,by rw [Uw,q,m.cellAt _ oM];exact C,by rw [Uw,q,m.cellAt _ oM];exact D,by rw [Uw,q,m.cellAt _ oM];exact F⟩⟩
   have O:=hid He;have HM:Hid (LMk wr w.heap.size wr.heap.size w.heap.size l):=hid (by
    have m:=m.out;refine⟨⟨Uu _,V⟩,?_,fun i hi=> ?_⟩
    ·rcases m.2 with ⟨h0,_⟩|⟨g',Hf,Hg,hv,Hc,z,E,t,U,Q⟩
     ·cases h0
     ·cases hv;exact⟨Hg,z,oM⟩
    ·obtain⟨g,E,t,U,Q,B,C,D,F⟩:=M i hi;exact⟨g,by rw [m.cellAt _ oM];exact Q,oM,oM,t.1,t.2⟩)
   clear m M He h;go_wp2_with fail;go_ret;exact⟨rfl,O,y,V,HM⟩
theorem QlW (a:Option Us)(c:Nat)(l:List Lf)(x:Option Us)(n d:Nat)(R F T:Nat ->Int)(w:Ur)(hn:l.length<=1048576)(hp:LBd l)(hm:n<=1048576)(h:QbK w a l)(h':QaD w x n R F T):
  Cl 28 #[Uo #[Uf a l.length c,Uf x n d]] w fun e w'=>∃g k,w.heap.size<=g/\ (g<w'.heap.size/\ LMk w' w.heap.size w'.heap.size g l)/\ w.heap.size<=k/\ (k<w'.heap.size/\∃b,w'.ownsRow w.heap.size 123 3 (Uf (Uc k) n n) n b)/\ e=Ui (Uo #[Uf (Uc g) l.length l.length,Uf (Uc k) n n])/\ QeP w' w.heap.size (Uc g) l/\ QaD w' (Uc k) n R F T/\ Bl w w':=by
 have Hc:=hid h';clear h';go_enter func28,ntmps28;go_wp2_with fail;refine(QlV a c l _ hn hp (h.bw (((zO _ _).alloc oP _).alloc oS _))).mono ?_;rintro e w1 ⟨rfl,Z,A,z1,s⟩;obtain⟨⟨D,Q,U⟩,P,S⟩:=QpV A;have H:Bl w w1:=(((zO _ _).alloc oP _).alloc oS _).trans (A.mono oS);have V:w.heap.size+1+1+1<w1.heap.size:=by have:=z1;simp at this;omega
 simp only [UD] at Z s;have z:=hid Z;have y:=hid s;have u:=hid H;have k1:w1.cell? (Ua w.heap.size 1)=Uq (Uf x n d):=by rw [D];simp
 have t:w1.cell? (Ua (w.heap.size+1) 0)=Uq Ue:=by rw [Q,UJ _ _ _ _ oP];rfl
 have o:w1.cell? (Ua (w.heap.size+1) 1)=Uq Ue:=by rw [Q,UJ _ _ _ _ oP];rfl
 have E:∀i,w1.frozen? (Ua (w.heap.size+1) i)=false:=fun i=>by rw [P,UK _ _ _ _ oP]
 have x0:w1.cell? (Ua (w.heap.size+1+1) 0)=Uq Ue:=by rw [U,UJ _ _ _ _ oP];rfl
 have G:w1.cell? (Ua (w.heap.size+1+1) 1)=Uq Ue:=by rw [U,UJ _ _ _ _ oP];rfl
 have M:∀i,w1.frozen? (Ua (w.heap.size+1+1) i)=false:=fun i=>by rw [S,UK _ _ _ _ oP]
 clear Z s H A z1 D Q U P S h;go_wp2_with fail;obtain⟨W,m⟩:=zE (w1.setCell (Ua (w.heap.size+1+1) 0) (Uf (Uq (Ua (w.heap.size+1+1+1) 0)) l.length l.length));have N:W.cell? (Ua (w.heap.size+1+1) 0)=Uq (Uf (Uq (Ua (w.heap.size+1+1+1) 0)) l.length l.length):=m▸UH _ _ _ x0;have X:W.cell? (Ua (w.heap.size+1+1) 1)=Uq Ue:=by rw [<- m];simp [UI,G]
 have J:∀i,W.frozen? (Ua (w.heap.size+1+1) i)=false:=fun i=>by rw [<- m,UG];exact M i
 have I:∀i,W.frozen? (Ua (w.heap.size+1) i)=false:=fun i=>by rw [<- m,UG];exact E i
 have K:W.cell? (Ua (w.heap.size+1) 0)=Uq Ue:=by rw [<- m,UF _ _ _ _ oP];exact t
 have L:W.cell? (Ua (w.heap.size+1) 1)=Uq Ue:=by rw [<- m,UF _ _ _ _ oP];exact o
 have C:QeP W (w.heap.size+1+1+1) (Uq (Ua (w.heap.size+1+1+1) 0)) l:=m▸z.set _ _ oP;have O:LMk W (w.heap.size+1+1+1) W.heap.size (w.heap.size+1+1+1) l:=m▸(y.set _ _ oP).wide zL (by simp [UC]);have q:Bl w W:=m▸u.setCell oS _;have zW:w.heap.size+1+1+1<W.heap.size:=by rw [<- m];simp [UC];exact V
 rw [m];clear m z y u k1 t o x0 G M E V;refine(QiV x n d R F T W hm (Hc.bw q)).mono ?_;rintro e w2 ⟨k,Hg,Hh,rfl,s2,j,b,o2⟩;have Hb:Hid (w2.ownsRow w.heap.size 123 3 (Uf (Uc k) n n) n b):=hid (by
  obtain⟨q1,Y⟩:=o2;refine⟨q1,?_⟩;rcases Y with Y|⟨g,cap,He,e,Hf,r⟩
  ·exact .inl Y
  ·exact .inr ⟨g,cap,He,e,Ux q.size Hf,r⟩)
 have Ha:=hid ((O.same (fun g _ h2=>j.block g h2)).wide (show w.heap.size<=w.heap.size+1+1+1 by omega) (Uu W.heap.size));have y:=hid (O.same (fun g _ h2=>j.block g h2));have Hd:=hid j.size;have z:=hid (C.bw j);have u:=hid (q.trans (j.mono q.size));have HK:=hid s2;have V:w.heap.size+1+1+1<w2.heap.size:=Ut zW j.size;have x0:=(j.cell (p:=(Ua (w.heap.size+1+1) 0)) (show w.heap.size+1+1<W.heap.size by omega)).trans N;have G:=(j.cell (p:=(Ua (w.heap.size+1+1) 1)) (show w.heap.size+1+1<W.heap.size by omega)).trans X;have t:=(j.cell (p:=(Ua (w.heap.size+1) 0)) (show w.heap.size+1<W.heap.size by omega)).trans K;have o:=(j.cell (p:=(Ua (w.heap.size+1) 1)) (show w.heap.size+1<W.heap.size by omega)).trans L;have M:∀i,w2.frozen? (Ua (w.heap.size+1+1) i)=false:=fun i=>(j.frozen (p:=(Ua (w.heap.size+1+1) i)) (show w.heap.size+1+1<W.heap.size by omega)).trans (J i);have E:∀i,w2.frozen? (Ua (w.heap.size+1) i)=false:=fun i=>(j.frozen (p:=(Ua (w.heap.size+1) i)) (show w.heap.size+1<W.heap.size by omega)).trans (I i);have Hi:w.heap.size+1+1<k:=oM;clear C q O j N X K L J I s2 o2 zW Hg Ha;go_wp2_with fail;refine zF (v:=Uo #[Uf (Uq (Ua (w.heap.size+1+1+1) 0)) l.length l.length,Uf (Uc k) n n]) (by simp [results,results28,go_sem,t,o]) ⟨w.heap.size+1+1+1,k,oM,⟨by simp [UC];omega,?_⟩,oM,⟨by simp [UC];omega,b,?_⟩,rfl,?_,?_,?_⟩
 ·refine LMk.wide (lo:=w.heap.size+1+1+1) (hi:=W.heap.size) ?_ oM (by simp [UC];exact Hd);repeat (refine LMk.set ?_ _ _ (by simp;try omega))
  exact y
 ·repeat (refine Qb4 ?_ _ _ (by simp;try omega))
  exact Hb
 ·refine QeP.move (B:=w.heap.size+1+1+1) ?_ oM zL (fun _ _ _=>rfl);repeat (refine QeP.set ?_ _ _ (by simp;try omega))
  exact z
 ·repeat (refine QaD.set ?_ _ _ (fun x hx=>by simp at hx;subst hx;simp;try omega))
  exact HK
 ·repeat (refine Below.setCell ?_ (by simp;try omega) _)
  exact u
theorem Qiy (a:Option Us)(c:Nat)(l:List Lf)(x:Option Us)(n d:Nat)(k:Int)(w:Ur)(hk0:0<=k)(hk1:k<=1048576)(hn:l.length<=9223372036854775807)(hm:n<=9223372036854775807)(hb:∀i,Qgh (gL l i))(h:QbK w a l):
  Cl 18 #[Uo #[Uf a l.length c,Uf x n d],Ud k] w fun e w'=>(∃j,e=Ui (Ud j)/\ -1<=j/\ j<=k/\ (0<=j ->(l.length<=1048576/\∀i,Qoq (gL l i))/\ n<=1048576))/\ Bl w w':=by
 obtain⟨W,m⟩:=zE (w.alloc (Uj #[Uf a l.length c,Uf x n d] 27));have v:Bl w W:=m▸zO _ _;have O:w.heap.size<W.heap.size:=m▸oP;have k0:W.cell? (Ub w.heap.size)=Uq (Uf a l.length c):=m▸oP;have M:W.cell? (Ua w.heap.size 1)=Uq (Uf x n d):=m▸oP;have g:=hid (QlQ a c l k W hk0 hk1 hn hb (h.bw v));have r:=hid v;clear h v hb;go_enter func18,ntmps18;go_wp2_with fail;try rw [m]
 clear m;refine g.mono ?_;rintro e w1 ⟨⟨j,rfl,H,I,E⟩,y⟩;have Z:=(y.cell (p:=(Ua w.heap.size 1)) O).trans M;have U:=hid E;have u:=hid (r.trans (y.mono r.size));clear E g r k0 M y O;by_cases A:j<0
 ·have V:decide (j<0)=true:=oU A;go_wp2_with fail;go_ret;exact⟨⟨-1,rfl,oM,oM,fun h=>oM⟩,u⟩
 ·have V:decide (j<0)=false:=oU A;go_wp2_with fail;refine(QkK x n d j w1 hm oM oM).mono ?_;rintro e w2 ⟨rfl,t⟩;have z:=hid (u.trans (t.mono u.size));clear t Z;by_cases Y:j<(n:Int)
  ·rw [show Qdn j n= -1 from if_pos oM];go_wp2_with fail;go_ret;exact⟨⟨-1,rfl,oM,oM,fun h=>oM⟩,z⟩
  ·obtain⟨q,s⟩:=zE (j - (n:Int));have b:Qdn j n=q:=(by rw [show Qdn j n=j - n from if_neg oM];exact s);rw [b];have G:decide (q<0)=false:=oS;have Q:Hid (n<=1048576):=hid oM;have o: -1<=q/\ q<=k:=oM;clear b s Y;go_wp2_with fail;go_ret;exact⟨⟨q,rfl,o.1,o.2,fun _=>⟨U oM,Q⟩⟩,z⟩
open Go.Deep
theorem Qq7 {α:Type}{l:List α}(h:l.length=3):∃x y z,l=[x,y,z]:=by
 match l,h with
 | [x,y,z],_=>exact⟨x,y,z,rfl⟩
instance:Inhabited Lf:=⟨⟨[],false,0,0,ByteArray.empty⟩⟩
instance:Inhabited ByteArray:=⟨ByteArray.empty⟩
theorem QeR{a:Us}(h:W.cell? a=Uq v):∃b off,a=(Ua b off)/\ b<W.heap.size:=by
 obtain⟨b,off,k⟩:=a;have j:k=Up:=by simpa [Addr.add] using UL h
 subst j;exact⟨b,off,rfl,block_lt_of_cell h⟩
theorem Qjh (a:Us):a.add 0=a:=rfl
theorem QlC {H:Type}{enc:TypeId×Value ->H}{spare:Nat ->Bool}{x:DataW H×List MemPlace}
  (h:DataW.trod enc prog W base spare held fuel 90 cs=Uq x):∃a p c,cs=[Uf a p.length c]/\ QaI W a p/\ Qqf p:=by
 rcases open_slice1 underlying90 oK h with ⟨r,_⟩|⟨a,j,cap,m,k,V,D,U,r,Y,Z,E,M,_,Q⟩
 ·exact⟨Up,[],0,r,.inl rfl,oP,fun i=>by rw [Qfc oP];simp⟩
 ·have G:j<=m:=by rw [M];split<;>omega
  have z:∀i,i<m ->∃s:ByteArray,W.cell? (a.add i)=Uq (Um s)/\ s.size<=maxLen:=by
   intro i hi;obtain⟨t,o⟩:=Q i hi;obtain⟨s,e,_,O⟩:=DataW.trod_string underlying9 o;simp at e;exact⟨s,by rw [t,e],O⟩
  obtain⟨q,u⟩:=choose_lt z;have v:∀i,i<j ->gS ((UT j).map q) i=q i:=fun i hi=>by simp [gS,UR,hi]
  refine⟨Uq a,(UT j).map q,cap,oU r,?_,⟨by simp;unfold maxLen at E;omega,fun i=> ?_⟩⟩
  ·by_cases g:j=0
   ·exact .inl (by simp [g])
   ·have y:=(u 0 oM).1;obtain⟨b,off,rfl,A⟩:=QeR (a:=a) y;refine .inr ⟨b,off,rfl,A,fun i hi=> ?_⟩;have hi':i<j:=oU hi;rw [v i hi',<- Qbq];exact(u i oM).1
  ·by_cases hi:i<j
   ·rw [v i hi];have:=(u i oM).2;unfold maxLen at this;omega
   ·rw [Qfc oS];simp
theorem Qq8 {α:Type}{l:List α}(h:l.length=5):∃a b c d e,l=[a,b,c,d,e]:=by
 match l,h with
 | [a,b,c,d,e],_=>exact⟨a,b,c,d,e,rfl⟩
theorem QlB {H:Type}{enc:TypeId×Value ->H}{spare:Nat ->Bool}{y:DataW H×List MemPlace}(hl:cs.length=5)
  (h:DataW.trod enc prog W base spare held fuel 113 cs=Uq y):∃(x:Lf) (a:Option Us) (c:Nat),cs=[Uf a x.p.length c,Un x.fl,Ud x.r,Ud x.q,Um x.v]/\ QaI W a x.p/\ Qgh x/\ LfI x:=by
 obtain⟨v0,v1,v2,v3,v4,rfl⟩:=Qq8 hl;obtain⟨L,N,X,B,n,_,_,z,g,t,o⟩:=Go.Joins.trod_struct4 underlying113 h;have O:prog.cellsOf 90=1:=oK;have Q:prog.cellsOf 4=1:=oK;have U:prog.cellsOf 111=2:=oK;have V:prog.cellsOf 9=1:=oK;have Y:prog.cellsOf 3=1:=oK;simp [O,Q,U,V] at z g t o;obtain⟨a,p,c,b,G,Z⟩:=QlC z;obtain⟨u,i,_⟩:=DataW.trod_bool underlying4 g;obtain⟨z0,C,k,_,_,j,m⟩:=trod_struct2 underlying111 t;simp [Y] at j m;obtain⟨r,E,_,J⟩:=DataW.trod_int underlying3 j;obtain⟨q,A,_,K⟩:=DataW.trod_int underlying3 m;obtain⟨s,M,_,I⟩:=DataW.trod_string underlying9 o;simp at b i E A M;subst b i E A M;exact⟨⟨p,u,r,q,s⟩,a,c,rfl,G,⟨Z,by unfold maxLen at I;show s.size<=_;omega⟩,J,K⟩
theorem QiM {H:Type}{enc:TypeId×Value ->H}{spare:Nat ->Bool}{y:DataW H×List MemPlace}
  (h:DataW.trod enc prog W base spare held fuel 22 cs=Uq y):∃a l c,cs=[Uf a l.length c]/\ l.length<=9223372036854775807/\ QbK W a l/\ (∀i,Qgh (gL l i))/\∀i,LfI (gL l i):=by
 have O:∀(l:List Lf) (i:Nat),l.length<=i ->gL l i=⟨[],false,0,0,ByteArray.empty⟩:=fun l i hi=>by simp [gL,UR,US hi]
 have Y:Qgh ⟨[],false,0,0,ByteArray.empty⟩:=⟨⟨oP,fun i=>by rw [Qfc oP];simp⟩,oP⟩;have G:LfI ⟨[],false,0,0,ByteArray.empty⟩:=⟨oD,oD⟩;rcases open_slice underlying22 h with ⟨U,_⟩|⟨a,j,cap,m,k,D,T,U,hb,hl,F,P,_,S⟩
 ·exact⟨Up,[],0,U,oP,.inl rfl,fun i=>by rw [O _ _ oP];exact Y,fun i=>by rw [O _ _ oP];exact G⟩
 ·have Hb:j<=m:=by rw [P];split<;>omega
  have I:prog.cellsOf 113=5:=oK;have J:∀i,i<m ->∃x:Lf,(∃z g,W.cell? (a.add (i*5))=Uq (Uf z x.p.length g)/\ QaI W z x.p/\ W.cell? (a.add (i*5+1))=Uq (Un x.fl)/\ W.cell? (a.add (i*5+2))=Uq (Ud x.r)/\ W.cell? (a.add (i*5+3))=Uq (Ud x.q)/\ W.cell? (a.add (i*5+4))=Uq (Um x.v))/\ Qgh x/\ LfI x:=by
   intro i hi;obtain⟨Ha,Z,L⟩:=S i hi;rw [I] at Z;obtain⟨_,B,M⟩:=UM Z;obtain⟨x,z,g,rfl,R,N,X⟩:=QlB B L;have u:=M 0 oM;have t:=M 1 oM;have o:=M 2 oM;have A:=M 3 oM;have E:=M 4 oM;rw [add_add] at u t o A E;exact⟨x,⟨z,g,oU u,R,oU t,by simpa using o,oU A,by simpa using E⟩,N,X⟩
  obtain⟨q,Q⟩:=choose_lt J;have V:∀i,i<j ->gL ((UT j).map q) i=q i:=fun i hi=>by simp [gL,UR,hi]
  refine⟨Uq a,(UT j).map q,cap,oU U,by simp;unfold maxLen at F;omega,?_,fun i=> ?_,fun i=> ?_⟩
  ·by_cases K:j=0
   ·exact .inl (by simp [K])
   ·obtain⟨z,g,u,_⟩:=(Q 0 oM).1;obtain⟨b,off,rfl,C⟩:=QeR (a:=a) (by simpa [Qjh] using u);refine .inr ⟨b,off,rfl,C,fun i hi=> ?_⟩;have hi':i<j:=oU hi;obtain⟨z,g,u,s,t,o,A,E⟩:=(Q i oM).1;rw [Qbq] at u t o A E;rw [V i hi'];exact⟨z,g,u,s,by simpa [Uy] using t,by simpa [Uy] using o,by simpa [Uy] using A,by simpa [Uy] using E⟩
  ·by_cases hi:i<j
   ·rw [V i hi];exact(Q i oM).2.1
   ·rw [O _ _ oS];exact Y
  ·by_cases hi:i<j
   ·rw [V i hi];exact(Q i oM).2.2
   ·rw [O _ _ oS];exact G
theorem Qkr {H:Type}{enc:TypeId×Value ->H}{spare:Nat ->Bool}{U:DataW H×List MemPlace}
  (h:DataW.trod enc prog W base spare held fuel 23 [v0]=Uq U):∃a n c R F T,v0=Uf a n c/\ n<=9223372036854775807/\ QaD W a n R F T/\ I64 R/\ I64 F/\ I64 T:=by
 have V:prog.cellsOf 168=3:=oK;have Z:prog.cellsOf 3=1:=oK;rcases open_slice underlying23 h with ⟨y,_⟩|⟨a,t,cap,m,k,D,Pl,y,hb,hl,K,L,_,X⟩
 ·simp at y;subst y;exact⟨Up,0,0,fun _=>0,fun _=>0,fun _=>0,rfl,oM,.inl rfl,fun _=>oP,fun _=>oP,fun _=>oP⟩
 ·simp at y;subst y;have Hb:t<=m:=by rw [L];split<;>omega
  have Y:∀i,i<m ->∃q:Int×Int×Int,W.cell? (a.add (i*3))=Uq (Ud q.1)/\ W.cell? (a.add (i*3+1))=Uq (Ud q.2.1)/\ W.cell? (a.add (i*3+2))=Uq (Ud q.2.2)/\
    (-9223372036854775808<=q.1/\ q.1<=9223372036854775807)/\ (-9223372036854775808<=q.2.1/\ q.2.1<=9223372036854775807)/\ (-9223372036854775808<=q.2.2/\ q.2.2<=9223372036854775807):=by
   intro i hi;obtain⟨Ha,A,G⟩:=X i hi;rw [V] at A;obtain⟨_,J,g⟩:=UM A;obtain⟨x0,x1,x2,rfl⟩:=Qq7 J;obtain⟨U,y1,y2,k',_,_,o,p,s⟩:=trod_struct3 underlying168 G;simp [Z] at o p s;obtain⟨z0,M,_,C⟩:=DataW.trod_int underlying3 o;obtain⟨z1,O,_,P⟩:=DataW.trod_int underlying3 p;obtain⟨z2,Q,_,S⟩:=DataW.trod_int underlying3 s;simp at M O Q;subst M O Q;have r:=g 0 oM;have u:=g 1 oM;have v:=g 2 oM;rw [add_add] at r u v;exact⟨(z0,z1,z2),oU r,by simpa using u,oU v,bounds_i64 C,bounds_i64 P,bounds_i64 S⟩
  obtain⟨q,z⟩:=choose_lt Y;refine⟨Uq a,t,cap,fun i=>if i<m then(q i).1 else 0,fun i=>if i<m then(q i).2.1 else 0,fun i=>if i<m then(q i).2.2 else 0,rfl,by unfold maxLen at K;omega,?_,?_,?_,?_⟩
  ·by_cases h:t=0
   ·exact .inl h
   ·have r:=(z 0 oM).1;obtain⟨b,off,B⟩:=a;have N:B=Up:=(by simpa [Addr.add] using UL r);subst N;have I:∀j,((Ua b off):Us).add j=(Ua b (off+j)):=by
     intro j;by_cases E:j=0
     ·subst E;rfl
     ·simp [Addr.add,E]
    refine .inr ⟨b,off,rfl,block_lt_of_cell r,fun i hi=> ?_⟩;have hi':i<m:=oM;obtain⟨r,u,v,_⟩:=z i hi';rw [I] at r u v;simp only [hi',if_true];exact⟨r,by simpa [Uy] using u,by simpa [Uy] using v⟩
  ·intro i;by_cases hi:i<m
   ·simp only [hi,if_true];exact(z i hi).2.2.2.1
   ·simp only [hi,if_false];omega
  ·intro i;by_cases hi:i<m
   ·simp only [hi,if_true];exact(z i hi).2.2.2.2.1
   ·simp only [hi,if_false];omega
  ·intro i;by_cases hi:i<m
   ·simp only [hi,if_true];exact(z i hi).2.2.2.2.2
   ·simp only [hi,if_false];omega
theorem Qjk {α:Type}{cs:Array α}(h:cs.size=2):∃c0 c1,cs=#[c0,c1]:=by
 obtain⟨l⟩:=cs;match l,h with
 | [c0,c1],_=>exact⟨c0,c1,rfl⟩
def ltS (s t:ByteArray):Bool:=Op.bytesLess s.toList t.toList
def eqS (s t:ByteArray):Bool:=s.toList==t.toList
def QbM (s t:ByteArray):Int:=if ltS s t=true then -1 else if eqS s t=true then 0 else 1
def QaN:List ByteArray ->List ByteArray ->Int
 | [],[]=>0
 | [],_::_=> -1
 | _::_,[]=>1
 | s::p,t::q=>if QbM s t=0 then QaN p q else QbM s t
theorem QaI.tail{o:Nat}(hb:b<w.heap.size)(h:∀i,i<(s::p).length ->w.cell? (Ua b (o+i))=Uq (Um (gS (s::p) i))):QaI w (Uq (Ua b (o+1))) p:=
 .inr ⟨b,o+1,rfl,hb,fun i hi=>by
  have e:=h (i+1) oS;rw [show o+(i+1)=o+1+i by omega] at e;exact e⟩
theorem QaI.drews(h:QaI w a p):QaI (w.drewN k) a p:=h
theorem QbG(h:x=y):Ending.returned (Ud x)=Ui (Ud y):=by rw [h]
theorem QgP:∀(p q:List ByteArray) (a b:Option Us) (c d:Nat) (w:Ur),p.length<=c ->q.length<=d ->c<=9223372036854775807 ->d<=9223372036854775807 ->QaI w a p ->QaI w b q ->
  Cl 102 #[Uf a p.length c,Uf b q.length d] w fun e w'=>e=Ui (Ud (QaN p q))/\∃k,w'=w.drewN k
 | [],[],a,b,c,d,w,_,_,_,_,_,_=>by
  go_enter func102,ntmps102;go_wp2_with fail;go_ret;exact⟨rfl,0,rfl⟩
 | [],t::q,a,b,c,d,w,_,_,_,_,_,_=>by
  have N:(((t::q).length:Int)==0)=false:=oS;go_enter func102,ntmps102;go_wp2_with fail;go_ret;exact⟨rfl,0,rfl⟩
 | s::p,[],a,b,c,d,w,_,_,_,_,_,_=>by
  have N:(((s::p).length:Int)==0)=false:=oS;go_enter func102,ntmps102;go_wp2_with fail;go_ret;exact⟨rfl,0,rfl⟩
 | s::p,t::q,a,b,c,d,w,hc,hd,hc',hd',h,g=>by
  obtain⟨n,G⟩:=zE ((s::p).length);obtain⟨m,Z⟩:=zE ((t::q).length);rcases h with h|⟨o,E,rfl,D,h⟩
  ·simp at h
  rcases g with g|⟨i,M,rfl,F,g⟩
  ·simp at g
  have x0:w.cell? (Ua o E)=Uq (Um s):=by simpa [gS] using h 0 oP
  have S:w.cell? (Ua i M)=Uq (Um t):=by simpa [gS] using g 0 oP
  have C:n=p.length+1:=G▸oP;have X:m=q.length+1:=Z▸oP;have U:=hid (QaI.tail D h);have V:=hid (QaI.tail F g);have N:((n:Int)==0)=false:=oS;have d1:((m:Int)==0)=false:=oS;have I:=hid C;have H:=hid X;have Hf:(0:Int)<(n:Int):=oM;have Hd:(0:Int)<(m:Int):=oM;have Hb:n<=c:=G▸hc;have Hc:m<=d:=Z▸hd;rw [G,Z];clear C X G Z hc hd h g;by_cases Q:Op.bytesLess s.toList t.toList=true
  ·have v:Hid (QaN (s::p) (t::q)= -1):=hid (by simp [QaN,QbM,ltS,Q]);clear U V;go_enter func102,ntmps102;go_wp2_with fail;go_quiet (fail);go_wp2_with fail;go_ret;exact⟨QbG v.symm,_,rfl⟩
  ·have Q:Op.bytesLess s.toList t.toList=false:=oU Q;by_cases Y:(s.toList==t.toList)=true
   ·have v:Hid (QaN (s::p) (t::q)=QaN p q):=hid (by simp only [QaN,QbM,ltS,eqS,Q,Y];simp);have y:Hid (∀A B W,QaI W A p ->QaI W B q ->Cl 102 #[Uf A (n - 1) (c - 1),Uf B (m - 1) (d - 1)] W fun e w'=>e=Ui (Ud (QaN p q))/\∃m,w'=W.drewN m):=hid (fun A B W hA hB=>by
     have e1:=I.out;have e2:=H.out;rw [show n - 1=p.length by omega,show m - 1=q.length by omega];exact QgP p q A B (c - 1) (d - 1) _ oM oM oM oM hA hB)
    have Hg:(1:Int)<=(n:Int):=oM;have He:(1:Int)<=(m:Int):=oM;go_enter func102,ntmps102;go_wp2_with fail;go_quiet (fail);obtain⟨J,O⟩:=zE (w.drewN nq);rw [O];have R:J.cell? (Ua o E)=Uq (Um s):=O▸x0;have T:J.cell? (Ua i M)=Uq (Um t):=O▸S;have L:=hid O;clear O;go_wp2_with fail;go_quiet (fail);obtain⟨u,K⟩:=zE (J.drewN nq);rw [K];have z:Hid (∃k,u=w.drewN k):=hid ⟨_,by rw [<- K,<- L.out,UN]⟩;clear K L R T;go_wp2_with fail;by_cases Ha:1<c
    ·skip;by_cases P:1<d
     ·skip;have j:Hid (QaI u (Uq (Ua o (E+1))) p):=hid (by obtain⟨k,e⟩:=z.out;rw [e];exact U);have r:Hid (QaI u (Uq (Ua i (M+1))) q):=hid (by obtain⟨k,e⟩:=z.out;rw [e];exact V);go_quiet ((go_at_call 102;exact Calls.quiet_of (y _ _ _ j.drews r.drews)));clear j r y;go_wp2_with fail;go_ret;obtain⟨k,e⟩:=z.out;exact⟨QbG v.symm,_,by rw [e,UN]⟩
     ·skip;have j:Hid (QaI u (Uq (Ua o (E+1))) p):=hid (by obtain⟨k,e⟩:=z.out;rw [e];exact U);have r:=hid (show QaI u (Uq (Ua i M)) q from .inl (oH H));go_quiet ((go_at_call 102;exact Calls.quiet_of (y _ _ _ j.drews r.drews)));clear j r y;go_wp2_with fail;go_ret;obtain⟨k,e⟩:=z.out;exact⟨QbG v.symm,_,by rw [e,UN]⟩
    ·skip;by_cases P:1<d
     ·skip;have j:=hid (show QaI u (Uq (Ua o E)) p from .inl (oH I));have r:Hid (QaI u (Uq (Ua i (M+1))) q):=hid (by obtain⟨k,e⟩:=z.out;rw [e];exact V);go_quiet ((go_at_call 102;exact Calls.quiet_of (y _ _ _ j.drews r.drews)));clear j r y;go_wp2_with fail;go_ret;obtain⟨k,e⟩:=z.out;exact⟨QbG v.symm,_,by rw [e,UN]⟩
     ·skip;have j:=hid (show QaI u (Uq (Ua o E)) p from .inl (oH I));have r:=hid (show QaI u (Uq (Ua i M)) q from .inl (oH H));go_quiet ((go_at_call 102;exact Calls.quiet_of (y _ _ _ j.drews r.drews)));clear j r y;go_wp2_with fail;go_ret;obtain⟨k,e⟩:=z.out;exact⟨QbG v.symm,_,by rw [e,UN]⟩
   ·have Y:(s.toList==t.toList)=false:=oU Y;have v:Hid (QaN (s::p) (t::q)=1):=hid (by simp [QaN,QbM,ltS,eqS,Q,Y]);clear U V;go_enter func102,ntmps102;go_wp2_with fail;go_quiet (fail);go_wp2_with fail;go_quiet (fail);go_wp2_with fail;go_ret;exact⟨QbG v.symm,_,UN _ _ _⟩
theorem Qjp (s t:ByteArray)(w:Ur):Cl 184 #[Um s,Um t] w fun e w'=>e=Ui (Ud (QbM s t))/\ w'=w:=by
 have q:∀(s:ByteArray) (w:Ur),Cl 209 #[Um s] w fun e w'=>e=Ui (Un false)/\ w'=w:=fun s w=>by
  have e:(s.toList==s.toList)=true:=oP;go_enter func209,ntmps209;go_wp2_with fail;go_ret;exact⟨rfl,rfl⟩
 by_cases k:Op.bytesLess s.toList t.toList=true
 ·have j:Hid (QbM s t= -1):=hid (by simp [QbM,ltS,k]);go_enter func184,ntmps184;go_wp2_with (go_at_call 209;refine(q _ _).mono ?_;rintro e w' ⟨rfl,rfl⟩);go_ret;exact⟨QbG j.symm,rfl⟩
 ·have k:Op.bytesLess s.toList t.toList=false:=oU k;by_cases m:(s.toList==t.toList)=true
  ·have j:Hid (QbM s t=0):=hid (by simp only [QbM,ltS,eqS,k,m];simp);go_enter func184,ntmps184;go_wp2_with (go_at_call 209;refine(q _ _).mono ?_;rintro e w' ⟨rfl,rfl⟩);go_ret;exact⟨QbG j.symm,rfl⟩
  ·have m:(s.toList==t.toList)=false:=oU m;have j:Hid (QbM s t=1):=hid (by simp [QbM,ltS,eqS,k,m]);go_enter func184,ntmps184;go_wp2_with (go_at_call 209;refine(q _ _).mono ?_;rintro e w' ⟨rfl,rfl⟩);go_ret;exact⟨QbG j.symm,rfl⟩
theorem Qfz(h:k<p.length):p.drop k=gS p k::p.drop (k+1):=by
 rw [List.drop_eq_getElem_cons h];simp [gS,UR,h]
theorem Qlb(h:k<p.length)(h':q.length<=k):QaN (p.drop k) (q.drop k)=1:=by
 rw [Qfz h,UU h'];rfl
theorem QkZ(h:p.length<=k)(h':k<q.length):QaN (p.drop k) (q.drop k)= -1:=by
 rw [Qfz h',UU h];rfl
theorem Qla(h:p.length<=k)(h':q.length<=k):QaN (p.drop k) (q.drop k)=0:=by
 rw [UU h',UU h];rfl
theorem Qnm(h:k<p.length)(h':k<q.length):QaN (p.drop k) (q.drop k)=if QbM (gS p k) (gS q k)=0 then QaN (p.drop (k+1)) (q.drop (k+1)) else QbM (gS p k) (gS q k):=by
 rw [Qfz h,Qfz h'];rfl
theorem Qnl (p q:List ByteArray)(a b:Option Us)(c d:Nat)(w:Ur)(hp:p.length<=1048576)(hq:q.length<=1048576)(h:QaI w a p)(u:QaI w b q):
  Cl 206 #[Uf a p.length c,Uf b q.length d] w fun e w'=>e=Ui (Ud (QaN p q))/\ w'=w:=by
 go_enter func206,ntmps206;go_wp2_with fail;go_loop [11] (fun i=>∃k:Nat,k<=p.length/\ i=Ud (k:Int)/\ k<=q.length/\ Hid (QaN p q=QaN (p.drop k) (q.drop k))) (fun i=>p.length - (intOf i).toNat);case atStart=>exact⟨0,Uv _,rfl,Uv _,hid rfl⟩
 case round=>
  obtain⟨k,G,rfl,H,m⟩:=hrel;by_cases v:k<p.length
  ·rcases h with h|⟨U,N,rfl,Y,z⟩
   ·omega
   have x0:=z k v;have I:(0:Int)<=(k:Int):=UZ _;have J:(k:Int)<(p.length:Int):=oM;by_cases r:k<q.length
   ·rcases u with u|⟨V,X,rfl,Z,M⟩
    ·omega
    have Q:=M k r;have K:(k:Int)<(q.length:Int):=oM;have A:decide ((q.length:Int)<=(k:Int))=false:=oS;have j:=hid (Qnm v r);obtain⟨s,g⟩:=zE (gS p k);obtain⟨t,o⟩:=zE (gS q k);rw [g] at x0;rw [o] at Q;have j:Hid (QaN p q=if QbM s t=0 then QaN (p.drop (k+1)) (q.drop (k+1)) else QbM s t):=hid (by rw [m.out,j.out,g,o]);have E:=hid (Qjp s t w);obtain⟨x,O⟩:=zE (QbM s t);rw [O] at E j;clear z M g o m O;go_wp2_with fail;refine E.mono ?_;rintro e w' ⟨rfl,rfl⟩;by_cases y:x=0
    ·subst y;have j:Hid (QaN p q=QaN (p.drop (k+1)) (q.drop (k+1))):=hid (by rw [j.out,if_pos rfl]);go_wp2_with fail;go_round;case rel=>exact⟨k+1,v,oN,r,j⟩
     case measure=>exact oE
    ·have j:Hid (QaN p q=x):=hid (by rw [j.out,if_neg y]);have L:(x !=0)=true:=oU y;go_wp2_with fail;go_ret;exact⟨QbG j.symm,rfl⟩
   ·have A:decide ((q.length:Int)<=(k:Int))=true:=oS;have j:Hid (QaN p q=1):=hid (by rw [m.out];exact Qlb v oM);clear z m;go_wp2_with fail;go_ret;exact⟨QbG j.symm,rfl⟩
  ·obtain rfl:k=p.length:=oM;by_cases r:p.length<q.length
   ·have j:Hid (QaN p q= -1):=hid (by rw [m.out];exact QkZ zL r);have A:decide ((p.length:Int)<(q.length:Int))=true:=oS;clear h u m;go_wp2_with fail;go_ret;exact⟨QbG j.symm,rfl⟩
   ·have j:Hid (QaN p q=0):=hid (by rw [m.out];exact Qla zL oM);have A:decide ((p.length:Int)<(q.length:Int))=false:=oS;clear h u m;go_wp2_with fail;go_ret;exact⟨QbG j.symm,rfl⟩
def Qb6 (p:List ByteArray):Prop:=1<=p.length/\ p.length<=8/\∀i,i<p.length ->1<=(gS p i).size/\ (gS p i).size<=40
noncomputable def yes (P:Prop):Bool:=@decide P (Classical.propDecidable P)
theorem Qal {P:Prop}(h:P):yes P=true:=by unfold yes;exact @decide_eq_true _ (Classical.propDecidable P) h
theorem Qaj {P:Prop}(h:¬P):yes P=false:=by unfold yes;exact @decide_eq_false _ (Classical.propDecidable P) h
theorem QcJ {P:Prop}:yes P=true↔P:=⟨fun h=>by unfold yes at h;exact @of_decide_eq_true _ (Classical.propDecidable P) h,Qal⟩
theorem Qa8 {x y:Bool}(h:x=y):Ending.returned (Un x)=Ui (Un y):=by rw [h]
theorem QlE (p:List ByteArray)(a:Option Us)(c:Nat)(w:Ur)(hp:p.length<=1048576)(h:QaI w a p):
  Cl 70 #[Uf a p.length c] w fun e w'=>e=Ui (Un (yes (Qb6 p)))/\ w'=w:=by
 go_enter func70,ntmps70;go_wp2_with fail;go_loop [3] (fun i=>∃k:Nat,k<=p.length/\ i=Ud (k:Int)/\ Hid (∀j,j<k ->1<=(gS p j).size/\ (gS p j).size<=40)) (fun i=>p.length - (intOf i).toNat);case atStart=>exact⟨0,Uv _,rfl,hid (fun j hj=>oM)⟩
 case round=>
  obtain⟨k,M,rfl,y⟩:=hrel;by_cases v:k<p.length
  ·rcases h with h|⟨A,U,rfl,E,b⟩
   ·omega
   have x0:=b k v;have O:(0:Int)<=(k:Int):=UZ _;have Q:(k:Int)<(p.length:Int):=oM;obtain⟨s,o⟩:=zE (gS p k);rw [o] at x0;have z:=hid o;clear b o;by_cases r:(s.size:Int)<1
   ·have g:decide ((s.size:Int)<1)=true:=oU r;have m:Hid (yes (Qb6 p)=false):=hid (Qaj (fun h=>by have:=(h.2.2 k v).1;rw [z.out] at this;omega));go_wp2_with fail;go_ret;exact⟨Qa8 m.symm,rfl⟩
   ·have g:decide ((s.size:Int)<1)=false:=oU r;by_cases u:(40:Int)<(s.size:Int)
    ·have t:decide ((40:Int)<(s.size:Int))=true:=oU u;have m:Hid (yes (Qb6 p)=false):=hid (Qaj (fun h=>by have:=(h.2.2 k v).2;rw [z.out] at this;omega));go_wp2_with fail;go_ret;exact⟨Qa8 m.symm,rfl⟩
    ·have t:decide ((40:Int)<(s.size:Int))=false:=oU u;have m:Hid (∀j,j<k+1 ->1<=(gS p j).size/\ (gS p j).size<=40):=hid (fun j hj=>by
      by_cases e:j=k
      ·rw [e,z.out];omega
      ·exact y j oM)
     go_wp2_with fail;go_round;case rel=>exact⟨k+1,v,oN,m⟩
     case measure=>exact oE
  ·obtain rfl:k=p.length:=oM;have m:Hid (yes (Qb6 p)=decide (1<=p.length/\ p.length<=8)):=hid (by
    by_cases q:1<=p.length/\ p.length<=8
    ·rw [Qal ⟨q.1,q.2,y.out⟩,decide_eq_true q]
    ·rw [Qaj (fun h=>q ⟨h.1,h.2.1⟩),decide_eq_false q])
   clear h y;by_cases r:(1:Int)<=(p.length:Int)
   ·have g:decide ((1:Int)<=(p.length:Int))=true:=oU r;by_cases u:(p.length:Int)<=8
    ·have t:decide ((p.length:Int)<=8)=true:=oU u;have m:Hid (yes (Qb6 p)=true):=hid (by rw [m.out];exact decide_eq_true oM);go_wp2_with fail;go_ret;exact⟨Qa8 m.symm,rfl⟩
    ·have t:decide ((p.length:Int)<=8)=false:=oU u;have m:Hid (yes (Qb6 p)=false):=hid (by rw [m.out];exact decide_eq_false oM);go_wp2_with fail;go_ret;exact⟨Qa8 m.symm,rfl⟩
   ·have g:decide ((1:Int)<=(p.length:Int))=false:=oU r;have m:Hid (yes (Qb6 p)=false):=hid (by rw [m.out];exact decide_eq_false oM);go_wp2_with fail;go_ret;exact⟨Qa8 m.symm,rfl⟩
theorem QlD (p:List ByteArray)(a:Option Us)(c:Nat)(w:Ur)(hp:p.length<=1048576)(h:QaI w a p):
  Cl 204 #[Uf a p.length c] w fun e w'=>e=Ui (Un (yes (Qb6 p)))/\ w'=w:=by
 by_cases q:(p.length:Int)<1
 ·have u:decide ((p.length:Int)<1)=true:=oU q;have m:Hid (yes (Qb6 p)=false):=hid (Qaj (fun h=>oH h.1));clear h;go_enter func204,ntmps204;go_wp2_with fail;go_ret;exact⟨Qa8 m.symm,rfl⟩
 ·have u:decide ((p.length:Int)<1)=false:=oU q;by_cases r:(8:Int)<(p.length:Int)
  ·have v:decide ((8:Int)<(p.length:Int))=true:=oU r;have m:Hid (yes (Qb6 p)=false):=hid (Qaj (fun h=>oH h.2.1));clear h;go_enter func204,ntmps204;go_wp2_with fail;go_ret;exact⟨Qa8 m.symm,rfl⟩
  ·have v:decide ((8:Int)<(p.length:Int))=false:=oU r;go_enter func204,ntmps204;go_wp2_with fail;clear u v;go_loop [15] (fun i=>∃k:Nat,k<=p.length/\ i=Ud (k:Int)/\ Hid (∀j,j<k ->1<=(gS p j).size/\ (gS p j).size<=40)) (fun i=>p.length - (intOf i).toNat);case atStart=>exact⟨0,Uv _,rfl,hid (fun j hj=>oM)⟩
   case round=>
    obtain⟨k,E,rfl,z⟩:=hrel;by_cases y:k<p.length
    ·rcases h with h|⟨b,Q,rfl,A,o⟩
     ·omega
     have x0:=o k y;have M:(0:Int)<=(k:Int):=UZ _;have O:(k:Int)<(p.length:Int):=oM;obtain⟨s,t⟩:=zE (gS p k);rw [t] at x0;have g:=hid t;clear o t;by_cases q:(s.size:Int)<1
     ·have u:decide ((s.size:Int)<1)=true:=oU q;have m:Hid (yes (Qb6 p)=false):=hid (Qaj (fun h=>by have:=(h.2.2 k y).1;rw [g.out] at this;omega));go_wp2_with fail;go_ret;exact⟨Qa8 m.symm,rfl⟩
     ·have u:decide ((s.size:Int)<1)=false:=oU q;by_cases r:(40:Int)<(s.size:Int)
      ·have v:decide ((40:Int)<(s.size:Int))=true:=oU r;have m:Hid (yes (Qb6 p)=false):=hid (Qaj (fun h=>by have:=(h.2.2 k y).2;rw [g.out] at this;omega));go_wp2_with fail;go_ret;exact⟨Qa8 m.symm,rfl⟩
      ·have v:decide ((40:Int)<(s.size:Int))=false:=oU r;have m:Hid (∀j,j<k+1 ->1<=(gS p j).size/\ (gS p j).size<=40):=hid (fun j hj=>by
        by_cases e:j=k
        ·rw [e,g.out];omega
        ·exact z j oM)
       go_wp2_with fail;go_round;case rel=>exact⟨k+1,y,oN,m⟩
       case measure=>exact oE
    ·obtain rfl:k=p.length:=oM;have m:Hid (yes (Qb6 p)=true):=hid (Qal ⟨oM,oM,z⟩);clear h z;go_wp2_with fail;go_ret;exact⟨Qa8 m.symm,rfl⟩
open Go.Maps
def Qc3 (v:Value):Option (DataW Value×List MemPlace):=match v with
 | Uf a n c=>Uq (.held (Uf a n c),[])
 | _=>Up
theorem QdO{d:DataW Value}{ps:List MemPlace}(h:Qc3 v=Uq (d,ps)):d=.held v/\∃a n c,v=Uf a n c:=by
 unfold Qc3 at h;split at h
 ·simp at h;exact⟨h.1.symm,_,_,_,rfl⟩
 ·cases h
theorem QfL{size:Nat}(h:w.ownsRow B e size v n xs):Qc3 v=Uq (.held v,[]):=by
 rcases h.2 with ⟨rfl,_⟩|⟨g,cap,j,rfl,_⟩<;>rfl
def kI (r:Int):Lit:=.int Uh r
def upd {α:Type}(G:Int ->α)(r:Int)(v:α)(x:Int):α:=if x=r then v else G x
theorem Qap {α:Type}(G:Int ->α)(r:Int)(v:α):upd G r v r=v:=if_pos rfl
theorem Qai {α:Type}(G:Int ->α)(v:α)(h:x≠r):upd G r v x=G x:=if_neg h
theorem QiC(h:x≠r):kI x≠kI r:=fun e=>h (by unfold kI at e;injection e)
def Qan (l:List (Int×Int)):List Value:=l.flatMap fun p=>[Ud p.1,Ud p.2]
theorem Qa6 (l:List (Int×Int))(p:Int×Int):Qan (l++[p])=Qan l++[Ud p.1,Ud p.2]:=by simp [Qan]
structure QaM (w:Ur)(bm n:Nat)(D:DataW Value)(G:Int ->Value)(L:Int ->List (Int×Int)):Prop where
 own:w.ownsMap prog 3 Qc3 bm n D
 at':∀r,D.atKey (kI r) (.held Ue)=.held (G r)
 has':∀r,Maps.has D (kI r)= !(L r).isEmpty
 rows:∀r,w.ownsRow (bm+1) 255 2 (G r) (L r).length (Qan (L r))
 apart:∀r r' g,(G r).ownBlock=Uq g ->(G r').ownBlock=Uq g ->r=r'
theorem QaM.bw{D:DataW Value}{G:Int ->Value}(h:QaM w bm n D G L)(hb:Bl w w1):QaM w1 bm n D G L:=
 ⟨h.own.kept ⟨hb.os,hb.tape,hb.output,hb.size,fun k hk _=>hb.block k hk⟩ (by simp:Uq bm≠Up),h.at',h.has',fun r=>Qbp (h.rows r) hb (fun k hk=>((h.rows r).lt k hk).2),h.apart⟩
theorem QaM.step {w3:Ur}{D:DataW Value}{G:Int ->Value}{v':Value}{f t:Int}(h:QaM w bm n D G L)
  (hb:Bl w w1) (hown:w2.ownsRow (bm+1) 255 2 v' ((L r).length+1) (Qan (L r)++[Ud f,Ud t]))
  (hgr:w1.grownBy w2 (G r).ownBlock) (hloc:v'.ownBlock=(G r).ownBlock \/v'.ownBlock=Uq w1.heap.size)
  (hD:w3.ownsMap prog 3 Qc3 bm (n+1) (D.put (kI r) (.held v'))) (hgr3:w2.grownBy w3 (Uq bm)):
  QaM w3 bm (n+1) (D.put (kI r) (.held v')) (upd G r v') (upd L r (L r++[(f,t)])):=by
 have E:=h.bw hb;have A:∀(w:Ur) (v:Value) (m:Nat) (xs:List Value),w.ownsRow (bm+1) 255 2 v m xs ->v.ownBlock=Up \/v.ownBlock≠Uq bm:=by
  intro w v m xs O;cases e:v.ownBlock with
  | none=>exact .inl rfl
  | some g=>exact .inr (fun e2=>by have:=(O.lt g e).1;injection e2 with e2;omega)
 refine⟨hD,fun x=> ?_,fun x=> ?_,fun x=> ?_,?_⟩
 ·by_cases e:x=r
  ·subst e;rw [Qap,atKey_put_same h.own.isMap (show WideAt.IsKeyLit (kI x) from trivial)]
  ·rw [Qai G v' e,atKey_put_other (QiC e)];exact h.at' x
 ·by_cases e:x=r
  ·subst e;rw [Qap,has_put_same h.own.isMap (show WideAt.IsKeyLit (kI x) from trivial)];simp
  ·rw [Qai L _ e,has_put_other (QiC e)];exact h.has' x
 ·by_cases e:x=r
  ·subst e;rw [Qap,Qap,Qa6,List.length_append];exact hown.kept hgr3 (A _ _ _ _ hown)
  ·rw [Qai G v' e,Qai L _ e];have j:=E.rows x;have M:(G x).ownBlock=Up \/(G x).ownBlock≠(G r).ownBlock:=by
    cases e1:(G x).ownBlock with
    | none=>exact .inl rfl
    | some g=>exact .inr (fun e2=>e (h.apart x r g e1 e2.symm))
   have p:=j.kept hgr M;exact p.kept hgr3 (A _ _ _ _ p)
 ·intro x y g j q;have s:∀z,z≠r ->∀g,(G z).ownBlock=Uq g ->v'.ownBlock=Uq g ->False:=by
   intro z Q g b u;rcases hloc with i|i
   ·exact Q (h.apart z r g b (i▸u))
   ·rw [i] at u;have U:=((h.rows z).lt g b).2;have V:=hb.size;injection u with u;omega
  by_cases o:x=r
  ·subst o;rw [Qap] at j;by_cases k:y=x
   ·exact k.symm
   ·rw [Qai G v' k] at q;exact(s y k g q j).elim
  ·rw [Qai G v' o] at j;by_cases k:y=r
   ·subst k;rw [Qap] at q;exact(s x o g j q).elim
   ·rw [Qai G v' k] at q;exact h.apart x y g j q
def Lk (R F T:Nat ->Int):Nat ->Int ->List (Int×Int)
 | 0=>fun _=>[]
 | k+1=>upd (Lk R F T k) (R k) (Lk R F T k (R k)++[(F k,T k)])
theorem Qbz (R F T:Nat ->Int)(k:Nat):∀r,(Lk R F T k r).length<=k:=by
 induction k with
 | zero=>intro r;simp [Lk]
 | succ k ih=>
  intro r;by_cases e:r=R k
  ·subst e;simp only [Lk];rw [Qap];have:=ih (R k);simp;omega
  ·simp only [Lk];rw [Qai _ _ e];have:=ih r;omega
theorem QgK (w:Ur):(zeroValue 238).run prog w=.ok Ue w:=oK
theorem wfI(h0: -9223372036854775808<=r)(h1:r<=9223372036854775807):(Lit.int Uh r).wf=true:=by
 have j:IntKind.i64.min= -9223372036854775808:=oD;have k:IntKind.i64.max=9223372036854775807:=oD;simp only [Lit.wf,j,k,Bool.and_eq_true,decide_eq_true_iff];exact⟨h0,h1⟩
theorem QaM.look{D:DataW Value}{G:Int ->Value}(h:QaM w bm n D G L)(r:Int)(hr:(Lit.int Uh r).wf=true):
  (Instr.lookup 174 (.map (Uq bm)) (Ud r) false).run prog w=.ok (G r) w:=by
 obtain⟨v,ps,k,m⟩:=h.own.lookup (int_keyed underlying3) underlying174 (QgK w) (zd:=.held Ue) (zp:=[]) rfl (keyOf_int_mk underlying3 hr);have:=h.at' r;obtain⟨j,_⟩:=QdO m;unfold kI at this;rw [this] at j;have e:v=G r:=by injection j with j;exact j.symm
 rw [k,e]
theorem Tryz.infoSpan:(prog.info? 255).map (fun i=>(i.zero,i.size,i.bytes))=Uq (Uq (Uo #[Ud 0,Ud 0]),2,16):=oK
theorem QpF{ops:Array Oper}{Q:Exit ->Act ->Ur ->Prop}{md:Region.Mode}{S:Ur ->Prop}{d d':Option Tmp}{listed:Array Bool}{a:Act}
  (hd:ops[i]?.map (fun o=>o.dst)=Uq d) (hd':ops[j]?.map (fun o=>o.dst)=Uq d') (hr:Region.ready md ops listed=[i,j])
  (h:∀o,ops[i]? =Uq o ->o.dst=d ->∀K':Act ->Ur ->Prop,Shut (∀a w,S w ->(S w ->wpAnyH P md ops Q S fuel (listed.setIfInBounds i true) a w) ->K' a w) ->if Region.wanted o (yielded ops a.tmps)=true then Oper.wp P o a w K' Q else K' (a.put o.dst undef) w)
  (h':∀o,ops[j]? =Uq o ->o.dst=d' ->∀K':Act ->Ur ->Prop,Shut (∀a w,S w ->(S w ->wpAnyH P md ops Q S fuel (listed.setIfInBounds j true) a w) ->K' a w) ->if Region.wanted o (yielded ops a.tmps)=true then Oper.wp P o a w K' Q else K' (a.put o.dst undef) w):
  wpAnyH P md ops Q S (fuel+1) listed a w:=by
 obtain⟨o,k,q⟩:=Option.map_eq_some_iff.1 hd;obtain⟨u,m,r⟩:=Option.map_eq_some_iff.1 hd';exact wpAnyH_ready hr oP (AllReadyH.cons k (h o k q) (AllReadyH.cons m (h' u m r) AllReadyH.nil))
theorem Qcm{o:Oper}{a:Act}{K:Act ->Ur ->Prop}{Q:Exit ->Act ->Ur ->Prop}(s x:Operand)(t:TypeId)
  (ho:o.op=.call {callee:=.builtin .append,args:=#[s,x],argTypes:=#[t,t]})
  (base:Nat) (e:TypeId) (i:TypeInfo) (z:Value) (size bytes:Nat) (ht:P.underlying t=Uq (.slice e)) (hi:P.info? e=Uq i) (hz:i.zero=Uq z)
  (hsize:i.size=size) (hby:i.bytes=bytes) (hzs:z.cells.size=size) (hsz:0<size)
  (v:Value) (n:Nat) (xs:List Value) (hs:a.eval s=v) (hown:w.ownsRow base e size v n xs)
  (ad:Us) (m c:Nat) (news:List Value) (hx:a.eval x=Uf (Uq ad) m c) (hl:news.length=m*size) (hnews:∀j u,news[j]? =Uq u ->w.cell? (ad.add j)=Uq u) (h1:∀u∈news,u.oneCell'=true)
  (h63:n+m<=maxLen) (hbytes:(n+m)*bytes<=140737488355328) (hbase:base<=w.heap.size)
  (h:∀v' w',w'.ownsRow base e size v' (n+m) (xs++news) ->w.grownBy w' v.ownBlock ->(v'.ownBlock=v.ownBlock \/v'.ownBlock=Uq w.heap.size) ->K (a.put o.dst v') w'):o.wp P a w K Q:=by
 obtain⟨v',w',y,k,q,g,r⟩:=run_append_own_at (P:=P) w base t o.type e i z size bytes ht hi hz hsize hby hzs hsz v n xs hown ad m c news hl hnews h1 h63 hbytes hbase;unfold Oper.wp execOp;simp only [ho,resolve,invoke,builtin,Sem.run_bind,Sem.run_pure,Result.andThen_ok,List.map_toArray,List.map_cons,List.map_nil,hs,hx,y];exact h v' w' k q r
theorem Qfp {H:Type}(w:Ur){o:Oper}{a:Act}{K:Act ->Ur ->Prop}{Q:Exit ->Act ->Ur ->Prop}
  (m x v:Operand) (t:TypeId) (hop:o.op=Op.mapUpdate t m x v)
  (k e:TypeId) (Kd:Keyed P k) (ht:P.underlying t=Uq (.map k e)) (R:Value ->Option (DataW H×List MemPlace)) (b n:Nat) (D:DataW H)
  (hm:a.eval m=.map (Uq b)) (hown:w.ownsMap P k R b n D) (hn:n<maxLen) (key val:Value) (kl:Lit) (hx:a.eval x=key) (hv:a.eval v=val) (hkey:keyOf P k key=Uq kl)
  (d:DataW H) (ps:List MemPlace) (hval:R val=Uq (d,ps))
  (hK:∀w',w'.ownsMap P k R b (n+1) (D.put kl d) ->w.grownBy w' (Uq b) ->K (a.put o.dst undef) w'):o.wp P a w K Q:=by
 obtain⟨w',j,q,r⟩:=hown.update Kd ht hn hkey hval;unfold Oper.wp;simp [execOp,hop,hm,hx,hv,j,Result.andThen];exact hK _ q r
theorem Qf3 (w:Ur):QaM (w.alloc (.map #[] 0)) w.heap.size 0 (.map []) (fun _=> Ue) (fun _=>[]):=
 ⟨UO w _ _ _,fun r=>rfl,fun r=>rfl,fun r=>World.ownsRow_nil _ _ _ _,fun r r' g h _=>by cases h⟩
theorem Qlx{row:Option Nat}{x y z:Value}(hg:w.grownBy w' row)(h0:w.cell? (Ub B)=Uq x)(h1:w.cell? (Ua B 1)=Uq y)(h2:w.cell? (Ua B 2)=Uq z)(hne:Uq B≠row):
  w'.cell? (Ub B)=Uq x/\ w'.cell? (Ua B 1)=Uq y/\ w'.cell? (Ua B 2)=Uq z:=⟨hg.cell h0 hne,hg.cell h1 hne,hg.cell h2 hne⟩
theorem Qp9 (a:Option Us)(n c:Nat)(R F T:Nat ->Int)(w:Ur)(hn:n<=1048576)(h:QaD w a n R F T)(hok:QdC R F T n=true):
  Cl 156 #[Uo #[Uf a n c]] w fun e w'=>∃bm D G,e=Ui (Ul #[.map (Uq bm),Un true])/\ QaM w' bm n D G (Lk R F T n)/\ w.heap.size<=bm/\ Bl w w':=by
 have H0:=@run_makeMap prog;have Hf:=(Qax.1 hok);obtain⟨i0,hi,Hq,Hr,Hs⟩:=info_parts Tryz.infoSpan;have B0:Bl w (w.alloc (Uj #[Uf a n c] 38)):=zO _ _;have Hl:=hid Hf;clear Hf;go_enter func156,ntmps156;go_wp2_with fail;refine(Qm5 a n c R F T _ hn (h.bw B0)).mono ?_;rintro e w1 ⟨rfl,P⟩;rw [hok];have Ht:w1.cell? (Ub w.heap.size)=Uq (Uf a n c):=by rw [(QbZ P).1 _ _ oP];simp
 have N:=Qaa B0 P;have z1:w.heap.size<w1.heap.size:=by have:=P.size;simp at this;omega
 clear P B0 hok;rcases h with h|⟨b,off,rfl,hb,Z⟩
 ·subst h;have Hh:=hid N;clear N;go_wp2_with fail;refine wp_loop_rounds 1 ?_;rw [rounds_succ];go_wp2_with fail;go_ret2;exact⟨w1.heap.size,_,_,rfl,Qf3 w1,oM,(Hh.alloc oM _)⟩
 have Hh:=hid N;clear N;go_wp2_with fail;go_loopw [14] (fun i wr=>∃(k:Nat) (D:DataW Value) (G:Int ->Value),k<=n/\ i=Ud k/\ QaM wr w1.heap.size k D G (Lk R F T k)/\ Bl w wr/\ w1.heap.size<wr.heap.size) (fun i _=>n - (intOf i).toNat);case atStart=>exact⟨0,_,_,Uv _,rfl,Qf3 w1,Hh.alloc oM _,oP⟩
 case round=>
  obtain⟨k,D,G,s,rfl,t,E,H1⟩:=hrel;by_cases O:k<n
  ·have Hu:wr.cell? (Ua b (off+k*3))=Uq (Ud (R k)):=(E.cell (p:=(Ua b _)) hb).trans (Z k O).1;have Hj:wr.cell? (Ua b (off+k*3+1))=Uq (Ud (F k)):=(E.cell (p:=(Ua b _)) hb).trans (Z k O).2.1;have Hk:wr.cell? (Ua b (off+k*3+2))=Uq (Ud (T k)):=(E.cell (p:=(Ua b _)) hb).trans (Z k O).2.2;have Hw:=Qbf.1 ((Hl.1 k O).1);have Hg:(Lit.int Uh (R k)).wf=true:=wfI oM oM;have Hz:=Hl.2;have hL:=Qbz R F T k (R k);obtain⟨z,A⟩:=zE (wr.alloc (Uj #[Ud (R k),Ud (F k),Ud (T k)] 123));have zW:z.heap.size=wr.heap.size+1:=A▸oP;have bW:Bl wr z:=A▸zO _ _;have r0:z.cell? (Ub wr.heap.size)=Uq (Ud (R k)):=A▸oP;have r1:z.cell? (Ua wr.heap.size 1)=Uq (Ud (F k)):=A▸oP;have r2:z.cell? (Ua wr.heap.size 2)=Uq (Ud (T k)):=A▸oP;have He:Uq w1.heap.size≠(G (R k)).ownBlock:=fun e=>by have:=((t.rows (R k)).lt _ e.symm).1;omega
   have Hp:Uq wr.heap.size≠(G (R k)).ownBlock:=fun e=>by have:=((t.rows (R k)).lt _ e.symm).2;omega
   have g1:=t.bw (bW.drew);have Hx:=g1.look (R k) Hg;obtain⟨U,Y⟩:=zE (z.alloc (Uj #[Ud (F k),Ud (T k)] 255));have V:Bl z U:=Y▸zO _ _;have Hd:U.drew.heap.size=wr.heap.size+2:=(by show U.heap.size=_;rw [<- Y];simp;omega);have b2:Bl wr U.drew:=(bW.trans (V.mono oM)).drew;have W:=t.bw b2;have Hy:=W.look (R k) Hg;have Hc:Hid (∀j u,[Value.int Uh (F k),Ud (T k)][j]? =Uq u ->U.drew.cell? (((Ua (wr.heap.size+1) 0):Us).add j)=Uq u):=(by rw [<- Y,<- zW];exact cell_two_new _ _ _ _);have C:=hid (W.rows (R k));have Hb:=hid W.own;have Ha:=hid t;have B:=hid b2;have X:=hid E;have Hm:=(V.cell (p:=(Ub wr.heap.size)) (show wr.heap.size<z.heap.size by omega)).trans r0;have Hn:=(V.cell (p:=(Ua wr.heap.size 1)) (show wr.heap.size<z.heap.size by omega)).trans r1;have Ho:=(V.cell (p:=(Ua wr.heap.size 2)) (show wr.heap.size<z.heap.size by omega)).trans r2;clear t E g1 W b2 bW V Hw Z;go_wp2_with fail;try rw [A]
   clear Hu Hj Hk A;refine zR (S:=fun w'=>w'.cell? (Ub wr.heap.size)=Uq (Ud (R k))/\ w'.cell? (Ua wr.heap.size 1)=Uq (Ud (F k))/\ w'.cell? (Ua wr.heap.size 2)=Uq (Ud (T k))) ⟨r0,r1,r2⟩ (fun qh=> ?_);refine tZ 0 18 ?_;refine tZ 1 19 ?_;refine tZ 2 20 ?_;refine tZ 3 21 ?_;refine tZ 4 22 ?_;refine tZ 5 23 ?_;refine tZ 7 25 ?_;refine tZ 8 26 ?_;refine tZ 9 27 ?_;refine tZ 10 28 ?_;refine tZ 11 29 ?_;refine QpF (i:=6) (j:=12) (d:=Uq 24) (d':=Uq 30) oK oK oK ?_ ?_
   ·intro o I Hv K m;simp only [gZa,gZb,gZc,gZd] at I;subst I;go_simp;refine m.out _ _ ⟨r0,r1,r2⟩ (fun qh=> ?_);clear m K;try simp only [zP]
    refine cZ 12 ?_;intro K m;go_simp;try rw [Y]
    have q:=And.intro Hm (And.intro Hn Ho);refine m.out _ _ ⟨q.1,q.2.1,q.2.2⟩ (fun qh=> ?_);clear m K;try simp only [zP]
    refine cZ 13 ?_;intro K m;rw [if_pos (by rfl)];refine Qcm _ _ _ (by rfl) (w1.heap.size+1) 255 i0 _ 2 16 underlying238 hi Hq Hr Hs rfl oD (G (R k)) (Lk R F T k (R k)).length _ (by rfl) C (Ua (wr.heap.size+1) 0) 1 1 [Ud (F k),Ud (T k)] (by rfl) (by rfl) Hc (by intro u L;simp at L;rcases L with rfl|rfl<;>rfl) oL oM (by rw [Hd];omega) ?_;intro v' w3 M v H;have r:=Qlx v q.1 q.2.1 q.2.2 Hp;refine m.out _ _ ⟨r.1,r.2.1,r.2.2⟩ (fun qh=> ?_);clear m K;try simp only [zP]
    refine cZ 14 ?_;intro K m;rw [if_pos (by rfl)];refine Qfp _ _ _ _ _ (by rfl) 3 238 (int_keyed underlying3) underlying174 Qc3 w1.heap.size k D (by rfl) (Hb.kept v He) oL (Ud (R k)) v' (kI (R k)) (by rfl) (by rfl) (keyOf_int_mk underlying3 Hg) (.held v') [] (QfL M) ?_;intro w4 J y;have g:=Qlx y r.1 r.2.1 r.2.2 oS;refine m.out _ _ ⟨g.1,g.2.1,g.2.2⟩ (fun qh=> ?_);clear m K;try simp only [zP]
    refine zD ?_;have Q:=hid (Ha.step (v':=v') B M v H J y);have HZ:=hid (Ux v.size y.size);have Hi:=hid (((X.trans (B.mono oM)).grown v oM (fun k s=>oH ((C.lt k s).1))).grown y (oH v.size) (fun k s=>oI s));clear qh q r g M v H J y;go_wp2_with fail;go_roundw;case rel=>exact⟨k+1,_,_,O,oN,Q,Hi,oH HZ⟩
    case measure=>exact oE
   ·intro o I Hv K m;simp only [gZa,gZb,gZc,gZd] at I;subst I;go_simp;try rw [Y]
    have q:=And.intro Hm (And.intro Hn Ho);refine m.out _ _ ⟨q.1,q.2.1,q.2.2⟩ (fun qh=> ?_);clear m K;try simp only [zP]
    refine cZ 6 ?_;intro K m;go_simp;refine m.out _ _ ⟨q.1,q.2.1,q.2.2⟩ (fun qh=> ?_);clear m K;try simp only [zP]
    refine cZ 13 ?_;intro K m;rw [if_pos (by rfl)];refine Qcm _ _ _ (by rfl) (w1.heap.size+1) 255 i0 _ 2 16 underlying238 hi Hq Hr Hs rfl oD (G (R k)) (Lk R F T k (R k)).length _ (by rfl) C (Ua (wr.heap.size+1) 0) 1 1 [Ud (F k),Ud (T k)] (by rfl) (by rfl) Hc (by intro u L;simp at L;rcases L with rfl|rfl<;>rfl) oL oM (by rw [Hd];omega) ?_;intro v' w3 M v H;have r:=Qlx v q.1 q.2.1 q.2.2 Hp;refine m.out _ _ ⟨r.1,r.2.1,r.2.2⟩ (fun qh=> ?_);clear m K;try simp only [zP]
    refine cZ 14 ?_;intro K m;rw [if_pos (by rfl)];refine Qfp _ _ _ _ _ (by rfl) 3 238 (int_keyed underlying3) underlying174 Qc3 w1.heap.size k D (by rfl) (Hb.kept v He) oL (Ud (R k)) v' (kI (R k)) (by rfl) (by rfl) (keyOf_int_mk underlying3 Hg) (.held v') [] (QfL M) ?_;intro w4 J y;have g:=Qlx y r.1 r.2.1 r.2.2 oS;refine m.out _ _ ⟨g.1,g.2.1,g.2.2⟩ (fun qh=> ?_);clear m K;try simp only [zP]
    refine zD ?_;have Q:=hid (Ha.step (v':=v') B M v H J y);have HZ:=hid (Ux v.size y.size);have Hi:=hid (((X.trans (B.mono oM)).grown v oM (fun k s=>oH ((C.lt k s).1))).grown y (oH v.size) (fun k s=>oI s));clear qh q r g M v H J y;go_wp2_with fail;go_roundw;case rel=>exact⟨k+1,_,_,O,oN,Q,Hi,oH HZ⟩
    case measure=>exact oE
  ·obtain rfl:k=n:=oM;have Q:=hid t;have X:=hid E;clear t E Z;go_wp2_with fail;go_ret2;exact⟨w1.heap.size,D,G,rfl,Q,oM,X⟩
def QmZ (R T:Nat ->Int)(rep:Int):Nat ->Int
 | 0=>0
 | k+1=>if R k=rep/\ QmZ R T rep k<T k then T k else QmZ R T rep k
def Qcf (l:List (Int×Int)):Int:=match l.getLast? with|none=>0|some p=>p.2
theorem QbN (l:List (Int×Int))(p:Int×Int):Qcf (l++[p])=p.2:=by simp [Qcf]
theorem QiF:Qcf []=0:=rfl
theorem Qmj {R F T:Nat ->Int}:∀k:Nat,QeM R F T k ->(∀r,Lk R F T k r≠[] ->0<k/\ r<=R (k - 1))/\ (0<k ->Qcf (Lk R F T k (R (k - 1)))=T (k - 1))/\ (∀r,QmZ R T r k=Qcf (Lk R F T k r))/\ (∀r,0<=Qcf (Lk R F T k r)/\ Qcf (Lk R F T k r)<=1000000000)
 | 0,_=>⟨fun r h=>absurd rfl h,fun h=>absurd h oM,fun r=>rfl,fun r=>by simp [Lk,Qcf]⟩
 | k+1,h=>by
  have g:QeM R F T k:=fun i hi=>h i oM;obtain⟨y,b,z,p⟩:=Qmj k g;have A:=Qbf.1 (h k oM).1;have u:0<k ->(R (k - 1)<R k \/(R (k - 1)=R k/\ T (k - 1)+1<F k)):=fun j=>by
   have:=(h k oM).2 j;unfold QaJ at this;exact of_decide_eq_true this
  have q:∀r,Lk R F T (k+1) r=upd (Lk R F T k) (R k) (Lk R F T k (R k)++[(F k,T k)]) r:=fun r=>rfl;have o:Qcf (Lk R F T k (R k))<T k:=by
   by_cases v:Lk R F T k (R k)=[]
   ·rw [v,QiF];omega
   ·obtain⟨j,t⟩:=y (R k) v;rcases u j with m|⟨m,s⟩
    ·omega
    ·rw [<- m,b j];omega
  refine⟨fun r hr=> ?_,fun _=> ?_,fun r=> ?_,fun r=> ?_⟩
  ·refine⟨oM,?_⟩;rw [Uz];rw [q] at hr;by_cases e:r=R k
   ·omega
   ·rw [Qai _ _ e] at hr;obtain⟨j,t⟩:=y r hr;rcases u j with m|⟨m,_⟩<;>omega
  ·rw [Uz,q,Qap,QbN]
  ·rw [q];by_cases e:r=R k
   ·subst e;rw [Qap,QbN];show (if R k=R k/\ QmZ R T (R k) k<T k then T k else QmZ R T (R k) k)=T k;rw [if_pos ⟨rfl,by rw [z];exact o⟩]
   ·rw [Qai _ _ e,<- z r];show (if R k=r/\ QmZ R T r k<T k then T k else QmZ R T r k)=QmZ R T r k;rw [if_neg (fun m=>e m.1.symm)]
  ·rw [q];by_cases e:r=R k
   ·subst e;rw [Qap,QbN];show 0<=T k/\ T k<=1000000000;omega
   ·rw [Qai _ _ e];exact p r
def Srt (l:List (Int×Int)):Prop:=l.Pairwise (fun p q=>p.2+1<q.1)/\∀p∈l,1<=p.1/\ p.1<=p.2/\ p.2<=1000000000
theorem QbT {R F T:Nat ->Int}:∀k:Nat,QeM R F T k ->∀r,Srt (Lk R F T k r)/\∀p∈Lk R F T k r,p.2<=Qcf (Lk R F T k r)
 | 0,_=>fun r=>⟨⟨List.Pairwise.nil,fun p j=>by cases j⟩,fun p j=>by cases j⟩
 | k+1,h=>by
  have v:QeM R F T k:=fun i hi=>h i oM;have z:=QbT k v;obtain⟨t,o,Q,U⟩:=Qmj k v;have O:=Qbf.1 (h k oM).1;have g:0<k ->(R (k - 1)<R k \/(R (k - 1)=R k/\ T (k - 1)+1<F k)):=fun m=>by
   have:=(h k oM).2 m;unfold QaJ at this;exact of_decide_eq_true this
  intro r;show Srt (upd (Lk R F T k) (R k) (Lk R F T k (R k)++[(F k,T k)]) r)/\∀p∈upd (Lk R F T k) (R k) (Lk R F T k (R k)++[(F k,T k)]) r,p.2<=Qcf (upd (Lk R F T k) (R k) (Lk R F T k (R k)++[(F k,T k)]) r);by_cases e:r=R k
  ·subst e;rw [Qap];obtain⟨⟨b,s⟩,A⟩:=z (R k);have y:∀p∈Lk R F T k (R k),p.2+1<F k:=by
    intro p j;obtain⟨m,M⟩:=t (R k) (List.ne_nil_of_mem j);have:=A p j;rcases g m with u|⟨u,E⟩
    ·omega
    ·rw [<- u,o m] at this;omega
   refine⟨⟨List.pairwise_append.2 ⟨b,List.pairwise_singleton _ _,fun p j q hq=> ?_⟩,fun p j=> ?_⟩,fun p j=> ?_⟩
   ·rw [UV] at hq;subst hq;exact y p j
   ·rcases List.mem_append.1 j with j|j
    ·exact s p j
    ·rw [UV] at j;subst j;exact⟨oM,oM,oM⟩
   ·rw [QbN];rcases List.mem_append.1 j with j|j
    ·have:=y p j;show p.2<=T k;omega
    ·rw [UV] at j;subst j;exact Int.le_refl _
  ·rw [Qai _ _ e];exact z r
def SS (w:Ur)(a:Option Us)(n:Nat)(f t:Nat ->Int):Prop:=
 n=0 \/∃b off,a=Uq (Ua b off)/\ b<w.heap.size/\∀i,i<n ->w.cell? (Ua b (off+i*2))=Uq (Ud (f i))/\ w.cell? (Ua b (off+i*2+1))=Uq (Ud (t i))
theorem QkD{cap:Nat}{l:List (Int×Int)}(h:w.ownsRow B 255 2 (Uf (Uc g) n cap) n (Qan l))(hl:l.length=n):
  SS w (Uc g) n (fun i=>(l.getD i (0,0)).1) (fun i=>(l.getD i (0,0)).2):=by
 refine .inr ⟨g,0,rfl,(h.lt g rfl).2,fun i hi=> ?_⟩;have j:∀(l:List (Int×Int)) (i:Nat),i<l.length ->(Qan l)[i*2]? =Uq (Ud (l.getD i (0,0)).1)/\ (Qan l)[i*2+1]? =Uq (Ud (l.getD i (0,0)).2):=by
  intro l;induction l with
  | nil=>intro i hi;simp at hi
  | cons a l ih=>
   intro i hi;cases i with
   | zero=>simp [Qan]
   | succ i=>
    have:=ih i (oU hi);have e:Qan (a::l)=Ud a.1::Ud a.2::Qan l:=(by simp [Qan]);rw [e,show (i+1)*2=i*2+1+1 from by omega];simpa using this
 rw [Uw,h.cellAt _ oM,h.cellAt _ oM];exact j l i oM
theorem Qh0 {l:List (Int×Int)}(h:Srt l)(hij:i<j)(hj:j<l.length):(l.getD i (0,0)).2+1<(l.getD j (0,0)).1/\ (l.getD i (0,0)).1<=(l.getD i (0,0)).2/\ (l.getD j (0,0)).1<=(l.getD j (0,0)).2:=by
 have k:l.getD i (0,0)=l[i]:=by simp [UR,show i<l.length by omega]
 have m:l.getD j (0,0)=l[j]:=by simp [UR,hj]
 rw [k,m];exact⟨List.pairwise_iff_getElem.1 h.1 i j oM hj hij,(h.2 _ (UW _)).2.1,(h.2 _ (UW _)).2.1⟩
theorem QlA (a:Option Us)(n c:Nat)(R F T:Nat ->Int)(w:Ur)(hn:n<=1048576)(h:QaD w a n R F T)(hok:QdC R F T n=false):
  Cl 156 #[Uo #[Uf a n c]] w (Rt w (Ul #[.map Up,Un false])):=by
 have j:Bl w (w.alloc (Uj #[Uf a n c] 38)):=zO _ _;go_enter func156,ntmps156;go_wp2_with fail;refine(Qm5 a n c R F T _ hn (h.bw j)).mono ?_;rintro e w1 ⟨rfl,k⟩;rw [hok];have m:=hid (Qaa j k);clear k j hok h;go_wp2_with fail;go_ret2;exact⟨rfl,m⟩
def QaV (x y:Int):Int:=if x<y then -1 else if y<x then 1 else 0
theorem Qcb (x y:Int)(w:Ur):Cl 185 #[Ud x,Ud y] w fun e w'=>e=Ui (Ud (QaV x y))/\ w'=w:=by
 by_cases k:x<y
 ·have j:Hid (QaV x y= -1):=if_pos k;go_enter func185,ntmps185;go_wp2;go_ret;exact⟨QbS j.symm,rfl⟩
 ·by_cases m:y<x
  ·have j:Hid (QaV x y=1):=(by unfold Hid QaV;rw [if_neg k,if_pos m]);go_enter func185,ntmps185;go_wp2;go_ret;exact⟨QbS j.symm,rfl⟩
  ·have j:Hid (QaV x y=0):=(by unfold Hid QaV;rw [if_neg k,if_neg m]);go_enter func185,ntmps185;go_wp2;go_ret;exact⟨QbS j.symm,rfl⟩
theorem Qm4 (f t q:Int)(w:Ur):Cl 230 #[Uo #[Ud f,Ud t],Ud q] w (Rt w (Ud (QaV t q))):=by
 go_enter func230,ntmps230;go_wp2_with fail;refine(Qcb t q _).mono ?_;rintro e w1 ⟨rfl,rfl⟩;go_wp2_with fail;go_ret;exact⟨rfl,zO _ _⟩
theorem Qnj (a:Option Us)(n c:Nat)(f t:Nat ->Int)(q:Int)(w:Ur)(hn:n<=1000000)(h:SS w a n f t)(hm:∀i j,i<j ->j<n ->t i<t j):
  Cl 229 #[Uf a n c,Ud q,.func (.func 230) #[] #[]] w fun e w'=>∃(i:Nat) (b:Bool),e=Ui (Ul #[Ud i,Un b])/\ i<=n/\ (∀j,j<i ->t j<q)/\ (∀j,i<=j ->j<n ->q<=t j)/\ Bl w w':=by
 go_enter func229,ntmps229;go_wp2_with fail;go_loopw [9,10] (fun vi vj wr=>∃i j:Nat,i<=j/\ j<=n/\ vi=Ud i/\ vj=Ud j/\ (∀k,k<i ->t k<q)/\ (∀k,j<=k ->k<n ->q<=t k)/\ Bl w wr) (fun vi vj _=>(intOf vj).toNat - (intOf vi).toNat);case atStart=>exact⟨0,n,Uv _,Uu _,rfl,rfl,fun k hk=>oM,fun k h1 h2=>oM,zI⟩
 case round=>
  obtain⟨i,j,K,I,rfl,rfl,M,E,r⟩:=hrel;have Q:=hid M;have O:=hid E;have V:=hid hm;have z:=hid r;rcases h with h|⟨b,off,rfl,A,u⟩
  ·have G:i=0:=oM;have H:j=0:=oM;subst h G H;clear M E r hm;go_wp2_with fail;go_ret2;exact⟨0,false,rfl,oM,fun k hk=>oM,fun k _ hk=>oM,z⟩
  by_cases N:i<j
  ·obtain⟨m,J⟩:∃m:Nat,m=(i+j)/2:=⟨_,rfl⟩;have Y:((i:Int)+(j:Int))/2=(m:Int):=oM;have o:=(r.cell (p:=(Ua b (off+m*2))) A).trans (u m oM).1;have s:=(r.cell (p:=(Ua b (off+m*2+1))) A).trans (u m oM).2;have X:i<=m:=oM;have B:m<j:=oM;clear M E r hm u J;go_wp2_with fail;refine(Qm4 (f m) (t m) q _).mono ?_;rintro e w2 ⟨rfl,v⟩;have g:=hid (Qaa z v);clear v;by_cases y:t m<q
   ·rw [show QaV (t m) q= -1 from if_pos y];have U:Hid (∀k,k<m+1 ->t k<q):=fun k hk=>by
     by_cases e:k=m
     ·subst e;exact y
     ·have:=V k m oM oM;omega
    clear o s y Y;go_wp2_with fail;go_roundw;case rel=>exact⟨m+1,j,oM,I,oN,rfl,U,O,g⟩
    case measure=>exact oE
   ·have Z:0<=QaV (t m) q:=(by unfold QaV;rw [if_neg y];split<;>omega);generalize QaV (t m) q=cv at Z;have U:Hid (∀k,m<=k ->k<n ->q<=t k):=fun k h1 h2=>by
     by_cases e:k=m
     ·subst e;omega
     ·have:=V m k oM oM;omega
    clear o s y Y;go_wp2_with fail;go_roundw;case rel=>exact⟨i,m,oM,oM,rfl,rfl,Q,U,g⟩
    case measure=>exact oE
  ·obtain rfl:i=j:=oM;clear M E hm;by_cases L:i<n
   ·have o:=(r.cell (p:=(Ua b (off+i*2))) A).trans (u i oM).1;have s:=(r.cell (p:=(Ua b (off+i*2+1))) A).trans (u i oM).2;clear u r;go_wp2_with fail;refine(Qm4 (f i) (t i) q _).mono ?_;rintro e w2 ⟨rfl,v⟩;have g:=hid (Qaa z v);clear v o s;generalize QaV (t i) q=cv;go_wp2_with fail;go_ret2;exact⟨i,cv==0,rfl,oM,Q,O,g⟩
   ·clear u r;go_wp2_with fail;go_ret2;exact⟨i,false,rfl,oM,Q,O,z⟩
def inB (l:List (Int×Int))(f t:Int):Bool:=l.any fun p=>decide (p.1<=f/\ t<=p.2)
theorem Qpq {l:List (Int×Int)}(h:Srt l)(f t:Int)(i:Nat)(hi:i<=l.length)(hlo:∀j,j<i ->(l.getD j (0,0)).2<t)(hhi:∀j,i<=j ->j<l.length ->t<=(l.getD j (0,0)).2):
  inB l f t=(decide (i<l.length) && decide ((l.getD i (0,0)).1<=f)):=by
 rw [Bool.eq_iff_iff];simp only [inB,List.any_eq_true,decide_eq_true_iff,Bool.and_eq_true];constructor
 ·rintro⟨p,y,k,r⟩;obtain⟨j,u,rfl⟩:=List.getElem_of_mem y;have m:l.getD j (0,0)=l[j]:=by simp [UR,u]
  have z:i<=j:=by
   by_cases v:j<i
   ·have:=hlo j v;rw [m] at this;omega
   ·omega
  refine⟨oM,?_⟩;by_cases e:i=j
  ·subst e;rw [m];exact k
  ·have:=Qh0 h (show i<j by omega) u;rw [m] at this;omega
 ·rintro⟨k,r⟩;have q:l.getD i (0,0)=l[i]:=by simp [UR,k]
  refine⟨l[i],UW _,?_,?_⟩
  ·rw [<- q];exact r
  ·rw [<- q];exact hhi i zL k
def LkR (w:Ur)(bm:Nat)(r:Int)(v:Value)(l:List (Int×Int)):Prop:=∀w',Bl w w' ->(Instr.lookup 174 (.map (Uq bm)) (Ud r) false).run prog w'=.ok v w'/\∃B,w'.ownsRow B 255 2 v l.length (Qan l)
theorem LkR.bw{l:List (Int×Int)}(h:LkR w bm r v l)(hb:Bl w w1):LkR w1 bm r v l:=fun w' h'=>h w' (Qaa hb h')
theorem Qn1{l:List (Int×Int)}(h:LkR w bm r v l)(f t:Int)(hs:Srt l)(hl:l.length<=1000000):
  Cl 205 #[.map (Uq bm),Ud r,Uo #[Ud f,Ud t]] w (Rt w (Un (inB l f t))):=by
 obtain⟨k,u⟩:=zE (w.alloc (Uj #[Ud f,Ud t] 255));have o:Bl w k:=u▸zO _ _;have z0:k.heap.size=w.heap.size+1:=u▸oP;have x0:k.cell? (Ub w.heap.size)=Uq (Ud f):=u▸oP;have J:k.cell? (Ua w.heap.size 1)=Uq (Ud t):=u▸oP;obtain⟨Y,N,b⟩:=h k o;obtain⟨a,c,e,I,W⟩:∃a c,v=Uf a l.length c/\ SS k a l.length (fun i=>(l.getD i (0,0)).1) (fun i=>(l.getD i (0,0)).2)/\ (l.length≠0 ->∃g,a=Uq (Ub g)):=by
  rcases b.2 with ⟨e,O⟩|⟨g,cap,X,e,_⟩
  ·exact⟨Up,0,by rw [e,O],.inl O,fun h=>absurd O h⟩
  ·exact⟨_,cap,e,by rw [e] at b;exact QkD b rfl,fun _=>⟨g,rfl⟩⟩
 rw [e] at Y;have z:=hid I;have E:=hid (Qpq hs f t);have M:Hid (∀i j,i<j ->j<l.length ->(fun i=>(l.getD i (0,0)).2) i<(fun i=>(l.getD i (0,0)).2) j):=fun i j hij hj=>by
  have:=Qh0 hs hij hj;show (l.getD i (0,0)).2<(l.getD j (0,0)).2;omega
 clear e b h hs I;generalize T:l.length=m at*;go_enter func205,ntmps205;go_wp2_with fail;try rw [u]
 refine(Qnj a m c _ _ t _ oM z M).mono ?_;rintro e w2 ⟨i,B,rfl,hi,Z,U,q⟩;clear u;have A:=hid (E i hi Z U);have G:=(q.cell (p:=(Ub w.heap.size)) (show w.heap.size<k.heap.size by omega)).trans x0;have s:=hid (Qaa o q);by_cases V:i<m
 ·have L:∃g off,a=Uq (Ua g off)/\ g<w2.heap.size/\ w2.cell? (Ua g (off+i*2))=Uq (Ud (l.getD i (0,0)).1):=by
   rcases z.out with h|⟨g,off,rfl,Q,K⟩
   ·omega
   ·exact⟨g,off,rfl,Ut Q q.size,(q.cell (p:=(Ua g (off+i*2))) Q).trans (K i V).1⟩
  obtain⟨g,off,rfl,Q,H⟩:=L;have D:(0:Int)<=(i:Int):=UZ _;have F:(i:Int)<(m:Int):=oM;generalize C:(l.getD i (0,0)).1=fi at*;clear Z U q x0 J Y z M E o;cases hle:decide (fi<=f) with
  | false=>
   have y:Hid (inB l f t=false):=(by unfold Hid;rw [A.out,hle];simp);go_wp2_with fail;refine zR (S:=fun w'=>w'.cell? (Ub w.heap.size)=Uq (Ud f)/\ w'.cell? (Ua g (off+i*2))=Uq (Ud fi)) ⟨G,H⟩ (fun qh=> ?_);refine tZ 0 20 ?_;refine tZ 1 21 ?_;refine tZ 2 22 ?_;refine tZ 3 23 ?_;refine tZ 4 24 ?_;refine tZ 5 25 ?_;refine tZ 6 26 ?_;refine tZ 7 27 ?_;refine tZ 8 28 ?_;refine tZ 9 29 ?_;refine tZ 10 30 ?_;refine tZ 11 31 ?_;refine tZ 12 32 ?_;refine tZ 13 33 ?_;refine tZ 14 6 ?_;refine zD ?_;go_wp2_with fail;go_ret;exact⟨QbW y.symm,s.drew⟩
  | true=>
   have y:Hid (inB l f t=true):=(by unfold Hid;rw [A.out,hle];simp [V]);go_wp2_with fail;refine zR (S:=fun w'=>w'.cell? (Ub w.heap.size)=Uq (Ud f)/\ w'.cell? (Ua g (off+i*2))=Uq (Ud fi)) ⟨G,H⟩ (fun qh=> ?_);refine tZ 0 20 ?_;refine tZ 1 21 ?_;refine tZ 2 22 ?_;refine tZ 3 23 ?_;refine tZ 4 24 ?_;refine tZ 5 25 ?_;refine tZ 6 26 ?_;refine tZ 7 27 ?_;refine tZ 8 28 ?_;refine tZ 9 29 ?_;refine tZ 10 30 ?_;refine tZ 11 31 ?_;refine tZ 12 32 ?_;refine tZ 13 33 ?_;refine tZ 14 6 ?_;refine zD ?_;go_wp2_with fail;go_ret;exact⟨QbW y.symm,s.drew⟩
 ·have y:Hid (inB l f t=false):=by unfold Hid;rw [A.out];simp [V]
  have P:decide ((i:Int)<(m:Int))=false:=oS;have R:decide (i<m)=false:=oS;clear Z U q x0 J Y z M E o;go_wp2_with fail;refine zR (S:=fun w'=>w'.cell? (Ub w.heap.size)=Uq (Ud f)) G (fun qh=> ?_);refine tZ 0 20 ?_;refine tZ 1 21 ?_;refine tZ 2 22 ?_;refine tZ 3 23 ?_;refine tZ 4 24 ?_;refine uZ 5 25 ?_;refine uZ 6 26 ?_;refine uZ 7 27 ?_;refine uZ 8 28 ?_;refine uZ 9 29 ?_;refine uZ 10 30 ?_;refine uZ 11 31 ?_;refine uZ 12 32 ?_;refine tZ 13 33 ?_;refine tZ 14 6 ?_;refine zD ?_;go_wp2_with fail;go_ret;exact⟨QbW y.symm,s.drew⟩
theorem Qpk{l:List (Int×Int)}(h:LkR w bm r v l)(q:Int)(hs:Srt l)(hl:l.length<=1000000):
  Cl 178 #[.map (Uq bm),Uo #[Ud r,Ud q]] w (Rt w (Un (inB l q q))):=by
 have j:Bl w (w.alloc (Uj #[Ud r,Ud q] 115)):=zO _ _;have k:=hid (Qn1 (h.bw j) q q hs hl);have u:=hid j;clear j h hs;go_enter func178,ntmps178;go_wp2_with fail;refine k.mono ?_;rintro e w1 ⟨rfl,m⟩;have y:=hid (Qaa u m);clear m k;go_wp2_with fail;go_ret;exact⟨rfl,y⟩
theorem QaM.lk{D:DataW Value}{G:Int ->Value}(h:QaM w bm n D G L)(r:Int)(hr:(Lit.int Uh r).wf=true):LkR w bm r (G r) (L r):=fun w' hb=>⟨(h.bw hb).look r hr,_,(h.bw hb).rows r⟩
theorem Qqx{D:DataW Value}{G:Int ->Value}(h:QaM w bm n D G L)(r q:Int)(hr:(Lit.int Uh r).wf=true)(hs:Srt (L r))(hl:(L r).length<=1000000):
  Cl 178 #[.map (Uq bm),Uo #[Ud r,Ud q]] w (Rt w (Un (inB (L r) q q))):=Qpk (h.lk r hr) q hs hl
def QbD (R F T:Nat ->Int)(r f t:Int):Nat ->Bool
 | 0=>false
 | k+1=>QbD R F T r f t k||decide (R k=r/\ F k<=f/\ t<=T k)
theorem Qf5 (R F T:Nat ->Int)(r f t:Int)(k:Nat):inB (Lk R F T k r) f t=QbD R F T r f t k:=by
 induction k with
 | zero=>rfl
 | succ k ih=>
  show inB (upd (Lk R F T k) (R k) (Lk R F T k (R k)++[(F k,T k)]) r) f t=(QbD R F T r f t k||decide (R k=r/\ F k<=f/\ t<=T k));by_cases e:r=R k
  ·subst e;rw [Qap,<- ih];simp [inB]
  ·rw [Qai _ _ e,ih];have:decide (R k=r/\ F k<=f/\ t<=T k)=false:=(by simp;intro h;exact absurd h.symm e);rw [this];simp
theorem Qf4{f t:Int}(hk:k<n)(h:R k=r/\ F k<=f/\ t<=T k):QbD R F T r f t n=true:=by
 induction n with
 | zero=>omega
 | succ n ih=>
  simp only [QbD,Bool.or_eq_true,decide_eq_true_iff];by_cases e:k=n
  ·subst e;exact .inr h
  ·exact .inl (ih oM)
theorem Qeh{f t:Int}(h:QbD R F T r f t k=false)(h2:¬(R k=r/\ F k<=f/\ t<=T k)):QbD R F T r f t (k+1)=false:=by
 simp only [QbD,h,Bool.false_or,decide_eq_false_iff_not];exact h2
theorem QnA (a:Option Us)(n c:Nat)(R F T:Nat ->Int)(r q:Int)(w:Ur)(hn:n<=1048576)(h:QaD w a n R F T):
  Cl 71 #[Uo #[Uf a n c],Uo #[Ud r,Ud q]] w (Rt w (Un (QbD R F T r q q n))):=by
 obtain⟨j,v⟩:=zE ((w.alloc (Uj #[Uf a n c] 38)).alloc (Uj #[Ud r,Ud q] 115));have Y:Bl w j:=v▸Qak _ _ _;have H:j.cell? (Ub w.heap.size)=Uq (Uf a n c):=v▸oP;have x0:j.cell? (Ua (w.heap.size+1) 0)=Uq (Ud r):=v▸oP;have J:j.cell? (Ua (w.heap.size+1) 1)=Uq (Ud q):=v▸oP;have W:j.heap.size=w.heap.size+2:=v▸oP;have Z:=h.bw Y;clear h;go_enter func71,ntmps71;go_wp2_with fail;try rw [v]
 clear v;go_loopw [5] (fun i wr=>∃k:Nat,k<=n/\ i=Ud k/\ QbD R F T r q q k=false/\ Bl j wr) (fun i _=>n - (intOf i).toNat);case atStart=>exact⟨0,Uv _,rfl,rfl,zI⟩
 case round=>
  obtain⟨k,C,rfl,I,m⟩:=hrel;have A:=(m.cell (p:=(Ub w.heap.size)) (show w.heap.size<j.heap.size by omega)).trans H;have U:=(m.cell (p:=(Ua (w.heap.size+1) 0)) (show w.heap.size+1<j.heap.size by omega)).trans x0;have V:=(m.cell (p:=(Ua (w.heap.size+1) 1)) (show w.heap.size+1<j.heap.size by omega)).trans J;have g:=hid m;have s:=hid I;by_cases y:k<n
  ·rcases Z with Z|⟨b,off,rfl,G,Q⟩
   ·omega
   have E:=(m.cell (p:=(Ua b (off+k*3))) G).trans (Q k y).1;have M:=(m.cell (p:=(Ua b (off+k*3+1))) G).trans (Q k y).2.1;have O:=(m.cell (p:=(Ua b (off+k*3+2))) G).trans (Q k y).2.2;have D:(0:Int)<=(k:Int):=UZ _;have P:(k:Int)<(n:Int):=oM;clear Q m I H x0 J;by_cases z:R k=r
   ·have N:(R k==r)=true:=(by simp;exact z);have K:=hid z;clear z;by_cases t:F k<=q
    ·have X:decide (F k<=q)=true:=(by simp;exact t);have L:=hid t;clear t;by_cases o:q<=T k
     ·have B:decide (q<=T k)=true:=(by simp;exact o);have u:=hid (Qf4 (n:=n) y ⟨K,L,o⟩);clear o;go_wp2_with fail;refine zR (S:=fun w'=>w'.cell? (Ub w.heap.size)=Uq (Uf (Uq (Ua b off)) n c)/\ w'.cell? (Ua (w.heap.size+1) 0)=Uq (Ud r)/\ w'.cell? (Ua (w.heap.size+1) 1)=Uq (Ud q)/\ w'.cell? (Ua b (off+k*3))=Uq (Ud (R k))/\ w'.cell? (Ua b (off+k*3+1))=Uq (Ud (F k))/\ w'.cell? (Ua b (off+k*3+2))=Uq (Ud (T k))) ⟨A,U,V,E,M,O⟩ (fun qh=> ?_);refine tZ 0 13 ?_;refine tZ 1 14 ?_;refine tZ 2 15 ?_;refine tZ 3 16 ?_;refine tZ 4 17 ?_;refine tZ 5 18 ?_;refine tZ 6 19 ?_;refine tZ 7 20 ?_;refine tZ 8 21 ?_;refine tZ 9 22 ?_;refine tZ 10 23 ?_;refine tZ 11 24 ?_;refine tZ 12 25 ?_;refine tZ 13 26 ?_;refine tZ 14 27 ?_;refine tZ 15 28 ?_;refine tZ 16 29 ?_;refine tZ 17 30 ?_;refine tZ 18 31 ?_;refine tZ 19 32 ?_;refine tZ 20 33 ?_;refine tZ 21 34 ?_;refine tZ 22 35 ?_;refine tZ 23 36 ?_;refine tZ 24 37 ?_;refine tZ 25 38 ?_;refine tZ 26 39 ?_;refine tZ 27 40 ?_;refine tZ 28 41 ?_;refine tZ 29 42 ?_;refine tZ 30 43 ?_;refine zD ?_;go_wp2_with fail;go_ret;exact⟨QbW u.symm,(Y.trans (g.mono oM)).drew⟩
     ·have B:decide (q<=T k)=false:=oS;have u:=hid (Qeh s (fun hh=>o hh.2.2));clear o;go_wp2_with fail;refine zR (S:=fun w'=>w'.cell? (Ub w.heap.size)=Uq (Uf (Uq (Ua b off)) n c)/\ w'.cell? (Ua (w.heap.size+1) 0)=Uq (Ud r)/\ w'.cell? (Ua (w.heap.size+1) 1)=Uq (Ud q)/\ w'.cell? (Ua b (off+k*3))=Uq (Ud (R k))/\ w'.cell? (Ua b (off+k*3+1))=Uq (Ud (F k))/\ w'.cell? (Ua b (off+k*3+2))=Uq (Ud (T k))) ⟨A,U,V,E,M,O⟩ (fun qh=> ?_);refine tZ 0 13 ?_;refine tZ 1 14 ?_;refine tZ 2 15 ?_;refine tZ 3 16 ?_;refine tZ 4 17 ?_;refine tZ 5 18 ?_;refine tZ 6 19 ?_;refine tZ 7 20 ?_;refine tZ 8 21 ?_;refine tZ 9 22 ?_;refine tZ 10 23 ?_;refine tZ 11 24 ?_;refine tZ 12 25 ?_;refine tZ 13 26 ?_;refine tZ 14 27 ?_;refine tZ 15 28 ?_;refine tZ 16 29 ?_;refine tZ 17 30 ?_;refine tZ 18 31 ?_;refine tZ 19 32 ?_;refine tZ 20 33 ?_;refine tZ 21 34 ?_;refine tZ 22 35 ?_;refine tZ 23 36 ?_;refine tZ 24 37 ?_;refine tZ 25 38 ?_;refine tZ 26 39 ?_;refine tZ 27 40 ?_;refine tZ 28 41 ?_;refine tZ 29 42 ?_;refine tZ 30 43 ?_;refine zD ?_;go_wp2_with fail;go_roundw;case rel=>exact⟨k+1,y,oN,u,g.drew⟩
      case measure=>exact oE
    ·have X:decide (F k<=q)=false:=oS;have u:=hid (Qeh s (fun hh=>t hh.2.1));clear t;go_wp2_with fail;refine zR (S:=fun w'=>w'.cell? (Ub w.heap.size)=Uq (Uf (Uq (Ua b off)) n c)/\ w'.cell? (Ua (w.heap.size+1) 0)=Uq (Ud r)/\ w'.cell? (Ua (w.heap.size+1) 1)=Uq (Ud q)/\ w'.cell? (Ua b (off+k*3))=Uq (Ud (R k))/\ w'.cell? (Ua b (off+k*3+1))=Uq (Ud (F k))/\ w'.cell? (Ua b (off+k*3+2))=Uq (Ud (T k))) ⟨A,U,V,E,M,O⟩ (fun qh=> ?_);refine tZ 0 13 ?_;refine tZ 1 14 ?_;refine tZ 2 15 ?_;refine tZ 3 16 ?_;refine tZ 4 17 ?_;refine tZ 5 18 ?_;refine tZ 6 19 ?_;refine tZ 7 20 ?_;refine tZ 8 21 ?_;refine tZ 9 22 ?_;refine tZ 10 23 ?_;refine tZ 11 24 ?_;refine tZ 12 25 ?_;refine tZ 13 26 ?_;refine tZ 14 27 ?_;refine tZ 15 28 ?_;refine tZ 16 29 ?_;refine tZ 17 30 ?_;refine tZ 18 31 ?_;refine tZ 19 32 ?_;refine tZ 20 33 ?_;refine uZ 21 34 ?_;refine uZ 22 35 ?_;refine uZ 23 36 ?_;refine uZ 24 37 ?_;refine uZ 25 38 ?_;refine uZ 26 39 ?_;refine uZ 27 40 ?_;refine uZ 28 41 ?_;refine uZ 29 42 ?_;refine tZ 30 43 ?_;refine zD ?_;go_wp2_with fail;go_roundw;case rel=>exact⟨k+1,y,oN,u,g.drew⟩
     case measure=>exact oE
   ·have N:(R k==r)=false:=(by simp;exact z);have u:=hid (Qeh s (fun hh=>z hh.1));clear z;go_wp2_with fail;refine zR (S:=fun w'=>w'.cell? (Ub w.heap.size)=Uq (Uf (Uq (Ua b off)) n c)/\ w'.cell? (Ua (w.heap.size+1) 0)=Uq (Ud r)/\ w'.cell? (Ua (w.heap.size+1) 1)=Uq (Ud q)/\ w'.cell? (Ua b (off+k*3))=Uq (Ud (R k))/\ w'.cell? (Ua b (off+k*3+1))=Uq (Ud (F k))/\ w'.cell? (Ua b (off+k*3+2))=Uq (Ud (T k))) ⟨A,U,V,E,M,O⟩ (fun qh=> ?_);refine tZ 0 13 ?_;refine tZ 1 14 ?_;refine tZ 2 15 ?_;refine tZ 3 16 ?_;refine tZ 4 17 ?_;refine tZ 5 18 ?_;refine tZ 6 19 ?_;refine tZ 7 20 ?_;refine tZ 8 21 ?_;refine tZ 9 22 ?_;refine uZ 10 23 ?_;refine uZ 11 24 ?_;refine uZ 12 25 ?_;refine uZ 13 26 ?_;refine uZ 14 27 ?_;refine uZ 15 28 ?_;refine uZ 16 29 ?_;refine uZ 17 30 ?_;refine uZ 18 31 ?_;refine tZ 19 32 ?_;refine tZ 20 33 ?_;refine uZ 21 34 ?_;refine uZ 22 35 ?_;refine uZ 23 36 ?_;refine uZ 24 37 ?_;refine uZ 25 38 ?_;refine uZ 26 39 ?_;refine uZ 27 40 ?_;refine uZ 28 41 ?_;refine uZ 29 42 ?_;refine tZ 30 43 ?_;refine zD ?_;go_wp2_with fail;go_roundw;case rel=>exact⟨k+1,y,oN,u,g.drew⟩
    case measure=>exact oE
  ·obtain rfl:k=n:=oM;clear m I H x0 J Z;go_wp2_with fail;go_ret;exact⟨QbW s.symm,Y.trans (g.mono oM)⟩
def nz (f:Nat ->Int):Nat ->Nat ->Int
 | 0,_=>0
 | n+1,k=>if f k=0 then nz f n (k+1) else f k
theorem QnX {f:Nat ->Int}(h:k<n):nz f (n - k) k=if f k=0 then nz f (n - (k+1)) (k+1) else f k:=by
 rw [show n - k=(n - (k+1))+1 by omega];rfl
theorem Qjn (b n c:Nat)(f:Nat ->Int)(w:Ur)(hn:n<=1000)(h:∀i,i<n ->w.cell? (Ua b i)=Uq (Ud (f i))):
  Cl 183 #[Uf (Uc b) n c] w fun e w'=>e=Ui (Ud (nz f n 0))/\ w'=w:=by
 go_enter func183,ntmps183;go_wp2_with fail;go_loop [8] (fun i=>∃k:Nat,k<=n/\ i=Ud (k:Int)/\ Hid (nz f n 0=nz f (n - k) k)) (fun i=>n - (intOf i).toNat);case atStart=>exact⟨0,Uv _,rfl,hid rfl⟩
 case round=>
  obtain⟨k,v,rfl,m⟩:=hrel;by_cases r:k<n
  ·have x0:=h k r;have y:(0:Int)<=(k:Int):=UZ _;have z:(k:Int)<(n:Int):=oM;have j:Hid (nz f n 0=if f k=0 then nz f (n - (k+1)) (k+1) else f k):=hid (by rw [m.out,QnX r]);obtain⟨x,u⟩:=zE (f k);rw [u] at x0 j;clear h u m;by_cases q:x=0
   ·subst q;have j:Hid (nz f n 0=nz f (n - (k+1)) (k+1)):=hid (by rw [j.out,if_pos rfl]);go_wp2_with fail;go_round;case rel=>exact⟨k+1,r,oN,j⟩
    case measure=>exact oE
   ·have j:Hid (nz f n 0=x):=hid (by rw [j.out,if_neg q]);have g:(x !=0)=true:=oU q;go_wp2_with fail;go_ret;exact⟨QbG j.symm,rfl⟩
  ·obtain rfl:k=n:=oM;have j:Hid (nz f k 0=0):=hid (by rw [m.out,Nat.sub_self];rfl);clear h m;go_wp2_with fail;go_ret;exact⟨QbG j.symm,rfl⟩
def orI (x y:Int):Int:=if x=0 then y else x
theorem nz2 {f:Nat ->Int}:nz f 2 0=orI (f 0) (f 1):=by
 unfold orI nz;by_cases h:f 0=0
 ·rw [if_pos h,if_pos h];unfold nz;by_cases j:f 1=0
  ·rw [if_pos j,j];rfl
  ·rw [if_neg j]
 ·rw [if_neg h,if_neg h]
theorem nz3 {f:Nat ->Int}:nz f 3 0=orI (f 0) (orI (f 1) (f 2)):=by
 unfold orI nz;by_cases h:f 0=0
 ·rw [if_pos h,if_pos h];unfold nz;by_cases j:f 1=0
  ·rw [if_pos j,if_pos j];unfold nz;by_cases k:f 2=0
   ·rw [if_pos k,k];rfl
   ·rw [if_neg k]
  ·rw [if_neg j,if_neg j]
 ·rw [if_neg h,if_neg h]
def kd (fl:Bool):Int:=if fl=true then 2 else 1
def Qms (r q r' q':Int):Int:=orI (QaV r r') (QaV q q')
def QaQ (x y:Lf):Int:=orI (QaN x.p y.p) (orI (QaV (kd x.fl) (kd y.fl)) (Qms x.r x.q y.r y.q))
theorem QfC (v0:Value)(fl:Bool)(v2 v3 v4:Value)(w:Ur):Cl 140 #[Uo #[v0,Un fl,v2,v3,v4]] w (Rt w (Ud (kd fl))):=by
 have j:=hid (zO w (Uj #[v0,Un fl,v2,v3,v4] 117));cases fl
 ·go_enter func140,ntmps140;go_wp2_with fail;go_ret;exact⟨rfl,j⟩
 ·go_enter func140,ntmps140;go_wp2_with fail;go_ret;exact⟨rfl,j⟩
theorem QdX (r q r' q':Int)(w:Ur):Cl 175 #[Uo #[Ud r,Ud q],Uo #[Ud r',Ud q']] w (Rt w (Ud (Qms r q r' q'))):=by
 obtain⟨W,m⟩:=zE ((w.alloc (Uj #[Ud r,Ud q] 115)).alloc (Uj #[Ud r',Ud q'] 115));have z:Bl w W:=m▸Qak _ _ _;have s:W.heap.size=w.heap.size+2:=m▸oP;have k0:W.cell? (Ub w.heap.size)=Uq (Ud r):=m▸oP;have t:W.cell? (Ua w.heap.size 1)=Uq (Ud q):=m▸oP;have o:W.cell? (Ua (w.heap.size+1) 0)=Uq (Ud r'):=m▸oP;have b:W.cell? (Ua (w.heap.size+1) 1)=Uq (Ud q'):=m▸oP;have v:=hid z;have z0:w.heap.size<W.heap.size:=oM;have h:w.heap.size+1<W.heap.size:=oM;clear z s;go_enter func175,ntmps175;go_wp2_with fail;try rw [m]
 clear m;have u:∀w',Bl W w' ->(Bl W w'/\ w'.cell? (Ub w.heap.size)=Uq (Ud r)/\ w'.cell? (Ua w.heap.size 1)=Uq (Ud q)/\ w'.cell? (Ua (w.heap.size+1) 0)=Uq (Ud r')/\ w'.cell? (Ua (w.heap.size+1) 1)=Uq (Ud q')):=fun w' k=>⟨k,(k.cell (p:=(Ub w.heap.size)) z0).trans k0,(k.cell (p:=(Ua w.heap.size 1)) z0).trans t,(k.cell (p:=(Ua (w.heap.size+1) 0)) h).trans o,(k.cell (p:=(Ua (w.heap.size+1) 1)) h).trans b⟩;have y:=hid u;clear u;refine zS y (fun qh=> ?_);refine tZ 0 5 ?_;refine tZ 1 6 ?_;refine tZ 2 7 ?_;refine tZ 3 8 ?_;refine tZ 5 10 ?_;refine tZ 6 11 ?_;refine tZ 7 12 ?_;refine tZ 8 13 ?_;refine cZ 4 ?_;intro K j;go_simp;refine(Qcb r r' _).mono ?_;rintro e w1 ⟨rfl,rfl⟩;refine j.out _ _ qh (fun qh=> ?_);clear j K;try simp only [zP]
 refine cZ 9 ?_;intro K j;go_simp;refine(Qcb q q' _).mono ?_;rintro e w2 ⟨rfl,rfl⟩;refine j.out _ _ qh (fun qh=> ?_);clear j K;try simp only [zP]
 refine cZ 10 ?_;intro K j;go_simp;have k:=qh.1.alloc qh.1.size (Uj #[Ud (QaV r r'),Ud (QaV q q')] 3);refine j.out _ _ (y _ k) (fun qh=> ?_);clear j K;try simp only [zP]
 refine cZ 11 ?_;intro K j;go_simp;refine(Qjn _ 2 2 (fun i=>if i=0 then QaV r r' else QaV q q') _ oM (fun i hi=> ?_)).mono ?_
 ·match i,hi with
  | 0,_=>simp
  | 1,_=>simp
 rintro e A ⟨rfl,rfl⟩;refine j.out _ _ qh (fun qh=> ?_);clear j K;try simp only [zP]
 refine tZ 12 4 ?_;refine zD ?_;have g:=hid (v.trans (qh.1.mono v.size));clear qh k;go_wp2_with fail;go_ret;exact⟨QbG nz2,g⟩
theorem Qfx (a a':Option Us)(c c':Nat)(p p':List ByteArray)(fl fl':Bool)(r q r' q':Int)(v v':ByteArray)(w:Ur)(hn:p.length<=1048576)(hn':p'.length<=1048576)(h:QaI w a p)(h':QaI w a' p'):
  Cl 179 #[Uo #[Uf a p.length c,Un fl,Ud r,Ud q,Um v],Uo #[Uf a' p'.length c',Un fl',Ud r',Ud q',Um v']] w (Rt w (Ud (QaQ ⟨p,fl,r,q,v⟩ ⟨p',fl',r',q',v'⟩))):=by
 obtain⟨W,m⟩:=zE ((w.alloc (Uj #[Uf a p.length c,Un fl,Ud r,Ud q,Um v] 117)).alloc (Uj #[Uf a' p'.length c',Un fl',Ud r',Ud q',Um v'] 117));have z:Bl w W:=m▸Qak _ _ _;have X:W.heap.size=w.heap.size+2:=m▸oP;have k0:W.cell? (Ub w.heap.size)=Uq (Uf a p.length c):=m▸oP;have V:W.cell? (Ua w.heap.size 1)=Uq (Un fl):=m▸oP;have Y:W.cell? (Ua w.heap.size 2)=Uq (Ud r):=m▸oP;have Z:W.cell? (Ua w.heap.size 3)=Uq (Ud q):=m▸oP;have G:W.cell? (Ua w.heap.size 4)=Uq (Um v):=m▸oP;have H:W.cell? (Ua (w.heap.size+1) 0)=Uq (Uf a' p'.length c'):=m▸oP;have I:W.cell? (Ua (w.heap.size+1) 1)=Uq (Un fl'):=m▸oP;have J:W.cell? (Ua (w.heap.size+1) 2)=Uq (Ud r'):=m▸oP;have L:W.cell? (Ua (w.heap.size+1) 3)=Uq (Ud q'):=m▸oP;have N:W.cell? (Ua (w.heap.size+1) 4)=Uq (Um v'):=m▸oP;have t:=hid z;have z0:w.heap.size<W.heap.size:=oM;have y:w.heap.size+1<W.heap.size:=oM;have Q:=hid (h.bw z);have U:=hid (h'.bw z);clear z X h h';go_enter func179,ntmps179;go_wp2_with fail;try rw [m]
 clear m;have g:∀w',Bl W w' ->(Bl W w'/\ w'.cell? (Ub w.heap.size)=Uq (Uf a p.length c)/\ w'.cell? (Ua w.heap.size 1)=Uq (Un fl)/\ w'.cell? (Ua w.heap.size 2)=Uq (Ud r)/\ w'.cell? (Ua w.heap.size 3)=Uq (Ud q)/\ w'.cell? (Ua w.heap.size 4)=Uq (Um v)/\ w'.cell? (Ua (w.heap.size+1) 0)=Uq (Uf a' p'.length c')/\ w'.cell? (Ua (w.heap.size+1) 1)=Uq (Un fl')/\ w'.cell? (Ua (w.heap.size+1) 2)=Uq (Ud r')/\ w'.cell? (Ua (w.heap.size+1) 3)=Uq (Ud q')/\ w'.cell? (Ua (w.heap.size+1) 4)=Uq (Um v')):=fun w' k=>⟨k,(k.cell (p:=(Ub w.heap.size)) z0).trans k0,(k.cell (p:=(Ua w.heap.size 1)) z0).trans V,(k.cell (p:=(Ua w.heap.size 2)) z0).trans Y,(k.cell (p:=(Ua w.heap.size 3)) z0).trans Z,(k.cell (p:=(Ua w.heap.size 4)) z0).trans G,(k.cell (p:=(Ua (w.heap.size+1) 0)) y).trans H,(k.cell (p:=(Ua (w.heap.size+1) 1)) y).trans I,(k.cell (p:=(Ua (w.heap.size+1) 2)) y).trans J,(k.cell (p:=(Ua (w.heap.size+1) 3)) y).trans L,(k.cell (p:=(Ua (w.heap.size+1) 4)) y).trans N⟩;have u:=hid g;clear g;refine zS u (fun qh=> ?_);refine tZ 0 5 ?_;refine tZ 1 6 ?_;refine tZ 2 7 ?_;refine tZ 3 8 ?_;refine tZ 5 10 ?_;refine tZ 7 12 ?_;refine tZ 10 15 ?_;refine tZ 11 16 ?_;refine tZ 12 17 ?_;refine tZ 13 18 ?_;refine cZ 4 ?_;intro K j;go_simp;refine(Qnl p p' a a' c c' _ hn hn' (Q.bw qh.1) (U.bw qh.1)).mono ?_;rintro e w1 ⟨rfl,rfl⟩;refine j.out _ _ qh (fun qh=> ?_);clear j K;try simp only [zP]
 refine cZ 6 ?_;intro K j;go_simp;refine(QfC _ fl _ _ _ _).mono ?_;rintro e w2 ⟨rfl,o⟩;have A:=qh.1.trans (o.mono qh.1.size);refine j.out _ _ (u _ A) (fun qh=> ?_);clear j K;try simp only [zP]
 refine cZ 8 ?_;intro K j;go_simp;refine(QfC _ fl' _ _ _ _).mono ?_;rintro e B ⟨rfl,b⟩;have E:=qh.1.trans (b.mono qh.1.size);refine j.out _ _ (u _ E) (fun qh=> ?_);clear j K;try simp only [zP]
 refine cZ 9 ?_;intro K j;go_simp;refine(Qcb (kd fl) (kd fl') _).mono ?_;rintro e w4 ⟨rfl,rfl⟩;refine j.out _ _ qh (fun qh=> ?_);clear j K;try simp only [zP]
 refine cZ 14 ?_;intro K j;go_simp;refine(QdX r q r' q' _).mono ?_;rintro e C ⟨rfl,s⟩;have M:=qh.1.trans (s.mono qh.1.size);refine j.out _ _ (u _ M) (fun qh=> ?_);clear j K;try simp only [zP]
 refine cZ 15 ?_;intro K j;go_simp;have k:=qh.1.alloc qh.1.size (Uj #[Ud (QaN p p'),Ud (QaV (kd fl) (kd fl')),Ud (Qms r q r' q')] 3);refine j.out _ _ (u _ k) (fun qh=> ?_);clear j K;try simp only [zP]
 refine cZ 16 ?_;intro K j;go_simp;refine(Qjn _ 3 3 (fun i=>if i=0 then QaN p p' else if i=1 then QaV (kd fl) (kd fl') else Qms r q r' q') _ oM (fun i hi=> ?_)).mono ?_
 ·match i,hi with
  | 0,_=>simp
  | 1,_=>simp
  | 2,_=>simp
 rintro e D ⟨rfl,rfl⟩;refine j.out _ _ qh (fun qh=> ?_);clear j K;try simp only [zP]
 refine tZ 17 4 ?_;refine zD ?_;have O:=hid (t.trans (qh.1.mono t.size));clear qh k M E A s b o;go_wp2_with fail;go_ret;exact⟨QbG nz3,O⟩
theorem Qmf {P:Prop} [Decidable P]:yes P=decide P:=by
 by_cases h:P
 ·rw [Qal h,decide_eq_true h]
 ·rw [Qaj h,decide_eq_false h]
theorem Qft:QaV x y<0↔x<y:=by unfold QaV;split<;>(try split)<;>omega
theorem QeS:QaV x y=0↔x=y:=by unfold QaV;split<;>(try split)<;>omega
theorem QqY {p p':List ByteArray}{fl fl':Bool}{r q r' q':Int}{v v':ByteArray}:
  (QaN p p'≠0 ->yes (QaQ ⟨p,fl,r,q,v⟩ ⟨p',fl',r',q',v'⟩<0)=decide (QaN p p'<0))/\
  (QaN p p'=0 ->fl≠fl' ->yes (QaQ ⟨p,fl,r,q,v⟩ ⟨p',fl',r',q',v'⟩<0)=fl')/\
  (QaN p p'=0 ->fl=fl' ->r≠r' ->yes (QaQ ⟨p,fl,r,q,v⟩ ⟨p',fl',r',q',v'⟩<0)=decide (r<r'))/\
  (QaN p p'=0 ->fl=fl' ->r=r' ->yes (QaQ ⟨p,fl,r,q,v⟩ ⟨p',fl',r',q',v'⟩<0)=decide (q<q')):=by
 refine⟨fun h=> ?_,fun h hf=> ?_,fun h hf hr=> ?_,fun h hf hr=> ?_⟩
 ·rw [Qmf];simp only [QaQ,orI,if_neg h]
 ·have e:QaQ ⟨p,fl,r,q,v⟩ ⟨p',fl',r',q',v'⟩=QaV (kd fl) (kd fl'):=by
   have:QaV (kd fl) (kd fl')≠0:=(by rw [Ne,QeS];cases fl<;>cases fl'<;>simp_all [kd]);simp only [QaQ,orI,if_pos h,if_neg this]
  rw [e,Qmf];cases fl<;>cases fl'<;>simp_all [kd,QaV]
 ·have e:QaQ ⟨p,fl,r,q,v⟩ ⟨p',fl',r',q',v'⟩=QaV r r':=by
   have j:QaV (kd fl) (kd fl')=0:=(by rw [QeS,hf]);have k:QaV r r'≠0:=(by rw [Ne,QeS];exact hr);simp only [QaQ,orI,if_pos h,if_pos j,Qms,if_neg k]
  rw [e,Qmf];exact decide_eq_decide.2 Qft
 ·have e:QaQ ⟨p,fl,r,q,v⟩ ⟨p',fl',r',q',v'⟩=QaV q q':=by
   have j:QaV (kd fl) (kd fl')=0:=(by rw [QeS,hf]);have k:QaV r r'=0:=(by rw [QeS];exact hr);simp only [QaQ,orI,if_pos h,if_pos j,Qms,if_pos k]
  rw [e,Qmf];exact decide_eq_decide.2 Qft
theorem QhW (a a':Option Us)(c c':Nat)(p p':List ByteArray)(fl fl':Bool)(r q r' q':Int)(v v':ByteArray)(w:Ur)(hn:p.length<=1048576)(hn':p'.length<=1048576)(hc:p.length<=c)(hc':p'.length<=c')(M:c<=9223372036854775807)(hx':c'<=9223372036854775807)(h:QaI w a p)(h':QaI w a' p'):
  Cl 72 #[Uo #[Uf a p.length c,Un fl,Ud r,Ud q,Um v],Uo #[Uf a' p'.length c',Un fl',Ud r',Ud q',Um v']] w (Rt w (Un (yes (QaQ ⟨p,fl,r,q,v⟩ ⟨p',fl',r',q',v'⟩<0)))):=by
 obtain⟨W,j⟩:=zE ((w.alloc (Uj #[Uf a p.length c,Un fl,Ud r,Ud q,Um v] 117)).alloc (Uj #[Uf a' p'.length c',Un fl',Ud r',Ud q',Um v'] 117));have A:Bl w W:=j▸Qak _ _ _;have S:W.heap.size=w.heap.size+2:=j▸oP;have k0:W.cell? (Ub w.heap.size)=Uq (Uf a p.length c):=j▸oP;have H:W.cell? (Ua w.heap.size 1)=Uq (Un fl):=j▸oP;have I:W.cell? (Ua w.heap.size 2)=Uq (Ud r):=j▸oP;have J:W.cell? (Ua w.heap.size 3)=Uq (Ud q):=j▸oP;have D:W.cell? (Ua w.heap.size 4)=Uq (Um v):=j▸oP;have F:W.cell? (Ua (w.heap.size+1) 0)=Uq (Uf a' p'.length c'):=j▸oP;have K:W.cell? (Ua (w.heap.size+1) 1)=Uq (Un fl'):=j▸oP;have L:W.cell? (Ua (w.heap.size+1) 2)=Uq (Ud r'):=j▸oP;have N:W.cell? (Ua (w.heap.size+1) 3)=Uq (Ud q'):=j▸oP;have P:W.cell? (Ua (w.heap.size+1) 4)=Uq (Um v'):=j▸oP;have i:=hid A;have z0:w.heap.size<W.heap.size:=oM;have R:w.heap.size+1<W.heap.size:=oM;have O:=hid (QgP p p' a a' c c' W hc hc' M hx' (h.bw A) (h'.bw A));obtain⟨U,V,Y,Z⟩:=@QqY p p' fl fl' r q r' q' v v';have u:=hid U;have y:=hid V;have z:=hid Y;have g:=hid Z;obtain⟨B,Q⟩:=zE (yes (QaQ ⟨p,fl,r,q,v⟩ ⟨p',fl',r',q',v'⟩<0));obtain⟨x,M⟩:=zE (QaN p p');rw [Q] at u y z g;rw [M] at u y z g O;rw [Q];clear A S h h' U V Y Z Q M;go_enter func72,ntmps72;go_wp2_with fail;try rw [j]
 clear j;refine O.mono ?_;rintro e w1 ⟨rfl,k,m⟩;have T:w1.cell? (Ua w.heap.size 1)=Uq (Un fl):=by rw [m];exact H
 have Ha:w1.cell? (Ua w.heap.size 2)=Uq (Ud r):=by rw [m];exact I
 have Hb:w1.cell? (Ua w.heap.size 3)=Uq (Ud q):=by rw [m];exact J
 have Hc:w1.cell? (Ua (w.heap.size+1) 1)=Uq (Un fl'):=by rw [m];exact K
 have Hd:w1.cell? (Ua (w.heap.size+1) 2)=Uq (Ud r'):=by rw [m];exact L
 have He:w1.cell? (Ua (w.heap.size+1) 3)=Uq (Ud q'):=by rw [m];exact N
 have s:Hid (Bl w w1):=hid (by rw [m];exact⟨i.os,i.tape,i.output,i.size,i.block⟩);clear m k0 H I J D F K L N P O z0 R i;by_cases b:x=0
 ·have X:(x !=0)=false:=by simp [b]
  by_cases o:fl=fl'
  ·have G:(fl !=fl')=false:=(by simp [o]);by_cases E:r=r'
   ·have C:(r !=r')=false:=(by simp [E]);have t:=hid (g b o E);clear u y z g;go_wp2_with fail;go_ret;exact⟨Qa8 t.symm,s⟩
   ·have C:(r !=r')=true:=oU E;have t:=hid (z b o E);clear u y z g;go_wp2_with fail;go_ret;exact⟨Qa8 t.symm,s⟩
  ·have G:(fl !=fl')=true:=oU o;have t:=hid (y b o);clear u y z g G;cases fl<;>cases fl'<;>first
    | exact absurd rfl o
    | (clear o;go_wp2_with fail;go_ret;exact⟨Qa8 t.symm,s⟩)
 ·have X:(x !=0)=true:=oU b;have t:=hid (u b);clear u y z g;go_wp2_with fail;go_ret;exact⟨Qa8 t.symm,s⟩
def emB (v:ByteArray):Bool:=v.toList.isEmpty
def Qc0 (x:Lf):Prop:=Qb6 x.p/\ x.v.size<=200/\ (x.fl=true ->emB x.v=true)
theorem Qp2 (a:Option Us)(c:Nat)(p:List ByteArray)(fl:Bool)(r q:Int)(v:ByteArray)(w:Ur)(hn:p.length<=1048576)(h:QaI w a p):
  Cl 177 #[Uo #[Uf a p.length c,Un fl,Ud r,Ud q,Um v]] w (Rt w (Un (yes (Qc0 ⟨p,fl,r,q,v⟩)))):=by
 obtain⟨W,j⟩:=zE (w.alloc (Uj #[Uf a p.length c,Un fl,Ud r,Ud q,Um v] 117));have o:Bl w W:=j▸zO _ _;have k0:W.cell? (Ub w.heap.size)=Uq (Uf a p.length c):=j▸oP;have Q:W.cell? (Ua w.heap.size 1)=Uq (Un fl):=j▸oP;have U:W.cell? (Ua w.heap.size 4)=Uq (Um v):=j▸oP;have t:=hid (QlD p a c W hn (h.bw o));have y:=hid o;obtain⟨B,i⟩:=zE (yes (Qc0 ⟨p,fl,r,q,v⟩));have g:=hid i;rw [i];clear o h i;by_cases m:fl=true/\ emB v=false
 ·have M:v.toList.isEmpty=false:=m.2;have k:Hid (B=false):=hid (by rw [<- g.out];exact Qaj (fun h=>by have:=h.2.2 m.1;simp only at this;rw [m.2] at this;cases this));obtain⟨rfl,_⟩:=m;go_enter func177,ntmps177;go_wp2_with fail;try rw [j]
  clear j;go_wp2_with fail;go_ret;exact⟨Qa8 k.symm,y⟩
 ·have k:Hid (B=(yes (Qb6 p) && decide (v.size<=200))):=hid (by
   rw [<- g.out];have hi:fl=true ->emB v=true:=fun e=>by
    by_cases h:emB v=true
    ·exact h
    ·exact absurd ⟨e,oU h⟩ m
   by_cases u:Qb6 p
   ·by_cases z:v.size<=200
    ·rw [Qal ⟨u,z,hi⟩,Qal u,decide_eq_true z];rfl
    ·rw [Qaj (fun h=>z h.2.1),Qal u,decide_eq_false z];rfl
   ·rw [Qaj (fun h=>u h.1),Qaj u];rfl)
  obtain⟨Y,A⟩:=zE (yes (Qb6 p));rw [A] at k t;clear A g;have b:decide ((v.size:Int)<=200)=decide (v.size<=200):=decide_eq_decide.2 oM;obtain⟨Z,E⟩:=zE (decide (v.size<=200));rw [E] at k b;clear E;have s:∀(Y Z:Bool),B=(Y && Z) ->Y=false ->B=false:=fun Y Z h u=>by rw [h,u];rfl
  have O:=hid s;clear s;cases fl with
  | false=>
   clear m;go_enter func177,ntmps177;go_wp2_with fail;try rw [j]
   clear j;go_wp2_with fail;refine t.mono ?_;rintro e w1 ⟨rfl,rfl⟩;cases Y with
   | true=>
    go_wp2_with fail;go_ret;exact⟨Qa8 (by rw [k.out];simp [b]),y⟩
   | false=>
    go_wp2_with fail;go_ret;exact⟨Qa8 (by rw [k.out];rfl),y⟩
  | true=>
   have M:v.toList.isEmpty=true:=by
    by_cases h:emB v=true
    ·exact h
    ·exact absurd ⟨rfl,oU h⟩ m
   clear m;go_enter func177,ntmps177;go_wp2_with fail;try rw [j]
   clear j;go_wp2_with fail;refine t.mono ?_;rintro e w1 ⟨rfl,rfl⟩;cases Y with
   | true=>
    go_wp2_with fail;go_ret;exact⟨Qa8 (by rw [k.out];simp [b]),y⟩
   | false=>
    go_wp2_with fail;go_ret;exact⟨Qa8 (by rw [k.out];rfl),y⟩
theorem Qrc:prog.fieldsOf 115=match prog.underlying 115 with|some (.struct fs)=>fs|_=>#[]:=rfl
theorem Qlh:prog.stoodInHeld 115=false:=oK
theorem Qlg:prog.eqGuardType prog.depth 115=false:=oK
theorem Qmy (r q r' q':Int)(w:Ur):(binOp .eql 115 (Uo #[Ud r,Ud q]) (Uo #[Ud r',Ud q'])).run prog w=.ok (Un (r==r' && q==q')) w:=by
 rw [run_eql_struct,show (10000:Nat)=9999+1 from rfl,run_equalIn_agg _ _ _ _ _ oK Qlh,Qrc,underlying115];cases h1:(r==r')<;>simp [Op.eqFields,go_sem,underlying3,h1];by_cases j:q=q'<;>simp [j]
theorem Bx5.set2(h:Bx5 w b v0 v1 v2 v3 v4)(u:Value):Bx5 (w.setCell (Ua b 2) u) b v0 v1 u v3 v4:=
 ⟨by simp [UI,h.c0],by simp [UI,h.c1],UH _ _ _ h.c2,by simp [UI,h.c3],by simp [UI,h.c4],fun i=>by rw [UG];exact h.f i,by simp [UC];exact h.lt⟩
theorem Bx5.set3(h:Bx5 w b v0 v1 v2 v3 v4)(u:Value):Bx5 (w.setCell (Ua b 3) u) b v0 v1 v2 u v4:=
 ⟨by simp [UI,h.c0],by simp [UI,h.c1],by simp [UI,h.c2],UH _ _ _ h.c3,by simp [UI,h.c4],fun i=>by rw [UG];exact h.f i,by simp [UC];exact h.lt⟩
theorem Bx5.set4(h:Bx5 w b v0 v1 v2 v3 v4)(u:Value):Bx5 (w.setCell (Ua b 4) u) b v0 v1 v2 v3 u:=
 ⟨by simp [UI,h.c0],by simp [UI,h.c1],by simp [UI,h.c2],by simp [UI,h.c3],UH _ _ _ h.c4,fun i=>by rw [UG];exact h.f i,by simp [UC];exact h.lt⟩
def QbU (R F T:Nat ->Int)(n:Nat)(l:List Lf)(k:Nat):Prop:=∀i,i<k ->Qc0 (gL l i)/\ QbD R F T (gL l i).r (gL l i).q (gL l i).q n=true/\ (0<i ->QaQ (gL l (i - 1)) (gL l i)<0)
def Dif (x y:Lf):Prop:=¬(x.r=y.r/\ x.q=y.q)
def Dis (l:List Lf)(k:Nat):Prop:=∀i,i<k ->∀j,j<i ->Dif (gL l j) (gL l i)
def Qcn (R F T:Nat ->Int)(n:Nat)(l:List Lf):Prop:=QdC R F T n=true/\ l.length<=1000/\ QbU R F T n l l.length/\ Dis l l.length
theorem QbU.step{l:List Lf}(h:QbU R F T n l k)(h1:Qc0 (gL l k))(h2:QbD R F T (gL l k).r (gL l k).q (gL l k).q n=true)(h3:0<k ->QaQ (gL l (k - 1)) (gL l k)<0):QbU R F T n l (k+1):=fun i hi=>by
 by_cases e:i=k
 ·subst e;exact⟨h1,h2,h3⟩
 ·exact h i oM
theorem Dis.step {l:List Lf}(h:Dis l k)(h1:∀j,j<k ->Dif (gL l j) (gL l k)):Dis l (k+1):=fun i hi j hj=>by
 by_cases e:i=k
 ·subst e;exact h1 j hj
 ·exact h i oM j hj
theorem QaY{a:Ur}(h:Below B a w)(n:Nat):Below B a (w.drewN n):=⟨h.os,h.tape,h.output,h.size,h.block⟩
theorem QcI (a:Option Us)(c:Nat)(l:List Lf)(x:Option Us)(n d:Nat)(R F T:Nat ->Int)(w:Ur)(hn:l.length<=1048576)(hp:LBd l)(hm:n<=1048576)(h:QdB w a l)(h':QaD w x n R F T):
  Cl 46 #[Uo #[Uf a l.length c,Uf x n d]] w (Rt w (Un (yes (Qcn R F T n l)))):=by
 obtain⟨W,hW⟩:=zE (w.alloc (Uj #[Uf a l.length c,Uf x n d] 40));have b0:Bl w W:=hW▸zO _ _;have zW:w.heap.size<W.heap.size:=hW▸oP;have k0:W.cell? (Ub w.heap.size)=Uq (Uf a l.length c):=hW▸oP;have k1:W.cell? (Ua w.heap.size 1)=Uq (Uf x n d):=hW▸oP;have HC:=hid (QmN x n d R F T W hm (h'.bw b0));have HL:=hid (h.bw b0);have HR:=hid (h'.bw b0);have Hk:=hid b0;clear h h' b0;obtain⟨Y,hY⟩:=zE (yes (Qcn R F T n l));have HY:=hid hY;rw [hY];clear hY;go_enter func46,ntmps46;go_wp2_with fail;try rw [hW]
 clear hW;refine HC.mono ?_;rintro e w1 ⟨rfl,b1⟩;have m0:=(b1.cell (p:=(Ub w.heap.size)) zW).trans k0;have m1:=(b1.cell (p:=(Ua w.heap.size 1)) zW).trans k1;have E:=hid (Hk.trans (b1.mono Hk.size));have H8:=hid (HL.bw b1);have H9:=hid (HR.bw b1);have z1:w.heap.size<w1.heap.size:=Ut zW b1.size;clear HC HL HR Hk k0 k1 zW b1;obtain⟨C,hC⟩:=zE (QdC R F T n);have HC:=hid hC;rw [hC];clear hC;cases C with
 | false=>
  have O:Hid (Y=false):=hid (by rw [<- HY.out];exact Qaj (fun h=>by have:=h.1;rw [HC.out] at this;cases this));go_wp2_with fail;go_ret;exact⟨Qa8 O.symm,E⟩
 | true=>
  by_cases He:(1000:Int)<(l.length:Int)
  ·have d0:decide ((1000:Int)<(l.length:Int))=true:=oU He;have O:Hid (Y=false):=hid (by rw [<- HY.out];exact Qaj (fun h=>oH h.2.1));go_wp2_with fail;go_ret;exact⟨Qa8 O.symm,E⟩
  ·have d0:decide ((1000:Int)<(l.length:Int))=false:=oU He;go_wp2_with fail;clear d0;go_loopw [3] (fun i wr=>∃k:Nat,k<=l.length/\ i=Ud k/\ Hid (Bl w1 wr)/\ Hid (QbU R F T n l k/\ Dis l k)) (fun i _=>l.length - (intOf i).toNat);case atStart=>exact⟨0,Uv _,rfl,hid zI,hid ⟨fun i hi=>oM,fun i hi=>oM⟩⟩
   case round=>
    obtain⟨k,hk,rfl,g,HI⟩:=hrel;have r0:=(g.cell (p:=(Ub w.heap.size)) z1).trans m0;have r1:=(g.cell (p:=(Ua w.heap.size 1)) z1).trans m1;by_cases Hi:k<l.length
    ·rcases H8.out with h|⟨b,off,rfl,X,hc⟩
     ·omega
     obtain⟨pa,pc,⟨c0,cp,cq⟩,s,c1,L,N,c4⟩:=hc k Hi;have x0:=(g.cell (p:=(Ua b (off+k*5))) X).trans c0;have x1:=(g.cell (p:=(Ua b (off+k*5+1))) X).trans c1;have x2:=(g.cell (p:=(Ua b (off+k*5+2))) X).trans L;have x3:=(g.cell (p:=(Ua b (off+k*5+3))) X).trans N;have x4:=(g.cell (p:=(Ua b (off+k*5+4))) X).trans c4;have HS:=hid (s.bw g);have i1:(0:Int)<=(k:Int):=UZ _;have i2:(k:Int)<(l.length:Int):=oM;have H:=hid hc;have zr:w1.heap.size<=wr.heap.size:=g.size;clear hc c0 c1 L N c4 s m0 m1;go_upto_region 7 with fail;obtain⟨y,hy⟩:=zE (gL l k);have Hj:=hp k;rw [hy] at HS x0 x1 x2 x3 x4 cp Hj ⊢;have S:=hid hy;clear hy;obtain⟨p,u,r,q,v⟩:=y;dsimp only at HS x0 x1 x2 x3 x4 cp Hj ⊢;obtain⟨W2,Hh⟩:=zE (wr.alloc (Uj #[Uf pa p.length pc,Un u,Ud r,Ud q,Um v] 117));have b2:Bl wr W2:=Hh▸zO _ _;have B5:Bx5 W2 wr.heap.size (Uf pa p.length pc) (Un u) (Ud r) (Ud q) (Um v):=(by rw [<- Hh];exact⟨oP,oP,oP,oP,oP,fun i=>oP,oP⟩);have B:=(b2.cell (p:=(Ub w.heap.size)) (show w.heap.size<wr.heap.size by omega)).trans r0;have t1:=(b2.cell (p:=(Ua w.heap.size 1)) (show w.heap.size<wr.heap.size by omega)).trans r1;obtain⟨y0,y1,y2,y3,y4⟩:=B5.q5;have Hb:=hid (g.trans (b2.mono g.size));have Hq:=hid (HS.bw b2);have HP:=hid (QlE p pa pc W2 Hj Hq);have HA:=hid (QnA x n d R F T r q W2 hm (H9.bw Hb));have z2:wr.heap.size<W2.heap.size:=B5.lt;have z:=hid B5;rw [Hh];clear Hh b2 B5 x0 x1 x2 x3 x4 r0 r1 HS g;have H6:=hid (E.trans (Hb.mono E.size));have U:Hid (¬(Qc0 ⟨p,u,r,q,v⟩/\ QbD R F T r q q n=true/\ (0<k ->QaQ (gL l (k - 1)) ⟨p,u,r,q,v⟩<0)) ->Y=false):=hid (fun no=>by
      rw [<- HY.out];exact Qaj (fun h=>no (by have:=h.2.2.1 k Hi;rw [S.out] at this;exact this)))
     go_cut [54] from 16 to 81 (fun v5 wx=>∃A:Bool,v5=Un (!A)/\ Hid (A=true↔Qc0 ⟨p,u,r,q,v⟩/\ QbD R F T r q q n=true)/\ Hid (Bl W2 wx));case first=>
      go_wp2_with fail;refine HP.mono ?_;rintro e w3 ⟨rfl,rfl⟩;obtain⟨Y1,Hv⟩:=zE (yes (Qb6 p));have Hr:=hid Hv;rw [Hv];clear Hv HP U;cases Y1 with
      | false=>
       go_wp2_with fail;go_meet;exact⟨false,rfl,hid ⟨fun h=>(by cases h),fun h=>(by have:=Qal h.1.1;rw [Hr.out] at this;cases this)⟩,hid zI⟩
      | true=>
       by_cases hv:(200:Int)<(v.size:Int)
       ·have d1:decide ((200:Int)<(v.size:Int))=true:=oU hv;go_wp2_with fail;go_meet;exact⟨false,rfl,hid ⟨fun h=>(by cases h),fun h=>(by have:v.size<=200:=h.1.2.1;omega)⟩,hid zI⟩
       ·have d1:decide ((200:Int)<(v.size:Int))=false:=oU hv;by_cases Ha:u=true/\ v.toList.isEmpty=false
        ·obtain⟨rfl,Ha⟩:=Ha;go_wp2_with fail;go_meet;exact⟨false,rfl,hid ⟨fun h=>(by cases h),fun h=>(by have:v.toList.isEmpty=true:=h.1.2.2 rfl;rw [Ha] at this;cases this)⟩,hid zI⟩
        ·have he:u=true ->v.toList.isEmpty=true:=fun e=>by
          by_cases h:v.toList.isEmpty=true
          ·exact h
          ·exact absurd ⟨e,oU h⟩ Ha
         have Hf:Hid (Qc0 ⟨p,u,r,q,v⟩):=hid ⟨QcJ.1 Hr,oQ,he⟩;clear Ha Hr;cases u with
         | true=>
          have he:=he rfl;go_wp2_with fail;refine HA.mono ?_;rintro e w4 ⟨rfl,b4⟩;have M:=hid b4;clear b4;go_wp2_with fail;go_meet;exact⟨_,rfl,hid ⟨fun h=>⟨Hf,h⟩,fun h=>h.2⟩,M⟩
         | false=>
          clear he;go_wp2_with fail;refine HA.mono ?_;rintro e w4 ⟨rfl,b4⟩;have M:=hid b4;clear b4;go_wp2_with fail;go_meet;exact⟨_,rfl,hid ⟨fun h=>⟨Hf,h⟩,fun h=>h.2⟩,M⟩
     case rest=>
      obtain⟨A,rfl,Z,m⟩:=hcut;obtain⟨w4,rfl⟩:∃w4,w4=wc:=⟨_,rfl⟩;have zt:w.heap.size<w4.heap.size:=oH m.size;have Q:wr.heap.size<w4.heap.size:=oH m.size;have B4:=z.bw m z2;have B:=(m.cell (p:=(Ub w.heap.size)) (show w.heap.size<W2.heap.size by omega)).trans B;obtain⟨y0,y1,y2,y3,y4⟩:=B4.q5;have M:=hid (Hb.trans (m.mono Hb.size));have H3:=hid (Hq.bw m);have Hc:=hid (E.trans (M.mono E.size));clear B4 z Hq H6 m HP HA t1 Hb z2;cases A with
      | false=>
       have O:=hid (U (fun h=>by have:=Z.2 ⟨h.1,h.2.1⟩;cases this));clear U H;go_wp2_with fail;go_ret;exact⟨Qa8 O.symm,Hc⟩
      | true=>
       have Hf:=hid (Z.1 rfl).1;have Hn:=hid (Z.1 rfl).2;clear Z;go_upto_region 9 with fail;go_cut [67] from 16 to 81 (fun v5 wx=>∃A:Bool,v5=Un (!A)/\ Hid (A=true↔(0<k ->QaQ (gL l (k - 1)) ⟨p,u,r,q,v⟩<0))/\ Hid (Bl w4 wx));case first=>
        by_cases Gd:k=0
        ·have d2:decide ((0:Int)<(k:Int))=false:=oS;have d3:decide (0<k)=false:=oS;go_quiet (fail);go_wp2_with fail;go_meet;exact⟨true,rfl,hid ⟨fun _ h=>oM,fun _=>rfl⟩,hid (QaY zI _)⟩
        ·obtain⟨j,hj⟩:∃j,k=j+1:=⟨k - 1,oM⟩;obtain⟨H4,H5,⟨c0,Hs,Gc⟩,s',c1,L,N,c4⟩:=H j oM;have V:=fun(o:Nat)=>M.cell (p:=(Ua b o)) X;have j0:=(V _).trans c0;have j1:=(V _).trans c1;have j2:=(V _).trans L;have j3:=(V _).trans N;have j4:=(V _).trans c4;have Hp:=hid (s'.bw M);have Hx:=hp j;obtain⟨y',Hz⟩:=zE (gL l j);rw [Hz] at j0 j1 j2 j3 j4 Hp Hx Hs;have Hd:=hid Hz;obtain⟨p',Hg,r',V,v'⟩:=y';dsimp only at j0 j1 j2 j3 j4 Hp Hx Hs;have zb:b<w4.heap.size:=oH M.size;have d2:decide ((0:Int)<(k:Int))=true:=oS;have d3:decide (0<k)=true:=oS;have Hy:(k:Int) - 1=(j:Int):=oM;have Ge:IntKind.i64.wrap (j:Int)=(j:Int):=(by rw [UY];omega);have Gf:IntKind.i64.wrap ((k:Int) - 1)=(j:Int):=(by rw [Hy];exact Ge);have q1:(0:Int)<=(j:Int):=UZ _;have q2:(j:Int)<(l.length:Int):=oM;have H1:=hid hj;obtain⟨Bf,Hu⟩:=zE (yes (QaQ ⟨p',Hg,r',V,v'⟩ ⟨p,u,r,q,v⟩<0));have H7:=hid Hu;have H2:=hid (fun W(hB:Bl w4 W)=>Hu▸QhW H4 pa H5 pc p' p Hg u r' V r q v' v W Hx Hj Hs cp Gc cq (Hp.bw hB) (H3.bw hB));clear Hu hj Gd c0 c1 L N c4 s' Hz;have Hm:Hid (∀w',Bl w4 w' ->(Bl w4 w'/\ w'.cell? (Ub w.heap.size)=Uq (Uf (Uq (Ua b off)) l.length c)/\ w'.cell? (Ub wr.heap.size)=Uq (Uf pa p.length pc)/\ w'.cell? (Ua wr.heap.size 1)=Uq (Un u)/\ w'.cell? (Ua wr.heap.size 2)=Uq (Ud r)/\ w'.cell? (Ua wr.heap.size 3)=Uq (Ud q)/\ w'.cell? (Ua wr.heap.size 4)=Uq (Um v)/\ w'.cell? (Ua b (off+j*5))=Uq (Uf H4 p'.length H5)/\ w'.cell? (Ua b (off+j*5+1))=Uq (Un Hg)/\ w'.cell? (Ua b (off+j*5+2))=Uq (Ud r')/\ w'.cell? (Ua b (off+j*5+3))=Uq (Ud V)/\ w'.cell? (Ua b (off+j*5+4))=Uq (Um v'))):=hid (fun w' hB=>⟨hB,(hB.cell (p:=(Ub w.heap.size)) zt).trans B,(hB.cell (p:=(Ub wr.heap.size)) Q).trans y0,(hB.cell (p:=(Ua wr.heap.size 1)) Q).trans y1,(hB.cell (p:=(Ua wr.heap.size 2)) Q).trans y2,(hB.cell (p:=(Ua wr.heap.size 3)) Q).trans y3,(hB.cell (p:=(Ua wr.heap.size 4)) Q).trans y4,(hB.cell (p:=(Ua b (off+j*5))) zb).trans j0,(hB.cell (p:=(Ua b (off+j*5+1))) zb).trans j1,(hB.cell (p:=(Ua b (off+j*5+2))) zb).trans j2,(hB.cell (p:=(Ua b (off+j*5+3))) zb).trans j3,(hB.cell (p:=(Ua b (off+j*5+4))) zb).trans j4⟩);refine zS Hm (fun qh=> ?_);refine tZ 0 55 ?_;refine tZ 1 56 ?_;refine tZ 2 57 ?_;refine tZ 3 58 ?_;refine tZ 4 59 ?_;refine tZ 5 60 ?_;refine tZ 6 61 ?_;refine tZ 7 62 ?_;refine tZ 8 63 ?_;refine tZ 9 64 ?_;refine cZ 10 ?_;intro K hK;go_simp;refine(H2 _ qh.1).mono ?_;rintro e D ⟨rfl,b5⟩;have Ht:=qh.1.trans (b5.mono qh.1.size);refine hK.out _ _ (Hm _ Ht) (fun qh=> ?_);clear hK K;try simp only [zP]
         refine tZ 11 66 ?_;refine tZ 12 67 ?_;refine zD ?_;have z:=hid Ht;have Z:Hid (Bf=true↔(0<k ->QaQ (gL l (k - 1)) ⟨p,u,r,q,v⟩<0)):=hid (by
          have e:gL l (k - 1)=⟨p',Hg,r',V,v'⟩:=(by rw [show k - 1=j by have:=H1.out;omega,Hd.out]);rw [e,<- H7.out,QcJ];exact⟨fun h _=>h,fun h=>h (oH H1)⟩)
         clear qh Ht b5 Hm H2 U H;go_wp2_with fail;go_meet;exact⟨Bf,rfl,Z,z⟩
       case rest=>
        obtain⟨A,rfl,Z,m⟩:=hcut;obtain⟨D,rfl⟩:∃D,D=wc:=⟨_,rfl⟩;have z:=hid (M.trans (m.mono M.size));have B:=(m.cell (p:=(Ub w.heap.size)) zt).trans B;have y2:=(m.cell (p:=(Ua wr.heap.size 2)) Q).trans y2;have y3:=(m.cell (p:=(Ua wr.heap.size 3)) Q).trans y3;have zt:w.heap.size<D.heap.size:=Ut zt m.size;have Q:wr.heap.size<D.heap.size:=Ut Q m.size;clear m y0 y1 y4 H3 M Hc;cases A with
        | false=>
         have O:=hid (U (fun h=>by have:=Z.2 h.2.2;cases this));have HZ:=hid (E.trans (z.mono E.size));clear U H;go_wp2_with fail;go_ret;exact⟨Qa8 O.symm,HZ⟩
        | true=>
         have Ho:Hid (0<k ->QaQ (gL l (k - 1)) ⟨p,u,r,q,v⟩<0):=hid (Z.1 rfl);have Ga:Hid (∀wi,Bl D wi ->wi.cell? (Ua wr.heap.size 2)=Uq (Ud r)):=hid (fun wi h=>(h.cell (p:=(Ua wr.heap.size 2)) Q).trans y2);have Gb:Hid (∀wi,Bl D wi ->wi.cell? (Ua wr.heap.size 3)=Uq (Ud q)):=hid (fun wi h=>(h.cell (p:=(Ua wr.heap.size 3)) Q).trans y3);go_wp2_with fail;go_loopw [5] (fun i wi=>∃j:Nat,j<=k/\ i=Ud j/\ Hid (Bl D wi)/\ Hid (∀t,t<j ->Dif (gL l t) (gL l k))) (fun i _=>k - (intOf i).toNat);case atStart=>exact⟨0,Uv _,rfl,hid zI,hid (fun t ht=>oM)⟩
         case round=>
          obtain⟨j,hj,rfl,G,P⟩:=hrel;have g0:=(G.cell (p:=(Ub w.heap.size)) zt).trans B;have g2:=Ga _ G;have g3:=Gb _ G;by_cases Hw:j<k
          ·obtain⟨ja,jc,_,_,_,L,N,_⟩:=H j oM;have j2:=(((z.trans (G.mono z.size)).cell (p:=(Ua b (off+j*5+2))) X)).trans L;have j3:=(((z.trans (G.mono z.size)).cell (p:=(Ua b (off+j*5+3))) X)).trans N;obtain⟨yj,H0⟩:=zE (gL l j);rw [H0] at j2 j3;have Hd:=hid H0;obtain⟨pj,fj,J,I,vj⟩:=yj;dsimp only at j2 j3;have q1:(0:Int)<=(j:Int):=UZ _;have q2:(j:Int)<(l.length:Int):=oM;have q3:(j:Int)<(k:Int):=oM;have hG:=Qlg;have EQ:∀w:Ur,(binOp .eql 115 (Uo #[Ud J,Ud I]) (Uo #[Ud r,Ud q])).run prog w=.ok (Un (J==r && I==q)) w:=fun w=>Qmy J I r q w;clear H0 L N B y2 y3;by_cases hr:J=r
           ·have e1:(J==r)=true:=oU hr;by_cases hq:I=q
            ·have e2:(I==q)=true:=oU hq;have EQ:∀w:Ur,(binOp .eql 115 (Uo #[Ud J,Ud I]) (Uo #[Ud r,Ud q])).run prog w=.ok (Un true) w:=fun w=>by rw [EQ w,e1,e2];rfl
             have O:Hid (Y=false):=hid (by rw [<- HY.out];exact Qaj (fun h=>h.2.2.2 k Hi j Hw (by rw [Hd.out,S.out];exact⟨hr,hq⟩)));have HZ:=hid (E.trans ((z.trans (G.mono z.size)).mono E.size));clear U P H;go_wp2_with fail;go_quiet (fail);go_wp2_with fail;go_ret;exact⟨Qa8 O.symm,QaY HZ _⟩
            ·have e2:(I==q)=false:=oU hq;have EQ:∀w:Ur,(binOp .eql 115 (Uo #[Ud J,Ud I]) (Uo #[Ud r,Ud q])).run prog w=.ok (Un false) w:=fun w=>by rw [EQ w,e1,e2];rfl
             have HD:Hid (∀t,t<j+1 ->Dif (gL l t) (gL l k)):=hid (fun t ht=>by
              by_cases e:t=j
              ·rw [e,Hd.out,S.out];exact fun h=>hq h.2
              ·exact P t oM)
             clear U P H;go_wp2_with fail;go_quiet (fail);have Hl:=hid (QaY G nq);go_wp2_with fail;go_roundw;case rel=>exact⟨j+1,Hw,oN,Hl,HD⟩
             case measure=>exact oE
           ·have e1:(J==r)=false:=oU hr;have EQ:∀w:Ur,(binOp .eql 115 (Uo #[Ud J,Ud I]) (Uo #[Ud r,Ud q])).run prog w=.ok (Un false) w:=fun w=>by rw [EQ w,e1];rfl
            have HD:Hid (∀t,t<j+1 ->Dif (gL l t) (gL l k)):=hid (fun t ht=>by
             by_cases e:t=j
             ·rw [e,Hd.out,S.out];exact fun h=>hr h.1
             ·exact P t oM)
            clear U P H;go_wp2_with fail;go_quiet (fail);have Hl:=hid (QaY G nq);go_wp2_with fail;go_roundw;case rel=>exact⟨j+1,Hw,oN,Hl,HD⟩
            case measure=>exact oE
          ·obtain rfl:j=k:=oM;have HN:Hid (QbU R F T n l (j+1)/\ Dis l (j+1)):=hid ⟨HI.1.step (by rw [S.out];exact Hf) (by rw [S.out];exact Hn) (fun h=>by rw [S.out];exact Ho h),HI.2.step P⟩;have HZ:=hid (z.trans (G.mono z.size));clear U P H B y2 y3 g0 g2 g3;go_wp2_with fail;go_roundw;case rel=>exact⟨j+1,Hi,oN,HZ,HN⟩
           case measure=>exact oE
    ·obtain rfl:k=l.length:=oM;have O:Hid (Y=true):=hid (by rw [<- HY.out];exact Qal ⟨HC,oM,HI.1,HI.2⟩);have HB:=hid (E.trans (g.mono E.size));clear m0 m1;go_wp2_with fail;go_ret;exact⟨Qa8 O.symm,HB⟩
structure Sx where
 l:List Lf
 n:Nat
 R:Nat ->Int
 F:Nat ->Int
 T:Nat ->Int
structure Sx.Big (S:Sx):Prop where
 l1:S.l.length<=9223372036854775807
 b1:∀i,Qgh (gL S.l i)
 i1:∀i,LfI (gL S.l i)
 n1:S.n<=9223372036854775807
structure Sx.Sm (S:Sx):Prop where
 l1:S.l.length<=1048576
 p1:LBd S.l
 n1:S.n<=1048576
structure SAt (w:Ur)(a x:Option Us)(S:Sx):Prop where
 lf:QbK w a S.l
 rn:QaD w x S.n S.R S.F S.T
theorem SAt.bw{x:Option Us}{S:Sx}(h:SAt w a x S)(hb:Bl w w'):SAt w' a x S:=⟨h.lf.bw hb,h.rn.bw hb⟩
structure SCt (w:Ur)(a x:Option Us)(S:Sx):Prop where
 lf:QdB w a S.l
 rn:QaD w x S.n S.R S.F S.T
theorem SCt.bw{x:Option Us}{S:Sx}(h:SCt w a x S)(hb:Bl w w'):SCt w' a x S:=⟨h.lf.bw hb,h.rn.bw hb⟩
structure SNw (w:Ur)(lo hi g k:Nat)(S:Sx):Prop where
 cap:QeP w lo (Uc g) S.l
 rn:QaD w (Uc k) S.n S.R S.F S.T
 lm:LMk w lo hi g S.l
 k1:lo<=k
 k2:k<hi
 ro:∃ys,w.ownsRow lo 123 3 (Uf (Uc k) S.n S.n) S.n ys
 hl:hi<=w.heap.size
theorem SNw.at{S:Sx}(h:SNw w lo hi g k S):SAt w (Uc g) (Uc k) S:=⟨h.cap.seg,h.rn⟩
theorem QaO{e size:Nat}(h:w.ownsRow B e size v n xs)(hk:∀g,v.ownBlock=Uq g ->w'.heap[g]? =w.heap[g]?):w'.ownsRow B e size v n xs:=by
 obtain⟨u,j⟩:=h;refine⟨u,?_⟩;rcases j with j|⟨g,cap,k,e,q,m,r⟩
 ·exact .inl j
 ·subst e;exact .inr ⟨g,cap,k,rfl,q,(hk g rfl).trans m,r⟩
theorem QbF{e size:Nat}(h:w.ownsRow B e size v n xs)(hc:C<=B):w.ownsRow C e size v n xs:=by
 obtain⟨q,j⟩:=h;refine⟨q,?_⟩;rcases j with j|⟨g,cap,k,e,m,r⟩
 ·exact .inl j
 ·exact .inr ⟨g,cap,k,e,Ux hc m,r⟩
theorem SNw.bw{S:Sx}(h:SNw w lo hi g k S)(hb:Bl w w'):SNw w' lo hi g k S:=
 ⟨h.cap.bw hb,h.rn.bw hb,h.lm.same (fun q _ h2=>hb.block q (Ut h2 h.hl)),h.k1,h.k2,by obtain⟨m,j⟩:=h.ro;exact⟨m,QaO j fun q hq=>hb.block q (j.lt q hq).2⟩,Ux h.hl hb.size⟩
theorem SNw.set{S:Sx}(h:SNw w lo hi g k S)(q:Us)(u:Value)(hq:q.block<lo):SNw (w.setCell q u) lo hi g k S:=
 ⟨h.cap.set q u hq,h.rn.set q u (fun x hx=>by injection hx with hx;subst hx;have:=h.k1;simp;omega),h.lm.set q u hq,h.k1,h.k2,by obtain⟨m,j⟩:=h.ro;exact⟨m,Qb4 j q u (oH h.k1)⟩,by simpa [UC] using h.hl⟩
theorem SNw.wide{S:Sx}(h:SNw w lo hi g k S)(h1:lo'<=lo)(h2:hi<=hi')(h3:hi'<=w.heap.size):SNw w lo' hi' g k S:=
 ⟨h.cap.move h1 zL (fun _ _ _=>rfl),h.rn,h.lm.wide h1 h2,Ux h1 h.k1,Ut h.k2 h2,by obtain⟨m,j⟩:=h.ro;exact⟨m,QbF j h1⟩,h3⟩
theorem QqW (a x:Option Us)(c d:Nat)(S:Sx)(w:Ur)(hm:S.Sm)(h:SAt w a x S):
  Cl 28 #[Uo #[Uf a S.l.length c,Uf x S.n d]] w fun e w'=>∃g k,e=Ui (Uo #[Uf (Uc g) S.l.length S.l.length,Uf (Uc k) S.n S.n])/\ SNw w' w.heap.size w'.heap.size g k S/\ Bl w w':=
 (QlW a c S.l x S.n d S.R S.F S.T w hm.l1 hm.p1 hm.n1 h.lf h.rn).mono fun e w' ⟨g,k,h1,⟨h2,h3⟩,h4,⟨h5,h6⟩,he,h7,h8,h9⟩=>⟨g,k,he,⟨h7,h8,h3,h4,h5,h6,Uu _⟩,h9⟩
theorem Bx5.new (w:Ur)(v0 v1 v2 v3 v4:Value)(t:TypeId):Bx5 (w.alloc (Uj #[v0,v1,v2,v3,v4] t)) w.heap.size v0 v1 v2 v3 v4:=
 ⟨oP,oP,oP,oP,oP,fun i=>oP,oP⟩
theorem Bx5.up(h:Bx5 w b v0 v1 v2 v3 v4)(o:Obj):Bx5 (w.alloc o) b v0 v1 v2 v3 v4:=h.bw (zO w o) h.lt
theorem Qct (id:Int)(a x a' x' b y b' y':Option Us)(c d c' d' e f e' f':Nat)(S S':Sx)(w:Ur)(hm:S.Sm)(hm':S'.Sm)(h:SAt w a x S)(h':SAt w a' x' S')(k:SAt w b y S)(k':SAt w b' y' S'):
  Cl 10 #[Uo #[Ud id,Uf a S.l.length c,Uf x S.n d,Uf a' S'.l.length c',Uf x' S'.n d'],Uo #[Ud id,Uf b S.l.length e,Uf y S.n f,Uf b' S'.l.length e',Uf y' S'.n f']] w (Rt w (Un true)):=by
 obtain⟨W,m⟩:=zE ((w.alloc (Uj #[Ud id,Uf a S.l.length c,Uf x S.n d,Uf a' S'.l.length c',Uf x' S'.n d'] 42)).alloc (Uj #[Ud id,Uf b S.l.length e,Uf y S.n f,Uf b' S'.l.length e',Uf y' S'.n f'] 42));have q:Bl w W:=m▸Qak _ _ _;have v:Bx5 W w.heap.size (Ud id) (Uf a S.l.length c) (Uf x S.n d) (Uf a' S'.l.length c') (Uf x' S'.n d'):=m▸(Bx5.new _ _ _ _ _ _ _).up _;have g:Bx5 W (w.heap.size+1) (Ud id) (Uf b S.l.length e) (Uf y S.n f) (Uf b' S'.l.length e') (Uf y' S'.n f'):=by
  rw [<- m];have:=Bx5.new (w.alloc (Uj #[Ud id,Uf a S.l.length c,Uf x S.n d,Uf a' S'.l.length c',Uf x' S'.n d'] 42)) (Ud id) (Uf b S.l.length e) (Uf y S.n f) (Uf b' S'.l.length e') (Uf y' S'.n f') 42;simpa using this
 have s:Hid (∀w1,Bl W w1 ->Cl 33 #[Uo #[Uf a S.l.length c,Uf x S.n d],Uo #[Uf b S.l.length e,Uf y S.n f]] w1 (Rt w1 (Un true))):=hid (fun w1 hb1=>by
  have B:=Qaa q hb1;exact QhO a b c e S.l x y S.n d f S.R S.F S.T w1 hm.l1 hm.p1 hm.n1 (h.lf.bw B) (k.lf.bw B) (h.rn.bw B) (k.rn.bw B))
 have A:Hid (∀w1,Bl W w1 ->Cl 33 #[Uo #[Uf a' S'.l.length c',Uf x' S'.n d'],Uo #[Uf b' S'.l.length e',Uf y' S'.n f']] w1 (Rt w1 (Un true))):=hid (fun w1 hb1=>by
  have B:=Qaa q hb1;exact QhO a' b' c' e' S'.l x' y' S'.n d' f' S'.R S'.F S'.T w1 hm'.l1 hm'.p1 hm'.n1 (h'.lf.bw B) (k'.lf.bw B) (h'.rn.bw B) (k'.rn.bw B))
 obtain⟨U,o,V⟩:=v.q3;obtain⟨G,H,I⟩:=g.q3;have r:=hid v;have u:=hid g;have M:=hid q;have K:(id==id)=true:=oP;have L:(id !=id)=false:=oP;clear h h' k k' q v g;go_enter func10,ntmps10;go_wp2_with fail;try rw [m]
 clear m;refine(s W zI).mono ?_;rintro e w1 ⟨rfl,j⟩;have z:=r.bw j r.lt;have t:=u.bw j u.lt;have Y:=z.c3;have Z:=z.c4;have i:=t.c3;have J:=t.c4;have p:=hid (A w1 j);have O:=hid (Qaa M j);clear j z t U o V G H I s A r u;go_wp2_with fail;refine p.mono ?_;rintro e w2 ⟨rfl,E⟩;have Q:=hid (Qaa O E);clear E Y Z i J p;go_wp2_with fail;go_ret;exact⟨rfl,Q⟩
theorem QiW (id:Int)(a x a' x':Option Us)(c d c' d':Nat)(S S':Sx)(w:Ur)(hm:S.Sm)(hm':S'.Sm)(h:SAt w a x S)(h':SAt w a' x' S'):
  Cl 7 #[Uo #[Ud id,Uf a S.l.length c,Uf x S.n d,Uf a' S'.l.length c',Uf x' S'.n d']] w fun e w'=>∃g k o i mid,e=Ui (Uo #[Ud id,Uf (Uc g) S.l.length S.l.length,Uf (Uc k) S.n S.n,Uf (Uc o) S'.l.length S'.l.length,Uf (Uc i) S'.n S'.n])/\ SNw w' w.heap.size mid g k S/\ SNw w' mid w'.heap.size o i S'/\ Bl w w':=by
 obtain⟨W,q⟩:=zE (((w.alloc (Uj #[Ud id,Uf a S.l.length c,Uf x S.n d,Uf a' S'.l.length c',Uf x' S'.n d'] 29)).alloc (Uj #[Ud 0,Ue,Ue,Ue,Ue] 42)).alloc (Uj #[Ud 0,Ue,Ue,Ue,Ue] 42));have R:Bl w W:=q▸((zO _ _).alloc oP _).alloc oS _;have M:Bx5 W w.heap.size (Ud id) (Uf a S.l.length c) (Uf x S.n d) (Uf a' S'.l.length c') (Uf x' S'.n d'):=q▸((Bx5.new _ _ _ _ _ _ _).up _).up _;have F:Bx5 W (w.heap.size+1) (Ud 0) Ue Ue Ue Ue:=by
  rw [<- q];have:=(Bx5.new (w.alloc (Uj #[Ud id,Uf a S.l.length c,Uf x S.n d,Uf a' S'.l.length c',Uf x' S'.n d'] 29)) (Ud 0) Ue Ue Ue Ue 42).up (Uj #[Ud 0,Ue,Ue,Ue,Ue] 42);simpa using this
 have s:Bx5 W (w.heap.size+1+1) (Ud 0) Ue Ue Ue Ue:=by
  rw [<- q];have:=Bx5.new ((w.alloc (Uj #[Ud id,Uf a S.l.length c,Uf x S.n d,Uf a' S'.l.length c',Uf x' S'.n d'] 29)).alloc (Uj #[Ud 0,Ue,Ue,Ue,Ue] 42)) (Ud 0) Ue Ue Ue Ue 42;simpa using this
 have zW:Hid (W.heap.size=w.heap.size+3):=hid (q▸oP);obtain⟨u,r⟩:=zE (W.setCell (Ua (w.heap.size+1+1) 0) (Ud id));have O:Bl w u:=r▸R.setCell oS _;have b:Bx5 u w.heap.size (Ud id) (Uf a S.l.length c) (Uf x S.n d) (Uf a' S'.l.length c') (Uf x' S'.n d'):=r▸M.setAt _ _ oS;have P:Bx5 u (w.heap.size+1) (Ud 0) Ue Ue Ue Ue:=r▸F.setAt _ _ oP;have D:Bx5 u (w.heap.size+1+1) (Ud id) Ue Ue Ue Ue:=r▸s.set0 _;have z1:Hid (u.heap.size=w.heap.size+3):=hid (by rw [<- r];simp [UC];exact zW);have B:=hid (QqW a x c d S u hm (h.bw O));have C:=hid (fun w2(hb:Bl w w2)=>QqW a' x' c' d' S' w2 hm' (h'.bw hb));obtain⟨k0,Q,U,V,Y⟩:=M.q5;have E:=s.c0;have A:=s.f;have m1:=b.c1;have m2:=b.c2;have Ha:=hid O;have G:=hid b;have L:=hid P;have I:=hid D;clear R O M F s b P D h h';go_enter func7,ntmps7;go_wp2_with fail;try rw [q]
 try rw [r]
 clear q r k0 Q U V Y E A m1 m2;refine B.mono ?_;rintro e w2 ⟨g,k,rfl,Z,y⟩;have Hl:=hid Z;have Hb:=hid (Qaa Ha y);have t:=hid (G.bw y G.lt);have Hf:=hid (L.bw y L.lt);have J:=hid (I.bw y I.lt);have Hi:Hid (w.heap.size+3<=w2.heap.size):=hid (oJ y.size z1);obtain⟨j,m⟩:=zE ((w2.setCell (Ua (w.heap.size+1+1) 1) (Uf (Uc g) S.l.length S.l.length)).setCell (Ua (w.heap.size+1+1) 2) (Uf (Uc k) S.n S.n));have H:Hid (Bl w j):=hid (m▸(Hb.setCell oS _).setCell oS _);have p:Hid (Bx5 j w.heap.size (Ud id) (Uf a S.l.length c) (Uf x S.n d) (Uf a' S'.l.length c') (Uf x' S'.n d')):=hid (m▸(t.setAt _ _ oS).setAt _ _ oS);have N:Hid (Bx5 j (w.heap.size+1) (Ud 0) Ue Ue Ue Ue):=hid (m▸(Hf.setAt _ _ oP).setAt _ _ oP);have K:Hid (Bx5 j (w.heap.size+1+1) (Ud id) (Uf (Uc g) S.l.length S.l.length) (Uf (Uc k) S.n S.n) Ue Ue):=hid (m▸(J.set1 _).set2 _);have Hh:Hid (SNw j (w.heap.size+3) j.heap.size g k S):=hid (by
  rw [<- m];have h1:=(Z.wide (lo':=w.heap.size+3) (hi':=w2.heap.size) (by rw [z1.out];exact Uu _) zL zL);exact((h1.set _ _ oP).set _ _ oP).wide zL (by simp [UC]) zL)
 have Hj:Hid (w.heap.size+3<=j.heap.size):=hid (by rw [<- m];simp [UC];exact Hi);have Q:=t.c1;have U:=t.c2;have V:=t.c3;have Y:=t.c4;obtain⟨E,T,o2,A⟩:=J.p3;have m3:=p.c3;have m4:=p.c4;clear Z y B;go_wp2_with fail;try rw [m]
 clear m Q U V Y E T o2 A m3 m4;refine(C j H).mono ?_;rintro e w4 ⟨o,i,rfl,s4,z⟩;have Hk:=hid (p.bw z p.lt);have Hg:=hid (N.bw z N.lt);have He:=hid (K.bw z K.lt);have X:=hid (Hh.bw z);have Hd:=hid s4;have Hc:=hid (Qaa H z);obtain⟨r0,r1,r2,r3,r4,fr⟩:=Hg.p5;obtain⟨E,T,o2,o3,o4,A⟩:=He.p5;clear z s4 C;go_wp2_with fail;refine zF (v:=Uo #[Ud id,Uf (Uc g) S.l.length S.l.length,Uf (Uc k) S.n S.n,Uf (Uc o) S'.l.length S'.l.length,Uf (Uc i) S'.n S'.n]) (by simp [results,results7,go_sem,r0,r1,r2,r3,r4]) ⟨g,k,o,i,j.heap.size,rfl,?_,?_,?_⟩
 ·refine SNw.wide (lo:=w.heap.size+3) (hi:=j.heap.size) ?_ oM zL (by simp [UC];exact X.hl);repeat (refine SNw.set ?_ _ _ (by simp;try omega))
  exact X
 ·refine SNw.wide (lo:=j.heap.size) (hi:=w4.heap.size) ?_ zL (by simp [UC]) zL;have hz:=Hj.out;repeat (refine SNw.set ?_ _ _ oS)
  exact Hd
 ·repeat (refine Below.setCell ?_ (by simp;try omega) _)
  exact Hc
theorem Qp4 {α:Type}{cs:Array α}(h:cs.size=5):∃c0 c1 c2 c3 c4,cs=#[c0,c1,c2,c3,c4]:=by
 obtain⟨l⟩:=cs;match l,h with
 | [c0,c1,c2,c3,c4],_=>exact⟨c0,c1,c2,c3,c4,rfl⟩
theorem QhY:laidOutB prog=true:=oK
theorem Qat:Keyed prog 115:=Keyed.of_law (deep_law_laid QhY (m:=3) oM (of_decide_eq_true oK) oK oK)
def Qga (r q:Int):Value:=Uo #[Ud r,Ud q]
theorem Qnp:prog.keyType 115=true:=oK
theorem QdY {q:Int}(hr:(Lit.int Uh r).wf=true)(hq:(Lit.int Uh q).wf=true):∃kl,keyOf prog 115 (Qga r q)=Uq kl:=by
 unfold keyOf;rw [underlying115];simp only [Qnp,Bool.true_and];have v:0<prog.types.size:=of_decide_eq_true oK;obtain⟨m,u⟩:∃m,prog.types.size=m+1:=⟨prog.types.size - 1,oM⟩;rw [u];have j:prog.cellsOf 115=2:=oK;have k:prog.cellsOf 3=1:=oK;simp [Value.formed,Qga,underlying115,j,Program.keyLits,underlying3,k,Value.cells,hr,hq]
theorem QeU {q q':Int}{kl:Lit}(h:keyOf prog 115 (Qga r q)=Uq kl)(h':keyOf prog 115 (Qga r' q')=Uq kl):r=r'/\ q=q':=by
 have e:=Qat.inj h h';simpa [Qga] using e
structure QkS (w:Ur)(bm k:Nat)(l:List Lf)(D:DataW Value):Prop where
 own:w.ownsMap prog 115 (plainElem prog 3) bm k D
 tidy:Tidy D
 has':∀r q kl,keyOf prog 115 (Qga r q)=Uq kl ->(has D kl=true↔∃j,j<k/\ (gL l j).r=r/\ (gL l j).q=q)
 le:size D<=k
 eq:size D=k↔∀i,i<k ->∀j,j<i ->¬((gL l j).r=(gL l i).r/\ (gL l j).q=(gL l i).q)
theorem QkS.step{l:List Lf}{D:DataW Value}{kl:Lit}{d:DataW Value}(h:QkS w bm k l D)(hk:keyOf prog 115 (Qga (gL l k).r (gL l k).q)=Uq kl)
  (ho:w'.ownsMap prog 115 (plainElem prog 3) bm (k+1) (D.put kl d)):QkS w' bm (k+1) l (D.put kl d):=by
 have g:=Qat.key hk;have t:=size_put (k:=kl) h.tidy d;have z:=h.has' _ _ _ hk;refine⟨ho,h.tidy.put g d,fun r q kl' hk'=> ?_,?_,?_⟩
 ·by_cases e:kl'=kl
  ·subst e;obtain⟨o,b⟩:=QeU hk hk';rw [has_put_same h.tidy.isMap g];exact⟨fun _=>⟨k,oM,o,b⟩,fun _=>rfl⟩
  ·rw [has_put_other e,h.has' r q kl' hk'];constructor
   ·rintro⟨j,m,u⟩;exact⟨j,oM,u⟩
   ·rintro⟨j,m,u,v⟩;by_cases s:j=k
    ·subst s;rw [u,v,hk'] at hk;injection hk with hk;exact absurd hk e
    ·exact⟨j,oM,u,v⟩
 ·rw [t];have:=h.le;split<;>omega
 ·rw [t];have E:=h.le;by_cases y:has D kl=true
  ·rw [if_pos y];obtain⟨j,m,u,v⟩:=z.1 y;constructor
   ·intro e;omega
   ·intro e;exact absurd ⟨u,v⟩ (e k oM j m)
  ·rw [if_neg y];have A:=fun j m u v=>y (z.2 ⟨j,m,u,v⟩);constructor
   ·intro e i hi j m;by_cases p:i=k
    ·subst p;exact fun q=>A j m q.1 q.2
    ·exact h.eq.1 oM i oM j m
   ·intro e;have:=h.eq.2 (fun i hi j m=>e i oM j m);omega
theorem QkS.made (w:Ur)(l:List Lf):QkS (w.alloc (.map #[] 0)) w.heap.size 0 l (.map []):=
 ⟨UO w _ _ _,tidy_empty,fun r q kl hk=>⟨fun h=>by simp [has] at h,fun⟨j,hj,_⟩=>oM⟩,by simp [size],⟨fun _ i hi=>oM,fun _=>rfl⟩⟩
def QgL (v:Value):Option (DataW Value×List MemPlace):=Uq (.held v,[])
theorem QdG{d:DataW Value}{ps:List MemPlace}(h:QgL v=Uq (d,ps)):d=.held v:=by
 unfold QgL at h;simp at h;exact h.1.symm
abbrev Ky:=ByteArray×Int
abbrev Dt:=Int×Int
def QaE (x:Ky):Value:=Uo #[Um x.1,Ud x.2]
def dtV (d:Dt):Value:=Qga d.1 d.2
def Qb2:Option ByteArray ->Value
 | none=> Uo #[Um ByteArray.empty]
 | some s=> Uo #[Um s]
def Qbd:Option (Nat×Nat) ->Value
 | none=> Uo #[.map Up,.map Up]
 | some x=> Uo #[.map (Uq x.1),.map (Uq x.2)]
theorem Qb1 {x y:Ky}(h:QaE x=QaE y):x=y:=by
 obtain⟨a,b⟩:=x;obtain⟨c,d⟩:=y;simpa [QaE] using h
theorem Qc8 {x y:Dt}(h:dtV x=dtV y):x=y:=by
 obtain⟨a,b⟩:=x;obtain⟨c,d⟩:=y;simpa [dtV,Qga] using h
theorem Qa4:Keyed prog 230:=Keyed.of_law (deep_law_laid QhY (m:=3) oM (of_decide_eq_true oK) oK oK)
theorem Qpx:prog.keyType 230=true:=oK
theorem QhT{k:Int}(hs:s.size<=maxLen)(hk:(Lit.int Uh k).wf=true):∃kl,keyOf prog 230 (QaE (s,k))=Uq kl:=by
 unfold keyOf;rw [underlying230];simp only [Qpx,Bool.true_and];have v:0<prog.types.size:=of_decide_eq_true oK;obtain⟨m,u⟩:∃m,prog.types.size=m+1:=⟨prog.types.size - 1,oM⟩;rw [u];have j:prog.cellsOf 230=2:=oK;have q:prog.cellsOf 3=1:=oK;have r:prog.cellsOf 9=1:=oK;simp [Value.formed,QaE,underlying230,j,Program.keyLits,underlying3,underlying9,q,r,Value.cells,hs,hk]
structure FM {α β:Type}(w:Ur)(t:TypeId)(kv:α ->Value)(vo:Option β ->Value)(b c:Nat)(f:α ->Option β)(D:DataW Value):Prop where
 own:w.ownsMap prog t QgL b c D
 at':∀x kl,keyOf prog t (kv x)=Uq kl ->has D kl=(f x).isSome/\ D.atKey kl (.held (vo Up))=.held (vo (f x))
 cov:∀kl,has D kl=true ->∃x,keyOf prog t (kv x)=Uq kl
 ok:∀x,f x≠Up ->∃kl,keyOf prog t (kv x)=Uq kl
def Qa1 {α β:Type}(w:Ur)(t:TypeId)(kv:α ->Value)(vo:Option β ->Value)(b c:Nat)(f:α ->Option β):Prop:=∃D,FM w t kv vo b c f D
section
variable {α β : Type} {w : Ur} {t : TypeId} {kv : α -> Value} {vo : Option β -> Value} {b c : Nat} {f : α -> Option β}
theorem QbR {w w':Ur}{k:TypeId}{R:Value ->Option (DataW Value×List MemPlace)}{b n:Nat}{D:DataW Value}(h:w.ownsMap prog k R b n D)(e:w'.heap[b]? =w.heap[b]?):w'.ownsMap prog k R b n D:=by
 obtain⟨m,j,q,r⟩:=h;exact⟨m,j,e.trans q,r⟩
theorem Qa1.same {w':Ur}(h:Qa1 w t kv vo b c f)(e:w'.heap[b]? =w.heap[b]?):Qa1 w' t kv vo b c f:=by
 obtain⟨D,h⟩:=h;exact⟨D,QbR h.own e,h.at',h.cov,h.ok⟩
theorem Qa1.mono {c':Nat}(h:Qa1 w t kv vo b c f)(hc:c<=c'):Qa1 w t kv vo b c' f:=by
 obtain⟨D,h⟩:=h;exact⟨D,h.own.mono hc,h.at',h.cov,h.ok⟩
theorem Qa1.lt (h:Qa1 w t kv vo b c f):b<w.heap.size:=by
 obtain⟨D,h⟩:=h;exact h.own.lt
theorem Qa1.obj (h:Qa1 w t kv vo b c f):∃k j,w.heap[b]? =Uq (.map k j):=by
 obtain⟨D,h⟩:=h;obtain⟨k,j,m,_⟩:=h.own;exact⟨k,j,m⟩
theorem Qa1.ext {g:α ->Option β}(h:Qa1 w t kv vo b c f)(e:∀x,f x=g x):Qa1 w t kv vo b c g:=by
 obtain rfl:f=g:=funext e;exact h
theorem Qa1.look {mt e:TypeId}(h:Qa1 w t kv vo b c f)(K:Keyed prog t)(ht:prog.underlying mt=Uq (.map t e))(hz:(zeroValue e).run prog w=.ok (vo Up) w){x:α}{kl:Lit}(hk:keyOf prog t (kv x)=Uq kl):
  (Instr.lookup mt (.map (Uq b)) (kv x) false).run prog w=.ok (vo (f x)) w:=by
 obtain⟨D,h⟩:=h;obtain⟨v,ps,j,k⟩:=h.own.lookup K ht hz (zd:=.held (vo Up)) (zp:=[]) rfl hk;have:=QdG k;rw [(h.at' x kl hk).2] at this;injection this with this;rw [<- this] at j;exact j
theorem Qa1.look_ok {mt e:TypeId}(h:Qa1 w t kv vo b c f)(K:Keyed prog t)(ht:prog.underlying mt=Uq (.map t e))(hz:(zeroValue e).run prog w=.ok (vo Up) w){x:α}{kl:Lit}(hk:keyOf prog t (kv x)=Uq kl):
  (Instr.lookup mt (.map (Uq b)) (kv x) true).run prog w=.ok (Ul #[vo (f x),Un (f x).isSome]) w:=by
 obtain⟨D,h⟩:=h;obtain⟨v,ps,j,k⟩:=h.own.look_ok K ht hz (zd:=.held (vo Up)) (zp:=[]) rfl hk;have:=QdG k;rw [(h.at' x kl hk).2] at this;injection this with this;rw [<- this,(h.at' x kl hk).1] at j;exact j
theorem Qa1.made (w:Ur)(t:TypeId)(kv:α ->Value)(vo:Option β ->Value):Qa1 (w.alloc (.map #[] 0)) t kv vo w.heap.size 0 (fun _=>Up):=
 ⟨.map [],UO w _ _ _,fun x kl _=>⟨by simp [has],rfl⟩,fun kl h=>by simp [has] at h,fun x h=>absurd rfl h⟩
open Classical in
noncomputable def QbX {α β:Type}(f:α ->Option β)(x:α)(v:Option β)(y:α):Option β:=if y=x then v else f y
theorem Qaw (f:α ->Option β)(x:α)(v:Option β):QbX f x v x=v:=by unfold QbX;simp
theorem Qao (f:α ->Option β){x y:α}(v:Option β)(h:y≠x):QbX f x v y=f y:=by unfold QbX;simp [h]
theorem Qa1.store {mt e:TypeId}(h:Qa1 w t kv vo b c f)(K:Keyed prog t)(hi:∀x y,kv x=kv y ->x=y)(ht:prog.underlying mt=Uq (.map t e))(hc:c<maxLen){x:α}{y:β}{kl:Lit}(hk:keyOf prog t (kv x)=Uq kl):
  ∃w',(Instr.mapUpdate mt (.map (Uq b)) (kv x) (vo (Uq y))).run prog w=.ok () w'/\ Qa1 w' t kv vo b (c+1) (QbX f x (Uq y))/\ w.grownBy w' (Uq b):=by
 obtain⟨D,h⟩:=h;obtain⟨w',u,r,q⟩:=h.own.update K ht hc hk (val:=vo (Uq y)) (d:=.held (vo (Uq y))) (ps:=[]) rfl;have m:=K.key hk;refine⟨w',u,⟨_,r,fun x' kl' hk'=> ?_,fun kl' hh=> ?_,fun x' hx'=> ?_⟩,q⟩
 ·by_cases j:x'=x
  ·subst j;rw [hk] at hk';injection hk' with hk';subst hk';rw [Qaw,has_put_same h.own.isMap m,atKey_put_same h.own.isMap m];exact⟨rfl,rfl⟩
  ·have k:kl'≠kl:=fun e=>j (hi _ _ (K.inj (e▸hk') hk));rw [Qao _ _ j,has_put_other k,atKey_put_other k];exact h.at' x' kl' hk'
 ·by_cases k:kl'=kl
  ·subst k;exact⟨x,hk⟩
  ·rw [has_put_other k] at hh;exact h.cov kl' hh
 ·by_cases j:x'=x
  ·subst j;exact⟨kl,hk⟩
  ·rw [Qao _ _ j] at hx';exact h.ok x' hx'
theorem Qa1.len {mt e:TypeId}(h:Qa1 w t kv vo b c f)(K:Keyed prog t)(ht:prog.underlying mt=Uq (.map t e)):∃n:Nat,(∀ty,(Builtin.len_ #[mt] ty #[.map (Uq b)]).run prog w=.ok (Ud n) w)/\ n<=c/\ (0<n↔∃x,f x≠Up):=by
 obtain⟨D,h⟩:=h;refine⟨Maps.size D,fun ty=>h.own.len ht ty,h.own.size_le,?_⟩;obtain⟨q,rfl⟩:=h.own.isMap;constructor
 ·intro v;have z:∃k,has (DataW.map q) k=true:=by
   cases q with
   | nil=>simp [Maps.size] at v
   | cons p r=>
    obtain⟨o,u,_,j⟩:=h.own.entries K;have g:WideAt.IsKeyLit p.1:=j p (by injection u with u;rw [<- u];simp);refine⟨p.1,?_⟩;rw [has_eq];simp only [List.any_cons,Bool.or_eq_true];exact .inl (WideAt.sameKey_self g)
  obtain⟨k,j⟩:=z;obtain⟨x,m⟩:=h.cov k j;refine⟨x,fun e=> ?_⟩;have:=(h.at' x k m).1;rw [j,e] at this;cases this
 ·rintro⟨x,m⟩;obtain⟨k,j⟩:=h.ok x m;have:=(h.at' x k j).1;cases q with
  | nil=>cases e:f x with
   | none=>exact absurd e m
   | some y=>rw [e] at this;simp [has] at this
  | cons p r=>simp [Maps.size]
end
def Qad (p:List ByteArray)(k:Int):List Ky:=(UT p.length).map fun i=>(gS p i,if i+1<p.length then 3 else k)
theorem QaS (p:List ByteArray)(k:Int):(Qad p k).length=p.length:=by simp [Qad]
theorem Qbv{k:Int}(h:i<p.length):(Qad p k)[i]? =Uq (gS p i,if i+1<p.length then 3 else k):=by simp [Qad,h]
theorem Qd4{k:Int}(h:i<p.length):(Qad p k).take (i+1)=(Qad p k).take i++[(gS p i,if i+1<p.length then 3 else k)]:=by
 have j:i<(Qad p k).length:=by rw [QaS];exact h
 rw [List.take_add_one,Qbv h];rfl
theorem Qm1(hl:p.length=q.length)(h:∀i,i<p.length ->gS p i=gS q i):p=q:=by
 refine List.ext_getElem hl fun i h1 h2=> ?_;have:=h i h1;simpa [gS,UR,h1,h2] using this
theorem QgJ{k j:Int}(h:Qad p k=Qad q j)(h0:0<p.length):p=q/\ k=j:=by
 have r:p.length=q.length:=by have:=congrArg List.length h;simpa [QaS] using this
 have m:∀i,i<p.length ->(gS p i,if i+1<p.length then 3 else k)=(gS q i,if i+1<q.length then(3:Int) else j):=fun i hi=>by
  have:=Qbv (k:=k) hi;rw [h,Qbv oM] at this;injection this with this;exact this.symm
 refine⟨Qm1 r fun i hi=>(Prod.mk.inj (m i hi)).1,?_⟩;have:=(Prod.mk.inj (m (p.length - 1) oM)).2;rw [if_neg oM,if_neg oM] at this;exact this
theorem Qiz {α:Type}{l:List α}{x:α}{q:List α}(h:l.take (k+1)=l.take k++[x]):q <+:l.take (k+1)↔q <+:l.take k \/q=l.take k++[x]:=by
 rw [h];constructor
 ·intro j;rcases List.prefix_concat_iff.1 j with e|e
  ·exact .inr e
  ·exact .inl e
 ·rintro(e|e)
  ·exact e.trans (List.prefix_append _ _)
  ·rw [e];exact List.prefix_refl _
structure Tre (w:Ur)(B:Nat)(N:List Ky ->Option (Nat×Nat))(M:List Ky ->Dt ->Option ByteArray)(c:Nat):Prop where
 kids:∀p x,N p=Uq x ->Qa1 w 230 QaE Qbd x.1 c (fun y=>N (p++[y]))
 marks:∀p x,N p=Uq x ->Qa1 w 115 dtV Qb2 x.2 c (M p)
 apart:∀p q x y,N p=Uq x ->N q=Uq y ->x.1≠y.2/\ (x.1=y.1 ->p=q)/\ (x.2=y.2 ->p=q)
 lo:∀p x,N p=Uq x ->B<=x.1/\ B<=x.2
 none':∀p,N p=Up ->M p=fun _=>Up
 up:∀p y,N p=Up ->N (p++[y])=Up
section
variable {w w' : Ur} {B c : Nat} {N : List Ky -> Option (Nat × Nat)} {M : List Ky -> Dt -> Option ByteArray}
theorem Tre.same (h:Tre w B N M c)(hs:∀p x,N p=Uq x ->w'.heap[x.1]? =w.heap[x.1]? /\ w'.heap[x.2]? =w.heap[x.2]?):Tre w' B N M c:=
 ⟨fun p x hx=>(h.kids p x hx).same (hs p x hx).1,fun p x hx=>(h.marks p x hx).same (hs p x hx).2,h.apart,h.lo,h.none',h.up⟩
theorem Tre.lt (h:Tre w B N M c){p:List Ky}{x:Nat×Nat}(hx:N p=Uq x):x.1<w.heap.size/\ x.2<w.heap.size:=⟨(h.kids p x hx).lt,(h.marks p x hx).lt⟩
theorem Tre.bw (h:Tre w B N M c)(hb:Bl w w'):Tre w' B N M c:=h.same fun p x hx=>⟨hb.block _ (h.lt hx).1,hb.block _ (h.lt hx).2⟩
theorem Tre.mono {c':Nat}(h:Tre w B N M c)(hc:c<=c'):Tre w B N M c':=⟨fun p x hx=>(h.kids p x hx).mono hc,fun p x hx=>(h.marks p x hx).mono hc,h.apart,h.lo,h.none',h.up⟩
theorem Qcq {w:Ur}{q:Us}{v:Value}(h:w.cell? q=Uq v):∀k j,w.heap[q.block]? ≠Uq (.map k j):=by
 intro k j e;simp [UE,e] at h
theorem Tre.set (h:Tre w B N M c){q:Us}{v:Value}(u:Value)(hc:w.cell? q=Uq v):Tre (w.setCell q u) B N M c:=by
 refine h.same fun p x hx=>⟨zH _ _ _ _ fun e=> ?_,zH _ _ _ _ fun e=> ?_⟩
 ·obtain⟨m,k,j⟩:=(h.kids p x hx).obj;rw [e] at j;exact Qcq hc _ _ j
 ·obtain⟨m,k,j⟩:=(h.marks p x hx).obj;rw [e] at j;exact Qcq hc _ _ j
structure Gt (B:Nat)(w w':Ur):Prop where
 os:w'.os=w.os
 tape:w'.tape=w.tape
 output:w'.output=w.output
 size:w.heap.size<=w'.heap.size
 block:∀g,g<w.heap.size ->(g<B \/∀es cl,w.heap[g]? ≠Uq (.map es cl)) ->w'.heap[g]? =w.heap[g]?
theorem Gt.refl (B:Nat)(w:Ur):Gt B w w:=⟨rfl,rfl,rfl,Uu _,fun _ _ _=>rfl⟩
theorem Gt.trans {a b d:Ur}(h:Gt B a b)(k:Gt B b d):Gt B a d:=
 ⟨k.os.trans h.os,k.tape.trans h.tape,k.output.trans h.output,Ux h.size k.size,fun g hg ho=>by
  have e:=h.block g hg ho;exact(k.block g (Ut hg h.size) (ho.imp id fun hn es cl=>by rw [e];exact hn es cl)).trans e⟩
theorem Gt.of_below (h:Bl w w'):Gt B w w':=⟨h.os,h.tape,h.output,h.size,fun g hg _=>h.block g hg⟩
theorem Gt.bw (h:Gt B w w')(hB:B<=w.heap.size):Below B w w':=⟨h.os,h.tape,h.output,h.size,fun g hg=>h.block g oM (.inl hg)⟩
theorem Gt.cell (h:Gt B w w'){q:Us}{v:Value}(hc:w.cell? q=Uq v):w'.cell? q=Uq v:=
 (UB (h.block q.block (block_lt_of_cell hc) (.inr (Qcq hc)))).trans hc
theorem Gt.frozen (h:Gt B w w'){q r:Us}{v:Value}(hc:w.cell? r=Uq v)(hr:r.block=q.block):w'.frozen? q=w.frozen? q:=
 World.frozen?_of_block (hr▸h.block r.block (block_lt_of_cell hc) (.inr (Qcq hc)))
theorem Gt.grown {b:Nat}(hg:w.grownBy w' (Uq b))(hB:B<=b)(k:∃q m,w.heap[b]? =Uq (.map q m)):Gt B w w':=
 ⟨hg.os,hg.tape,hg.output,hg.size,fun g h1 j=>hg.block g h1 fun e=>by
  injection e with e;subst e;obtain⟨q,m,k⟩:=k;rcases j with j|j
  ·omega
  ·exact j _ _ k⟩
theorem Tre.add {p:List Ky}{y:Ky}{x:Nat×Nat}{s s':Nat}(h:Tre w B N M c)(hN:N p=Uq x)(hn:N (p++[y])=Up)(hk:Qa1 w 230 (α:=Ky) QaE Qbd s 0 (fun _=>Up))(hm:Qa1 w 115 (α:=Dt) dtV Qb2 s' 0 (fun _=>Up))(hss:s≠s')
  (hs:∀p x,N p=Uq x ->x.1<s/\ x.2<s/\ x.1<s'/\ x.2<s') (hB:B<=s/\ B<=s')
  (hu:Qa1 w' 230 QaE Qbd x.1 (c+1) (QbX (fun z=>N (p++[z])) y (Uq (s,s')))) (hg:w.grownBy w' (Uq x.1)):Tre w' B (QbX N (p++[y]) (Uq (s,s'))) M (c+1):=by
 have b:∀q z,q≠p ->q++[z]≠p++[y]:=fun q z hq e=>hq (List.append_inj' e rfl).1;have t:∀g,g<w.heap.size ->g≠x.1 ->w'.heap[g]? =w.heap[g]? :=fun g h1 h2=>hg.block g h1 (fun e=>h2 (by injection e));have A:=hs p x hN;refine⟨fun q z hz=> ?_,fun q z hz=> ?_,fun q r u v hu' hv=> ?_,fun q z hz=> ?_,fun q hq=> ?_,fun q z hq=> ?_⟩
 ·by_cases e:q=p++[y]
  ·subst e;rw [Qaw] at hz;injection hz with hz;subst hz;refine((hk.same (t _ hk.lt oS)).mono (Uv _)).ext fun z=> ?_;rw [Qao _ _ (by intro e;have:=congrArg List.length e;simp at this)];exact(h.up _ z hn).symm
  ·rw [Qao _ _ e] at hz;by_cases j:q=p
   ·subst j;rw [hN] at hz;injection hz with hz;subst hz;refine hu.ext fun z=> ?_;by_cases k:z=y
    ·subst k;rw [Qaw,Qaw]
    ·rw [Qao _ _ k,Qao _ _ (fun e=>k (oU e))]
   ·have o:=h.kids q z hz;refine((o.same (t _ o.lt fun k=>j ((h.apart q p z x hz hN).2.1 k))).mono (UA _)).ext fun z=> ?_;rw [Qao _ _ (b q z j)]
 ·by_cases e:q=p++[y]
  ·subst e;rw [Qaw] at hz;injection hz with hz;subst hz;refine((hm.same (t _ hm.lt oS)).mono (Uv _)).ext fun z=> ?_;rw [h.none' _ hn]
  ·rw [Qao _ _ e] at hz;have i:=h.marks q z hz;exact(i.same (t _ i.lt fun k=>(h.apart p q x z hN hz).1 k.symm)).mono (UA _)
 ·by_cases e:q=p++[y]
  ·by_cases m:r=p++[y]
   ·subst e;subst m;rw [Qaw] at hu' hv;injection hu' with hu';injection hv with hv;subst hu';subst hv;exact⟨hss,fun _=>rfl,fun _=>rfl⟩
   ·subst e;rw [Qaw] at hu';rw [Qao _ _ m] at hv;injection hu' with hu';subst hu';have:=hs r v hv;exact⟨oS,fun e=>by simp at e;omega,fun e=>by simp at e;omega⟩
  ·rw [Qao _ _ e] at hu';by_cases m:r=p++[y]
   ·subst m;rw [Qaw] at hv;injection hv with hv;subst hv;have:=hs q u hu';exact⟨oS,fun e=>by simp at e;omega,fun e=>by simp at e;omega⟩
   ·rw [Qao _ _ m] at hv;exact h.apart q r u v hu' hv
 ·by_cases e:q=p++[y]
  ·subst e;rw [Qaw] at hz;injection hz with hz;subst hz;exact hB
  ·rw [Qao _ _ e] at hz;exact h.lo q z hz
 ·by_cases e:q=p++[y]
  ·subst e;rw [Qaw] at hq;cases hq
  ·rw [Qao _ _ e] at hq;exact h.none' q hq
 ·by_cases e:q=p++[y]
  ·subst e;rw [Qaw] at hq;cases hq
  ·rw [Qao _ _ e] at hq;have j:q≠p:=fun j=>by subst j;rw [hN] at hq;cases hq
   rw [Qao _ _ (b q z j)];exact h.up q z hq
noncomputable def QkV (M:List Ky ->Dt ->Option ByteArray)(p:List Ky)(d:Dt)(s:ByteArray)(q:List Ky):Dt ->Option ByteArray:=if yes (q=p)=true then QbX (M p) d (Uq s) else M q
theorem QbI (M:List Ky ->Dt ->Option ByteArray)(p:List Ky)(d:Dt)(s:ByteArray):QkV M p d s p=QbX (M p) d (Uq s):=by unfold QkV;rw [if_pos (Qal rfl)]
theorem Qbb (M:List Ky ->Dt ->Option ByteArray){p q:List Ky}(d:Dt)(s:ByteArray)(h:q≠p):QkV M p d s q=M q:=by unfold QkV;rw [if_neg (by rw [Qaj h];simp)]
theorem Tre.mark {p:List Ky}{x:Nat×Nat}{d:Dt}{s:ByteArray}(h:Tre w B N M c)(hN:N p=Uq x)
  (hu:Qa1 w' 115 dtV Qb2 x.2 (c+1) (QbX (M p) d (Uq s))) (hg:w.grownBy w' (Uq x.2)):Tre w' B N (QkV M p d s) (c+1):=by
 have j:∀g,g<w.heap.size ->g≠x.2 ->w'.heap[g]? =w.heap[g]? :=fun g h1 h2=>hg.block g h1 (fun e=>h2 (by injection e));refine⟨fun q z hz=> ?_,fun q z hz=> ?_,h.apart,h.lo,fun q hq=> ?_,h.up⟩
 ·exact((h.kids q z hz).same (j _ (h.lt hz).1 (h.apart q p z x hz hN).1)).mono (UA _)
 ·by_cases e:q=p
  ·subst e;rw [hN] at hz;injection hz with hz;subst hz;rw [QbI];exact hu
  ·rw [Qbb _ _ _ e];exact((h.marks q z hz).same (j _ (h.lt hz).2 fun e2=>e ((h.apart q p z x hz hN).2.2 e2))).mono (UA _)
 ·have e:q≠p:=fun e=>by subst e;rw [hN] at hq;cases hq
  rw [Qbb _ _ _ e];exact h.none' q hq
end
theorem QaI.gt(h:QaI w a p)(hg:Gt B w w1):QaI w1 a p:=by
 refine h.imp id ?_;rintro⟨b,off,e,k,j⟩;exact⟨b,off,e,Ut k hg.size,fun i hi=>hg.cell (j i hi)⟩
theorem QbK.gt{l:List Lf}(h:QbK w a l)(hg:Gt B w w1):QbK w1 a l:=by
 refine h.imp id ?_;rintro⟨b,off,e,v,u⟩;refine⟨b,off,e,Ut v hg.size,fun i hi=> ?_⟩;obtain⟨y,z,j,s,k,m,q,r⟩:=u i hi;exact⟨y,z,hg.cell j,s.gt hg,hg.cell k,hg.cell m,hg.cell q,hg.cell r⟩
def Qas (p:List ByteArray)(k:Int)(i:Nat):Ky:=(gS p i,if i+1<p.length then 3 else k)
theorem Qly (p:List ByteArray)(a:Option Us)(c:Nat)(k:Int)(i:Nat)(w:Ur)(hp:p.length<=1048576)(hi:i<p.length)(h:QaI w a p):
  Cl 158 #[Uf a p.length c,Ud i,Ud k] w (Rt w (QaE (Qas p k i))):=by
 rcases h with h|⟨b,off,rfl,t,y⟩
 ·omega
 have x0:=y i hi;have A:(0:Int)<=(i:Int):=UZ _;have E:(i:Int)<(p.length:Int):=oM;obtain⟨s,u⟩:=zE (gS p i);rw [u] at x0;have j:Hid (Qas p k i=(s,if i+1<p.length then 3 else k)):=hid (by unfold Qas;rw [u]);obtain⟨m,z⟩:∃m:Nat,p.length=m+1:=⟨p.length - 1,oM⟩;have o:IntKind.i64.wrap ((p.length:Int) - 1)=(m:Int):=by rw [UY];omega
 clear u y;by_cases q:i+1<p.length
 ·have g:decide (i<m)=true:=oS;have r:=hid (show Qas p k i=(s,3) by rw [j.out,if_pos q]);clear j q z;go_enter func158,ntmps158;go_wp2_with fail;refine zF (v:=Uo #[Um s,Ud 3]) (by simp [results,results158,go_sem]) ⟨by rw [r.out];rfl,?_⟩;exact zO _ _
 ·have g:decide (i<m)=false:=oS;have r:=hid (show Qas p k i=(s,k) by rw [j.out,if_neg q]);clear j q z;go_enter func158,ntmps158;go_wp2_with fail;refine zF (v:=Uo #[Um s,Ud k]) (by simp [results,results158,go_sem]) ⟨by rw [r.out];rfl,?_⟩;exact zO _ _
theorem Qdx (w:Ur):
  Cl 138 #[] w fun e w'=>∃s s',e=Ui (Uo #[.map (Uq s),.map (Uq s')])/\ s≠s'/\ w.heap.size<=s/\ w.heap.size<=s'/\ Qa1 w' 230 (α:=Ky) QaE Qbd s 0 (fun _=>Up)/\ Qa1 w' 115 (α:=Dt) dtV Qb2 s' 0 (fun _=>Up)/\ Bl w w':=by
 have m:=@run_makeMap prog;have j:=hid ((Qa1.made (α:=Ky) (w.alloc (Uj #[.map (Uq (w.heap.size+1)),.map (Uq (w.heap.size+1+1))] 172)) 230 QaE Qbd).same (w':=(((w.alloc (Uj #[.map (Uq (w.heap.size+1)),.map (Uq (w.heap.size+1+1))] 172)).alloc (.map #[] 0)).alloc (.map #[] 0))) (Below.heap_alloc _ _ _ oP));have k:=hid (Qa1.made (α:=Dt) ((w.alloc (Uj #[.map (Uq (w.heap.size+1)),.map (Uq (w.heap.size+1+1))] 172)).alloc (.map #[] 0)) 115 dtV Qb2);go_enter func138,ntmps138;go_wp2_with fail;refine zF (v:=Uo #[.map (Uq (w.heap.size+1)),.map (Uq (w.heap.size+1+1))]) (by simp [results,results138,go_sem]) ⟨_,_,rfl,oM,oM,oM,oU j,by simpa using k.out,?_⟩;exact((zO _ _).alloc oP _).alloc oS _
structure Bx2 (w:Ur)(b:Nat)(v0 v1:Value):Prop where
 c0:w.cell? (Ub b)=Uq v0
 c1:w.cell? (Ua b 1)=Uq v1
 f:∀i,w.frozen? (Ua b i)=false
 lt:b<w.heap.size
theorem Bx2.q2(h:Bx2 w b v0 v1):w.cell? (Ub b)=Uq v0/\ w.cell? (Ua b 1)=Uq v1:=⟨h.c0,h.c1⟩
theorem Bx2.p2(h:Bx2 w b v0 v1):w.cell? (Ub b)=Uq v0/\ w.cell? (Ua b 1)=Uq v1/\ ∀i,w.frozen? (Ua b i)=false:=⟨h.c0,h.c1,h.f⟩
theorem Bx2.bw(h:Bx2 w b v0 v1)(hb:Below B w w')(hB:b<B):Bx2 w' b v0 v1:=
 ⟨(hb.cell (p:=(Ub b)) hB).trans h.c0,(hb.cell (p:=(Ua b 1)) hB).trans h.c1,fun i=>(hb.frozen (p:=(Ua b i)) hB).trans (h.f i),Ut h.lt hb.size⟩
theorem Bx2.gt(h:Bx2 w b v0 v1)(hg:Gt B w w'):Bx2 w' b v0 v1:=
 ⟨hg.cell h.c0,hg.cell h.c1,fun i=>(hg.frozen (q:=(Ua b i)) h.c0 rfl).trans (h.f i),Ut h.lt hg.size⟩
theorem Bx2.setAt(h:Bx2 w b v0 v1)(q:Us)(u:Value)(hq:q.block≠b):Bx2 (w.setCell q u) b v0 v1:=
 ⟨by rw [UF _ _ _ _ hq];exact h.c0,by rw [UF _ _ _ _ hq];exact h.c1,fun i=>by rw [UG];exact h.f i,by simp [UC];exact h.lt⟩
theorem Bx2.set0(h:Bx2 w b v0 v1)(u:Value):Bx2 (w.setCell (Ub b) u) b u v1:=
 ⟨UH _ _ _ h.c0,by simp [UI,h.c1],fun i=>by rw [UG];exact h.f i,by simp [UC];exact h.lt⟩
theorem Bx2.set1(h:Bx2 w b v0 v1)(u:Value):Bx2 (w.setCell (Ua b 1) u) b v0 u:=
 ⟨by simp [UI,h.c0],UH _ _ _ h.c1,fun i=>by rw [UG];exact h.f i,by simp [UC];exact h.lt⟩
theorem Bx2.set(h:Bx2 w b v0 v1)(u u':Value):Bx2 ((w.setCell (Ub b) u).setCell (Ua b 1) u') b u u':=(h.set0 u).set1 u'
theorem Bx2.made (w:Ur)(v0 v1:Value)(t:TypeId):Bx2 (w.alloc (Uj #[v0,v1] t)) w.heap.size v0 v1:=⟨oP,oP,fun i=>oP,oP⟩
theorem Bx2.allocs(h:Bx2 w b v0 v1)(o:Obj):Bx2 (w.alloc o) b v0 v1:=h.bw (zO _ o) h.lt
structure Bx1 (w:Ur)(b:Nat)(v0:Value):Prop where
 c0:w.cell? (Ub b)=Uq v0
 f:∀i,w.frozen? (Ua b i)=false
 lt:b<w.heap.size
theorem Bx1.bw(h:Bx1 w b v0)(hb:Below B w w')(hB:b<B):Bx1 w' b v0:=
 ⟨(hb.cell (p:=(Ub b)) hB).trans h.c0,fun i=>(hb.frozen (p:=(Ua b i)) hB).trans (h.f i),Ut h.lt hb.size⟩
theorem Bx1.gt(h:Bx1 w b v0)(hg:Gt B w w'):Bx1 w' b v0:=
 ⟨hg.cell h.c0,fun i=>(hg.frozen (q:=(Ua b i)) h.c0 rfl).trans (h.f i),Ut h.lt hg.size⟩
theorem Bx1.setAt(h:Bx1 w b v0)(q:Us)(u:Value)(hq:q.block≠b):Bx1 (w.setCell q u) b v0:=
 ⟨by rw [UF _ _ _ _ hq];exact h.c0,fun i=>by rw [UG];exact h.f i,by simp [UC];exact h.lt⟩
theorem Bx1.made (w:Ur)(v0:Value)(t:TypeId):Bx1 (w.alloc (Uj #[v0] t)) w.heap.size v0:=⟨oP,fun i=>oP,oP⟩
theorem Gt.set(h:Gt B w wr)(q:Us)(u:Value)(hq:w.heap.size<=q.block):Gt B w (wr.setCell q u):=
 ⟨h.os,h.tape,h.output,by simpa [UC] using h.size,fun g hg ho=>(zH _ _ _ _ oM).trans (h.block g hg ho)⟩
theorem Gt.keep(h:Gt B w wr)(hb:Bl wr w1):Gt B w w1:=h.trans (Gt.of_below hb)
theorem Qay {α β:Type}(w:Ur){ops:Array Oper}{rest:List Oper}{o:Oper}{a:Act}{Q:Exit ->Act ->Ur ->Prop}
  (hg:o.guard=Up) (m x v:Operand) (mt:TypeId) (hop:o.op=Op.mapUpdate mt m x v) (t e:TypeId) (K:Keyed prog t) (kv:α ->Value) (hi:∀x y,kv x=kv y ->x=y) (ht:prog.underlying mt=Uq (.map t e)) (vo:Option β ->Value) (b c:Nat) (f:α ->Option β)
  (hm:a.eval m=.map (Uq b)) (h:Qa1 w t kv vo b c f) (hc:c<maxLen) (k:α) (y:β) (kl:Lit) (hx:a.eval x=kv k) (hv:a.eval v=vo (Uq y)) (hk:keyOf prog t (kv k)=Uq kl)
  (hK:∀w',Qa1 w' t kv vo b (c+1) (QbX f k (Uq y)) ->w.grownBy w' (Uq b) ->wpList prog ops Q rest (a.put o.dst undef) w'):
  wpList prog ops Q (o::rest) a w:=by
 refine wpList_plain hg fun K' hK'=> ?_;obtain⟨w',j,q,r⟩:=h.store K hi ht hc (y:=y) hk;unfold Oper.wp;simp [execOp,hop,hm,hx,hv,j,Result.andThen];exact hK' _ _ (hK w' q r)
theorem QdT (w:Ur):(zeroValue 172).run prog w=.ok (Qbd Up) w:=oK
theorem QfZ (w:Ur):(zeroValue 225).run prog w=.ok (Qb2 Up) w:=oK
structure PB (w:Ur)(h:Nat)(x:Nat×Nat)(r q:Int)(s:ByteArray):Prop where
 n:Bx2 w h (.map (Uq x.1)) (.map (Uq x.2))
 d:Bx2 w (h+1) (Ud r) (Ud q)
 m:Bx1 w (h+2) (Um s)
theorem PB.bw{x:Nat×Nat}{q:Int}(p:PB w h x r q s)(hb:Bl w w'):PB w' h x r q s:=⟨p.n.bw hb p.n.lt,p.d.bw hb p.d.lt,p.m.bw hb p.m.lt⟩
theorem PB.gt{x:Nat×Nat}{q:Int}(p:PB w h x r q s)(hb:Gt B w w'):PB w' h x r q s:=⟨p.n.gt hb,p.d.gt hb,p.m.gt hb⟩
theorem PB.set{x:Nat×Nat}{q:Int}(p:PB w h x r q s)(y:Nat×Nat):PB ((w.setCell (Ub h) (.map (Uq y.1))).setCell (Ua h 1) (.map (Uq y.2))) h y r q s:=
 ⟨p.n.set _ _,(p.d.setAt _ _ oP).setAt _ _ oP,(p.m.setAt _ _ oP).setAt _ _ oP⟩
theorem PB.setAt{x:Nat×Nat}{q:Int}(p:PB w h x r q s)(a:Us)(u:Value)(ha:h+2<a.block):PB (w.setCell a u) h x r q s:=
 ⟨p.n.setAt _ _ oM,p.d.setAt _ _ oM,p.m.setAt _ _ oM⟩
theorem Qrl (X:Nat)(p:List ByteArray)(a:Option Us)(cp:Nat)(k:Int)(r q:Int)(s:ByteArray)(B c:Nat)(N:List Ky ->Option (Nat×Nat))(M:List Ky ->Dt ->Option ByteArray)(x0:Nat×Nat)(w:Ur)
  (hp:p.length<=1048576) (hs:∀i,(gS p i).size<=1048576) (hk:(Lit.int Uh k).wf=true) (hr:(Lit.int Uh r).wf=true) (hq:(Lit.int Uh q).wf=true) (hc:c<=1073741824) (hB:B<=w.heap.size) (h:QaI w a p) (hT:Tre w B N M c) (h0:N []=Uq x0) (hX:X<w.heap.size) (hXN:∀z x,N z=Uq x ->x.1≠X/\ x.2≠X):
  Cl 139 #[Uo #[.map (Uq x0.1),.map (Uq x0.2)],Uf a p.length cp,Ud k,Uo #[Ud r,Ud q],Uo #[Um s]] w fun e w'=>e=Ui (Ul #[])/\ Gt B w w'/\ w'.heap[X]? =w.heap[X]? /\
   ∃N',Tre w' B N' (QkV M (Qad p k) (r,q) s) (c+p.length+1)/\ N' []=Uq x0/\∀z,(N' z).isSome=true↔(N z).isSome=true \/z <+:Qad p k:=by
 obtain⟨W,hW⟩:=zE (((w.alloc (Uj #[.map (Uq x0.1),.map (Uq x0.2)] 172)).alloc (Uj #[Ud r,Ud q] 115)).alloc (Uj #[Um s] 225));have b0:Bl w W:=hW▸((zO _ _).alloc oP _).alloc oS _;have P0:PB W w.heap.size x0 r q s:=by
  have d1:=Bx2.made (w.alloc (Uj #[.map (Uq x0.1),.map (Uq x0.2)] 172)) (Ud r) (Ud q) 115;have m1:=Bx1.made ((w.alloc (Uj #[.map (Uq x0.1),.map (Uq x0.2)] 172)).alloc (Uj #[Ud r,Ud q] 115)) (Um s) 225;rw [<- hW];exact⟨((Bx2.made w _ _ _).allocs _).allocs _,by simpa using d1.allocs _,by simpa using m1⟩
 have Gd:Hid (W.heap[X]? =w.heap[X]?):=hid (b0.block X hX);have Hd:=hid hXN;have Gf:=hid hX;have HS:=hid h;have Ga:=hid P0;have Gc:=hid (hT.bw b0);have H9:=hid (Gt.of_below (B:=B) b0);have H0:=hid h0;have HB:=hid hB;have Hs:=hid hs;clear h hT h0 b0 P0 hs hB hX hXN;go_enter func139,ntmps139;go_wp2_with fail;try rw [hW]
 clear hW;go_loopw [16] (fun i wr=>∃j:Nat,j<=p.length/\ i=Ud j/\ Hid (Gt B w wr)/\ (∃v x,Hid (Tre wr B v M (c+j))/\ Hid (v []=Uq x0)/\ Hid (v ((Qad p k).take j)=Uq x)/\ Hid (∀z,(v z).isSome=true↔(N z).isSome=true \/z <+:(Qad p k).take j)/\ Hid (PB wr w.heap.size x r q s)/\ Hid (wr.heap[X]? =w.heap[X]?)/\ Hid (∀z x,v z=Uq x ->x.1≠X/\ x.2≠X))) (fun i _=>p.length - (intOf i).toNat);case atStart=>
  refine⟨0,Uv _,rfl,H9,N,x0,Gc,H0,hid (oU H0),hid (fun z=> ?_),Ga,Gd,Hd⟩;simp only [List.take_zero,List.prefix_nil];exact⟨fun h=> .inl h,fun h=>h.elim id (fun e=>by rw [e,H0.out];rfl)⟩
 case round=>
  clear Gc H9 Ga Gd Hd;obtain⟨j,hj,rfl,I,v,x,Z,Hy,E,S,J,HX,Ho⟩:=hrel;have H5:Hid (X<wr.heap.size):=hid (Ut Gf I.size);have Hp:Hid (w.heap.size≠X):=hid (oH Gf);by_cases Hq:j<p.length
  ·have i1:(0:Int)<=(j:Int):=UZ _;have i2:(j:Int)<(p.length:Int):=oM;have Hj:=hid (Qly p a cp k j wr hp Hq (HS.gt I));obtain⟨nm,g,P⟩:∃nm g,Qas p k j=(nm,g):=⟨_,_,rfl⟩;have Hw:=hid P;rw [P] at Hj;obtain⟨H,He⟩:∃H,keyOf prog 230 (QaE (nm,g))=Uq H:=by
    unfold Qas at P;have e1:=(Prod.mk.inj P).1;have e2:=(Prod.mk.inj P).2;refine QhT ?_ ?_
    ·rw [<- e1];have:=Hs j;unfold maxLen;omega
    ·rw [<- e2];split
     ·decide
     ·exact hk
   have Hi:=hid He;clear P He;dsimp only [QaE] at Hj;go_wp2_with fail;refine Hj.mono ?_;rintro e w1 ⟨rfl,b1⟩;obtain⟨w2,H8⟩:=zE (w1.alloc (Uj #[Um nm,Ud g] 230));have D:Bl wr w2:=H8▸b1.alloc b1.size _;have Hu:Bx2 w2 w1.heap.size (Um nm) (Ud g):=H8▸Bx2.made _ _ _ _;have Hl:=J.bw D;have Hn:=hid (Z.bw D);have Hr:=hid (I.keep D);have Ge:Hid (w2.heap[X]? =w.heap[X]?):=hid ((D.block X H5).trans HX);have Hb:Hid (X<w2.heap.size):=hid (Ut H5 D.size);have e0:=Hl.n.c0;obtain⟨e1,e2⟩:=Hu.q2;have H1:=hid Hl;have Hv:=hid Hu;have Gm:Hid (w.heap.size+2<w2.heap.size):=hid Hl.m.lt;have Hf:=(Hn.kids _ x E).look_ok (mt:=169) Qa4 underlying169 (QdT w2) Hi;clear Hu Hl b1 D Hj Z I J;dsimp only [QaE] at Hf;have Gi:(Qad p k).take (j+1)=(Qad p k).take j++[(nm,g)]:=(by rw [Qd4 Hq];have:=Hw.out;unfold Qas at this;rw [this]);have Hm:=hid Gi;clear Gi;cases hNy:v ((Qad p k).take j++[(nm,g)]) with
   | some y=>
    rw [hNy] at Hf;dsimp only [Qbd,Option.isSome] at Hf;have Hk:=hid hNy;clear hNy;obtain⟨O,G⟩:=zE (w2.alloc (Uj #[.map (Uq y.1),.map (Uq y.2)] 172));have t:Bl w2 O:=G▸zO _ _;have KB:Bx2 O w2.heap.size (.map (Uq y.1)) (.map (Uq y.2)):=G▸Bx2.made _ _ _ _;obtain⟨g0,g1⟩:=KB.q2;have C:=H1.bw t;obtain⟨n0,n1⟩:=C.n.q2;have f0:=C.n.f 0;have f1:=C.n.f 1;have K:=hid ((Hn.bw t).set (q:=(Ub w.heap.size)) (.map (Uq y.1)) n0);have Gn:=hid (K.set (q:=(Ua w.heap.size 1)) (.map (Uq y.2)) ((C.n.set0 _).c1));have Hh:=hid (((Hr.keep t).set (Ub w.heap.size) (.map (Uq y.1)) zL).set (Ua w.heap.size 1) (.map (Uq y.2)) zL);have Gl:=hid (C.set y);have Gq:Hid (((O.setCell (Ub w.heap.size) (.map (Uq y.1))).setCell (Ua w.heap.size 1) (.map (Uq y.2))).heap[X]? =w.heap[X]?):=hid (by
     rw [zH _ _ _ _ (by exact Hp.symm),zH _ _ _ _ (by exact Hp.symm)];exact(t.block X Hb).trans Ge)
    clear t KB C K;go_wp2_with fail;go_roundw;case rel=>
     refine⟨j+1,Hq,oN,Hh,v,y,hid (Gn.mono oM),Hy,hid (by rw [Hm.out];exact Hk),hid (fun z=> ?_),Gl,Gq,Ho⟩;rw [S z,Qiz Hm.out];constructor
     ·rintro(e|e)
      ·exact .inl e
      ·exact .inr (.inl e)
     ·rintro(e|e|e)
      ·exact .inl e
      ·exact .inr e
      ·exact(S z).1 (by rw [e,Hk.out];rfl)
    case measure=>exact oE
   | none=>
    rw [hNy] at Hf;dsimp only [Qbd,Option.isSome] at Hf;have Hk:=hid hNy;clear hNy;obtain⟨O,G⟩:=zE (w2.alloc (Uj #[.map Up,.map Up] 172));have t:Bl w2 O:=G▸zO _ _;have KB:Bx2 O w2.heap.size (.map Up) (.map Up):=G▸Bx2.made _ _ _ _;have T:=hid KB;have Ha:=hid (Hv.bw t Hv.lt);have Hz:=hid (H1.bw t);have K:=hid (Hn.bw t);have Hh:=hid (Hr.keep t);have Gv:=hid t.size;have Gp:Hid (O.heap[X]? =w.heap[X]?):=hid ((t.block X Hb).trans Ge);have Hc:Hid (X<O.heap.size):=hid (Ut Hb t.size);have Go:=hid G;clear t KB H1 Hn Hr Hv G;go_wp2_with fail;rw [Go.out];refine(Qdx O).mono ?_;rintro e w4 ⟨A,o,rfl,Gs,Gw,Gx,m1,m2,Y⟩;have L:=T.bw Y T.lt;obtain⟨g0,g1⟩:=L.q2;have h0:=L.f 0;have h1:=L.f 1;obtain⟨Q,V⟩:=zE ((w4.setCell (Ub w2.heap.size) (.map (Uq A))).setCell (Ua w2.heap.size 1) (.map (Uq o)));have Gz:w1.heap.size<O.heap.size:=Ha.lt;have Gy:=Hz.m.lt;have Hg:w2.heap.size≠w1.heap.size:=H8▸oP;have H6:PB Q w.heap.size x r q s/\ w.heap.size+2<w2.heap.size:=by
     have hz:w.heap.size+2<w2.heap.size:=Gm.out;rw [<- V];exact⟨((Hz.bw Y).setAt _ _ hz).setAt _ _ hz,hz⟩
    have K5:Bx2 Q w2.heap.size (.map (Uq A)) (.map (Uq o)):=V▸L.set _ _;have Y5:Bx2 Q w1.heap.size (Um nm) (Ud g):=V▸((Ha.bw Y Ha.lt).setAt _ _ Hg).setAt _ _ Hg;have T5:Tre Q B v M (c+j):=V▸((K.bw Y).set _ g0).set _ (L.set0 _).c1;have G5:Gt B w Q:=V▸((Hh.keep Y).set _ _ oQ).set _ _ oQ;have X5:Q.heap[X]? =w.heap[X]? :=by
     have Gk:X≠w2.heap.size:=oH Hb;rw [<- V,zH _ _ _ _ Gk,zH _ _ _ _ Gk];exact(Y.block X Hc).trans Gp
    have Gu:w4.heap.size=Q.heap.size:=(by rw [<- V];simp [UC]);have H4:Hid (∀z x,QbX v ((Qad p k).take j++[(nm,g)]) (Uq (A,o)) z=Uq x ->x.1≠X/\ x.2≠X):=hid (fun z y hy=>by
     have h3:=Hc.out;by_cases F:z=(Qad p k).take j++[(nm,g)]
     ·rw [F,Qaw] at hy;injection hy with hy;subst hy;exact⟨oQ,by show o≠X;omega⟩
     ·rw [Qao _ _ F] at hy;exact Ho z y hy)
    have Gg:A≠w2.heap.size:=(by intro e;have:=T.lt;omega);have Gh:o≠w2.heap.size:=(by intro e;have:=T.lt;omega);have M1:Qa1 Q 230 (α:=Ky) QaE Qbd A 0 (fun _=>Up):=V▸(m1.same (zH _ _ _ _ Gg)).same (zH _ _ _ _ Gg);have M2:Qa1 Q 115 (α:=Dt) dtV Qb2 o 0 (fun _=>Up):=V▸(m2.same (zH _ _ _ _ Gh)).same (zH _ _ _ _ Gh);have c1:=H6.1.n.c0;obtain⟨c2,c3⟩:=Y5.q2;obtain⟨c4,c5⟩:=K5.q2;have HU:Hid (∀u,Qa1 u 230 QaE Qbd x.1 (c+j+1) (QbX (fun z=>v ((Qad p k).take j++[z])) (nm,g) (Uq (A,o))) ->Q.grownBy u (Uq x.1) ->Tre u B (QbX v ((Qad p k).take j++[(nm,g)]) (Uq (A,o))) M (c+j+1)/\ Gt B w u/\ PB u w.heap.size x r q s/\ Bx2 u w2.heap.size (.map (Uq A)) (.map (Uq o))/\ u.heap[X]? =w.heap[X]?):=hid (fun u U b=>by
     have Gr:=(T5.lo _ x E).1;have H7:=Gt.grown b Gr (T5.kids _ x E).obj;refine⟨T5.add E Hk M1 M2 Gs (fun q z hz=> ?_) ⟨oH HB,by have:=HB.out;omega⟩ U b,G5.trans H7,H6.1.gt H7,K5.gt H7,(b.block X (oJ Hc Y.size) (fun e=>(Ho _ x E).1 (Option.some.inj e).symm)).trans X5⟩;have:=K.lt hz;exact⟨oM,oM,oM,oM⟩)
    have Hx:=hid (T5.kids _ x E);clear H6 X5 Gu K5 Y5 T5 G5 M1 M2 m1 m2 Y L T Ha Hz K Hh;go_wp2_with (refine Qay _ rfl _ _ _ 169 rfl 230 172 Qa4 QaE (fun _ _=>Qb1) underlying169 Qbd x.1 (c+j) (fun z=>v ((Qad p k).take j++[z])) rfl Hx oL (nm,g) (A,o) H rfl rfl Hi ?_;intro u U b;obtain⟨T6,R,P6,K6,X6⟩:=HU u U b;have H3:=hid X6;clear X6;have H2:=hid T6;have Ht:=hid R;have Gb:=hid P6;obtain⟨t0,t1⟩:=P6.n.q2;have t2:=P6.n.f 0;have t3:=P6.n.f 1;obtain⟨t4,t5⟩:=K6.q2;clear U b T6 R P6 K6);go_roundw;case rel=>
     have T7:=(H2.set (q:=(Ub w.heap.size)) (.map (Uq A)) t0).set (q:=(Ua w.heap.size 1)) (.map (Uq o)) (Gb.n.set0 _).c1;refine⟨j+1,Hq,oN,hid ((Ht.set _ _ zL).set _ _ zL),QbX v ((Qad p k).take j++[(nm,g)]) (Uq (A,o)),(A,o),hid T7,hid ?_,hid ?_,hid (fun z=> ?_),hid (Gb.set (A,o)),hid ?_,H4⟩
     ·rw [Qao _ _ oP];exact Hy
     ·rw [Hm.out,Qaw]
     ·rw [Qiz Hm.out];by_cases F:z=(Qad p k).take j++[(nm,g)]
      ·rw [F,Qaw];exact⟨fun _=> .inr (.inr rfl),fun _=>rfl⟩
      ·rw [Qao _ _ F,S.out z];constructor
       ·rintro(h|h)
        ·exact .inl h
        ·exact .inr (.inl h)
       ·rintro(h|h|h)
        ·exact .inl h
        ·exact .inr h
        ·exact absurd h F
     ·rw [zH _ _ _ _ (by exact Hp.symm),zH _ _ _ _ (by exact Hp.symm)];exact H3
    case measure=>exact oE
  ·obtain rfl:j=p.length:=oM;have Gj:(Qad p k).take p.length=Qad p k:=List.take_of_length_le (by rw [QaS];exact Uu _);rw [Gj] at E S;obtain⟨H,He⟩:∃H,keyOf prog 115 (dtV (r,q))=Uq H:=QdY hr hq;have Hi:=hid He;have c0:=J.n.c1;obtain⟨c1,c2⟩:=J.d.q2;have c3:=J.m.c0;have Hx:=hid (Z.marks _ x E);have HU:Hid (∀u,Qa1 u 115 dtV Qb2 x.2 (c+p.length+1) (QbX (M (Qad p k)) (r,q) (Uq s)) ->wr.grownBy u (Uq x.2) ->Tre u B v (QkV M (Qad p k) (r,q) s) (c+p.length+1)/\ Gt B w u/\ u.heap[X]? =w.heap[X]?):=hid (fun u U b=>
     ⟨Z.mark E U b,I.trans (Gt.grown b (Z.lo _ x E).2 (Z.marks _ x E).obj),(b.block X H5 (fun e=>(Ho _ x E).2 (Option.some.inj e).symm)).trans HX⟩)
   clear Gj He Z I J;go_wp2_with (refine Qay _ rfl _ _ _ 170 rfl 115 225 Qat dtV (fun _ _=>Qc8) underlying170 Qb2 x.2 (c+p.length) (M (Qad p k)) rfl Hx oL (r,q) s H rfl rfl Hi ?_;intro u U b;obtain⟨T6,R,X6⟩:=HU u U b;have H3:=hid X6;clear X6;have H2:=hid T6;have Ht:=hid R;clear U b T6 R);go_end0;exact⟨rfl,Ht,H3,v,H2,Hy,S⟩
end Go.Proofs.YtedpomikcaemgaaGreatDoor
