import Derived.Test.YtgmjgboibfdaeaaGreatDoorRows
import Derived.WalkKit
import Derived.ProofKit
import Derived.OpenShut
import Derived.ShutString
import Derived.ChangeOld
import Derived.Below
import Derived.WalkLawsBesides
import Derived.WalkSpells
import Derived.Outline
import Derived.Deep.RegionHeld3
import Derived.Deep.QuietTactic
import Derived.BigQuiet
set_option linter.unusedVariables false
set_option linter.unusedSimpArgs false
set_option maxRecDepth 100000
set_option maxHeartbeats 40000000
namespace Go.Proofs.YtgmjgboibfdaeaaGreatDoor
open Go.ChangeShapes Go.WideShapes Go.ChangeAt Go.RowKit
variable {B b cap fuel g i k n:Nat}{F R T:Nat ->Int}{P:Program}{a:Act}{e:TypeId}{f f' r r' t:Int}{p:List ByteArray}{v v0 v1 v2 v3 v4:Value}{w w' w1:World}{xs:List Value}
abbrev Bl (w w':World):=Below w.heap.size w w'
abbrev Rt (w:World)(v:Value)(e:Ending)(w':World):Prop:=e=.returned v/\ Bl w w'
abbrev Cl:=@Calls Tryz.prog
theorem zE {α:Type _}(a:α):∃b,a=b:=⟨a,rfl⟩
theorem hid {p:Prop}(h:p):Hid p:=h
def I64 (f:Nat ->Int):Prop:=∀i, -9223372036854775808<=f i/\ f i<=9223372036854775807
def Qa7 (w:World)(a:Option Addr)(n:Nat)(R F T:Nat ->Int):Prop:=
 n=0 \/∃b off,a=some ⟨b,off,none⟩/\ b<w.heap.size/\∀i,i<n ->w.cell? ⟨b,off+i*3,none⟩=some (.int .i64 (R i))/\ w.cell? ⟨b,off+i*3+1,none⟩=some (.int .i64 (F i))/\ w.cell? ⟨b,off+i*3+2,none⟩=some (.int .i64 (T i))
theorem Qa7.kept{a:Option Addr}(h:Qa7 w a n R F T)(hb:Below B w w1)(hc:∀x,a=some x ->x.block<B):Qa7 w1 a n R F T:=by
 rcases h with h|⟨b,k,rfl,v,u⟩
 ·exact .inl h
 ·have j:b<B:=hc ⟨b,k,none⟩ rfl;refine .inr ⟨b,k,rfl,Nat.lt_of_lt_of_le v hb.size,fun i hi=> ?_⟩;obtain⟨m,q,r⟩:=u i hi;exact⟨(hb.cell (p:=⟨b,_,none⟩) j).trans m,(hb.cell (p:=⟨b,_,none⟩) j).trans q,(hb.cell (p:=⟨b,_,none⟩) j).trans r⟩
theorem Qa7.bw{a:Option Addr}(h:Qa7 w a n R F T)(hb:Bl w w1):Qa7 w1 a n R F T:=by
 rcases h with h|⟨b,m,rfl,j,k⟩
 ·exact .inl h
 ·exact Qa7.kept (.inr ⟨b,m,rfl,j,k⟩) hb (fun x hx=>by simp at hx;subst hx;exact j)
theorem Qa7.same{a:Option Addr}(h:Qa7 w a n R F T)(hs:w.heap.size<=w1.heap.size)(hc:∀x,a=some x ->w1.heap[x.block]? =w.heap[x.block]?):Qa7 w1 a n R F T:=by
 rcases h with h|⟨b,k,rfl,y,v⟩
 ·exact .inl h
 ·have u:w1.heap[b]? =w.heap[b]? :=hc ⟨b,k,none⟩ rfl;have j:∀o,w1.cell? ⟨b,o,none⟩=w.cell? ⟨b,o,none⟩:=fun o=>World.cell?_of_block (w:=w) (w':=w1) (a:=⟨b,o,none⟩) u;refine .inr ⟨b,k,rfl,Nat.lt_of_lt_of_le y hs,fun i hi=> ?_⟩;obtain⟨m,q,r⟩:=v i hi;exact⟨(j _).trans m,(j _).trans q,(j _).trans r⟩
theorem Qa7.set{a:Option Addr}(h:Qa7 w a n R F T)(p:Addr)(u:Value)(hp:∀x,a=some x ->x.block≠p.block):Qa7 (w.setCell p u) a n R F T:=
 h.same (by simp [World.setCell]) (fun x hx=>Below.heap_setCell _ _ _ _ (hp x hx))
def QaJ (r f t:Int):Bool:=decide (0<=r/\ r<8/\ 1<=f/\ f<=t/\ t<=1000000000)
def QaC (r t r' f':Int):Bool:=decide (r<r' \/(r=r'/\ t+1<f'))
theorem Qcc(h:0<=r/\ r<8/\ 1<=f/\ f<=t/\ t<=1000000000):QaJ r f t=true:=by unfold QaJ;exact decide_eq_true h
theorem Qa4(h:¬(0<=r/\ r<8/\ 1<=f/\ f<=t/\ t<=1000000000)):QaJ r f t=false:=by unfold QaJ;exact decide_eq_false h
theorem QaV:QaJ r f t=true↔(0<=r/\ r<8/\ 1<=f/\ f<=t/\ t<=1000000000):=by unfold QaJ;simp
theorem QbE {a b:Bool}(h:a=b):Ending.returned (.bool a)=.returned (.bool b):=by rw [h]
def QcD (l:Int)(n:Nat):Int:=if l<n then -1 else l - n
theorem Qbv {k:IntKind}{a b:Int}(h:a=b):Ending.returned (.int k a)=.returned (.int k b):=by rw [h]
theorem Qnq (a:Option Addr)(n c:Nat)(l:Int)(w:World)(hn:n<=9223372036854775807)(hl:0<=l)(hl':l<=1048576):
  Cl 59 #[.slice a n c,.int .i64 l] w fun e w'=>e=.returned (.int .i64 (QcD l n))/\ w'=w:=by
 by_cases h:l<n
 ·have j:Hid (QcD l n= -1):=if_pos h;go_enter Tryz.func59,Tryz.ntmps59;go_wp2;go_ret;exact⟨Qbv j.symm,rfl⟩
 ·have j:Hid (QcD l n=l - n):=if_neg h;go_enter Tryz.func59,Tryz.ntmps59;go_wp2;go_ret;exact⟨Qbv j.symm,rfl⟩
theorem QiZ (a:Option Addr)(n c:Nat)(l:Int)(w:World)(hn:n<=9223372036854775807)(hl:0<=l)(hl':l<=1048576):
  Cl 33 #[.agg #[.slice a n c],.int .i64 l] w (Rt w (.int .i64 (QcD l n))):=by
 go_enter Tryz.func33,Tryz.ntmps33;go_wp2_with fail;refine(Qnq a n c l _ hn hl hl').mono ?_;rintro e w1 ⟨rfl,rfl⟩;by_cases h:l<n
 ·have j:Hid (QcD l n= -1):=if_pos h;rw [j.out];go_wp2_with fail;go_ret;exact⟨Qbv j.symm,(Below.refl _ _).alloc (Nat.le_refl _) _⟩
 ·have j:Hid (QcD l n=l - n):=if_neg h;rw [j.out];go_wp2_with fail;go_ret;exact⟨Qbv j.symm,(Below.refl _ _).alloc (Nat.le_refl _) _⟩
theorem QnV (r f t:Int)(w:World):
  Cl 102 #[.agg #[.int .i64 r,.int .i64 f,.int .i64 t]] w fun e w'=>e=.returned (.agg #[.int .i64 r,.int .i64 f,.int .i64 t])/\ Bl w w'/\ w.heap.size<w'.heap.size:=by
 go_enter Tryz.func102,Tryz.ntmps102;go_wp2;refine bodyPost_ret (v:=.agg #[.int .i64 r,.int .i64 f,.int .i64 t]) (by simp [results,Tryz.results102,go_sem]) rfl ⟨rfl,?_,by simp;omega⟩;exact(((Below.refl _ _).alloc (Nat.le_refl _) _).alloc (by simp) _).alloc (by simp;omega) _
theorem Tryz.infoRun:(Tryz.prog.info? 124).map (fun i=>(i.zero,i.size,i.bytes))=some (some (.agg #[.int .i64 0,.int .i64 0,.int .i64 0]),3,24):=by kernel_rfl
theorem Qcm {W:World}(hb:Bl W w1):(∀b o,b<W.heap.size ->w1.cell? ⟨b,o,none⟩=W.cell? ⟨b,o,none⟩)/\ (∀b o,b<W.heap.size ->w1.frozen? ⟨b,o,none⟩=W.frozen? ⟨b,o,none⟩):=
 ⟨fun b o h=>hb.cell (p:=⟨b,o,none⟩) h,fun b o h=>hb.frozen (p:=⟨b,o,none⟩) h⟩
theorem Qbc{C:Nat}{size:Nat}(h:w.ownsRow B e size v n xs)(hb:Below C w w1)(hc:∀k,v.ownBlock=some k ->k<C):w1.ownsRow B e size v n xs:=by
 obtain⟨u,j⟩:=h;refine⟨u,?_⟩;rcases j with j|⟨g,m,q,rfl,y,z,r⟩
 ·exact .inl j
 ·exact .inr ⟨g,m,q,rfl,y,by rw [hb.block g (hc g rfl)];exact z,r⟩
theorem QaA{size:Nat}(h:w.ownsRow B e size (.slice (some ⟨g,0,none⟩) n cap) n xs)(j:Nat)(hj:j<n*size):∃u,w.cell? ⟨g,j,none⟩=some u:=by
 rw [h.cellAt j hj];have:=h.1;exact⟨_,List.getElem?_eq_getElem (by omega)⟩
theorem Qnt (a:Option Addr)(n c:Nat)(R F T:Nat ->Int)(w:World)(hn:n<=1048576)(h:Qa7 w a n R F T):
  Cl 73 #[.slice a n c] w fun e w'=>e=.returned (.slice (some ⟨w.heap.size,0,none⟩) n n)/\ Qa7 w' (some ⟨w.heap.size,0,none⟩) n R F T/\ Bl w w'/\ w.heap.size<w'.heap.size/\∃xs,w'.ownsRow w.heap.size 124 3 (.slice (some ⟨w.heap.size,0,none⟩) n n) n xs:=by
 obtain⟨A,hi,H,I,D⟩:=info_parts Tryz.infoRun;have Y:n<=maxLen:=by unfold maxLen;omega
 have U:A.bytes*n<=281474976710656:=by rw [D];omega
 rcases h with h|⟨b,E,rfl,o,u⟩
 ·subst h;go_enter Tryz.func73,Tryz.ntmps73;go_wp2_with (at_make;refine wpList_make_full _ rfl _ _ 36 rfl w.heap.size 124 A _ 3 Tryz.underlying36 hi H I _ _ _ _ 0 rfl rfl rfl rfl U Y (Nat.le_refl _) ?_;intro w1 m v);refine wp_loop_rounds 1 ?_;rw [rounds_succ];go_wp2_with fail;go_ret;exact⟨rfl,.inl rfl,(Below.refl _ _).grown v (Nat.le_refl _) (fun _ h=>by cases h),(m.lt _ rfl).2,_,m⟩
 ·go_enter Tryz.func73,Tryz.ntmps73;go_wp2_with (at_make;refine wpList_make_full _ rfl _ _ 36 rfl w.heap.size 124 A _ 3 Tryz.underlying36 hi H I _ _ _ _ n rfl rfl rfl rfl U Y (Nat.le_refl _) ?_;intro w1 m v);have q:Bl w w1:=(Below.refl _ _).grown v (Nat.le_refl _) (fun _ h=>by cases h);have Z:∃xs,w1.ownsRow w.heap.size 124 3 (.slice (some ⟨w.heap.size,0,none⟩) n n) n xs:=⟨_,m⟩;clear m v;go_loopw [4] (fun i wr=>∃k:Nat,k<=n/\ i=.int .i64 k/\ Bl w wr/\∃xs:List Value,wr.ownsRow w.heap.size 124 3 (.slice (some ⟨w.heap.size,0,none⟩) n n) n xs/\∀j,j<k ->xs[j*3]? =some (.int .i64 (R j))/\ xs[j*3+1]? =some (.int .i64 (F j))/\ xs[j*3+2]? =some (.int .i64 (T j))) (fun i _=>n - (intOf i).toNat);case atStart=>obtain⟨xs,C⟩:=Z;exact⟨0,Nat.zero_le _,rfl,q,xs,C,fun j N=>by omega⟩
  case round=>
   clear Z q;obtain⟨k,V,rfl,q,xs,m,z⟩:=hrel;by_cases y:k<n
   ·have Hc:wr.cell? ⟨b,E+k*3,none⟩=some (.int .i64 (R k)):=(q.cell (p:=⟨b,_,none⟩) o).trans (u k y).1;have Ha:wr.cell? ⟨b,E+k*3+1,none⟩=some (.int .i64 (F k)):=(q.cell (p:=⟨b,_,none⟩) o).trans (u k y).2.1;have Hb:wr.cell? ⟨b,E+k*3+2,none⟩=some (.int .i64 (T k)):=(q.cell (p:=⟨b,_,none⟩) o).trans (u k y).2.2;clear u;go_wp2_with fail;refine(QnV _ _ _ _).mono ?_;rintro e w2 ⟨rfl,t,z2⟩;have s:=(m.lt w.heap.size rfl).2;have r:=Qbc m t (fun k V=>by simp [Value.ownBlock] at V;omega);have Q:=q.trans (t.mono (by omega));obtain⟨u0,Hd⟩:=QaA r (k*3) (by omega);obtain⟨u1,He⟩:=QaA r (k*3+1) (by omega);obtain⟨u2,Hf⟩:=QaA r (k*3+2) (by omega);have P:=r.frozenAt (k*3);have S:=r.frozenAt (k*3+1);have W:=r.frozenAt (k*3+2);have B:=r.1;have g:=hid (((r.stored (k*3) (.int .i64 (R k))).1.stored (k*3+1) (.int .i64 (F k))).1.stored (k*3+2) (.int .i64 (T k))).1;have L:Hid (∀j,j<k+1 ->(((xs.set (k*3) (.int .i64 (R k))).set (k*3+1) (.int .i64 (F k))).set (k*3+2) (.int .i64 (T k)))[j*3]? =some (.int .i64 (R j))/\ (((xs.set (k*3) (.int .i64 (R k))).set (k*3+1) (.int .i64 (F k))).set (k*3+2) (.int .i64 (T k)))[j*3+1]? =some (.int .i64 (F j))/\ (((xs.set (k*3) (.int .i64 (R k))).set (k*3+1) (.int .i64 (F k))).set (k*3+2) (.int .i64 (T k)))[j*3+2]? =some (.int .i64 (T j))):=by
     intro j N;by_cases X:j=k
     ·subst X;refine⟨?_,?_,?_⟩
      ·rw [List.getElem?_set_ne (by omega),List.getElem?_set_ne (by omega),List.getElem?_set_self (by omega)]
      ·rw [List.getElem?_set_ne (by omega),List.getElem?_set_self (by simp;omega)]
      ·rw [List.getElem?_set_self (by simp;omega)]
     ·obtain⟨x0,M,O⟩:=z j (by omega);refine⟨?_,?_,?_⟩
      ·rw [List.getElem?_set_ne (by omega),List.getElem?_set_ne (by omega),List.getElem?_set_ne (by omega)];exact x0
      ·rw [List.getElem?_set_ne (by omega),List.getElem?_set_ne (by omega),List.getElem?_set_ne (by omega)];exact M
      ·rw [List.getElem?_set_ne (by omega),List.getElem?_set_ne (by omega),List.getElem?_set_ne (by omega)];exact O
    have J:=hid (((Q.setCell (p:=⟨w.heap.size,k*3,none⟩) (Nat.le_refl _) (.int .i64 (R k))).setCell (p:=⟨w.heap.size,k*3+1,none⟩) (Nat.le_refl _) (.int .i64 (F k))).setCell (p:=⟨w.heap.size,k*3+2,none⟩) (Nat.le_refl _) (.int .i64 (T k)));clear m r z B Q t q;go_wp2_with fail;go_roundw;case rel=>exact⟨k+1,y,by go_num,J,_,g,L⟩
    case measure=>simp [intOf];omega
   ·obtain rfl:k=n:=by omega
    have s:=(m.lt w.heap.size rfl).2;have G:Qa7 wr (some ⟨w.heap.size,0,none⟩) k R F T:=.inr ⟨w.heap.size,0,rfl,s,fun i hi=>by
     obtain⟨x0,M,O⟩:=z i hi;rw [Nat.zero_add,m.cellAt _ (by omega),m.cellAt _ (by omega),m.cellAt _ (by omega)];exact⟨x0,M,O⟩⟩
    have g:=hid G;have K:=hid m;clear m z G;go_wp2_with fail;go_ret;exact⟨rfl,g,q,s,_,K⟩
theorem Qbr{size:Nat}(h:w.ownsRow B e size (.slice (some ⟨g,0,none⟩) n cap) n xs)(p:Addr)(u:Value)(hp:g≠p.block):(w.setCell p u).ownsRow B e size (.slice (some ⟨g,0,none⟩) n cap) n xs:=by
 obtain⟨y,k⟩:=h;refine⟨y,?_⟩;rcases k with ⟨k,_⟩|⟨v,m,q,j,z,t,r⟩
 ·cases k
 ·refine .inr ⟨v,m,q,j,z,?_,r⟩;injection j with j;injection j with j;injection j with j;subst j;exact(Below.heap_setCell _ _ _ _ hp).trans t
theorem QhB (a:Option Addr)(n c:Nat)(R F T:Nat ->Int)(w:World)(hn:n<=1048576)(h:Qa7 w a n R F T):
  Cl 43 #[.agg #[.slice a n c]] w fun e w'=>∃g,w.heap.size<=g/\ g<w'.heap.size/\ e=.returned (.agg #[.slice (some ⟨g,0,none⟩) n n])/\ Qa7 w' (some ⟨g,0,none⟩) n R F T/\ Bl w w'/\∃xs,w'.ownsRow w.heap.size 124 3 (.slice (some ⟨g,0,none⟩) n n) n xs:=by
 go_enter Tryz.func43,Tryz.ntmps43;go_wp2_with fail;refine(Qnt a n c R F T _ hn (h.bw ((((Below.refl _ _).alloc (Nat.le_refl _) _).alloc (by simp) _).alloc (by simp;omega) _))).mono ?_;rintro e w1 ⟨rfl,q,j,y,xs,k⟩;obtain⟨p,M⟩:=Qcm j;have u:Bl w w1:=((((Below.refl _ _).alloc (Nat.le_refl _) _).alloc (by simp) _).alloc (by simp;omega) _).trans (j.mono (by simp;omega));have O:w.heap.size+1+1+1<w1.heap.size:=by have:=y;simp at this;omega
 simp only [World.size_alloc] at q k;have t:=hid k;have o:=hid q;have z:=hid u;clear q u j y k;go_wp2_with fail;refine bodyPost_ret (v:=.agg #[.slice (some ⟨w.heap.size+1+1+1,0,none⟩) n n]) (by simp [results,Tryz.results43,go_sem,p]) rfl ⟨w.heap.size+1+1+1,by omega,by simp [World.setCell];omega,rfl,?_,?_,xs,?_⟩
 ·exact(o.set _ _ (fun x hx=>by simp at hx;subst hx;simp)).set _ _ (fun x hx=>by simp at hx;subst hx;simp;omega)
 ·exact(z.setCell (by simp;omega) _).setCell (by simp) _
 ·have s:w1.ownsRow w.heap.size 124 3 (.slice (some ⟨w.heap.size+1+1+1,0,none⟩) n n) n xs:=by
   obtain⟨A,m⟩:=t.out;refine⟨A,?_⟩;rcases m with m|⟨g,i,b,e,E,r⟩
   ·exact .inl m
   ·exact .inr ⟨g,i,b,e,by omega,r⟩
  exact Qbr (Qbr s _ _ (by simp)) _ _ (by simp;omega)
theorem QcB (r f t:Int)(w:World):
  Cl 96 #[.agg #[.int .i64 r,.int .i64 f,.int .i64 t]] w (Rt w (.bool (QaJ r f t))):=by
 by_cases k:0<=r
 ·by_cases m:r<8
  ·by_cases q:1<=f
   ·by_cases u:f<=t
    ·by_cases v:t<=1000000000
     ·have j:=hid (Qcc ⟨k,m,q,u,v⟩);go_enter Tryz.func96,Tryz.ntmps96;go_wp2_with fail;go_ret;exact⟨QbE j.symm,(Below.refl _ _).alloc (Nat.le_refl _) _⟩
     ·have j:=hid (Qa4 (r:=r) (f:=f) (t:=t) (by omega));go_enter Tryz.func96,Tryz.ntmps96;go_wp2_with fail;go_ret;exact⟨QbE j.symm,(Below.refl _ _).alloc (Nat.le_refl _) _⟩
    ·have j:=hid (Qa4 (r:=r) (f:=f) (t:=t) (by omega));go_enter Tryz.func96,Tryz.ntmps96;go_wp2_with fail;go_ret;exact⟨QbE j.symm,(Below.refl _ _).alloc (Nat.le_refl _) _⟩
   ·have j:=hid (Qa4 (r:=r) (f:=f) (t:=t) (by omega));go_enter Tryz.func96,Tryz.ntmps96;go_wp2_with fail;go_ret;exact⟨QbE j.symm,(Below.refl _ _).alloc (Nat.le_refl _) _⟩
  ·have j:=hid (Qa4 (r:=r) (f:=f) (t:=t) (by omega));go_enter Tryz.func96,Tryz.ntmps96;go_wp2_with fail;go_ret;exact⟨QbE j.symm,(Below.refl _ _).alloc (Nat.le_refl _) _⟩
 ·have j:=hid (Qa4 (r:=r) (f:=f) (t:=t) (by omega));go_enter Tryz.func96,Tryz.ntmps96;go_wp2_with fail;go_ret;exact⟨QbE j.symm,(Below.refl _ _).alloc (Nat.le_refl _) _⟩
theorem QdE (r:Int)(w:World)(h1:0<=r)(h2:r<8):
  Cl 77 #[.int .i64 r] w fun e w'=>e=.returned (.bool true)/\ w'=w:=by
 go_enter Tryz.func77,Tryz.ntmps77;go_wp2_with fail;go_ret;exact⟨rfl,rfl⟩
theorem QeI (r:Int)(w:World)(h:¬(0<=r/\ r<8)):
  Cl 77 #[.int .i64 r] w fun e w'=>e=.returned (.bool false)/\ w'=w:=by
 by_cases j:0<=r
 ·have k:decide (r<8)=false:=by simp;omega
  go_enter Tryz.func77,Tryz.ntmps77;go_wp2_with fail;go_ret;exact⟨rfl,rfl⟩
 ·go_enter Tryz.func77,Tryz.ntmps77;go_wp2_with fail;go_ret;exact⟨rfl,rfl⟩
theorem Qdz (r f t:Int)(w:World):
  Cl 190 #[.agg #[.int .i64 r,.int .i64 f,.int .i64 t]] w (Rt w (.bool (QaJ r f t))):=by
 by_cases m:0<=r/\ r<8
 ·obtain⟨q,u⟩:=m;have k:=hid (QdE r (w.alloc (.cells #[.int .i64 r,.int .i64 f,.int .i64 t] 124)) q u);by_cases v:1<=f
  ·by_cases y:f<=t
   ·by_cases z:t<=1000000000
    ·have j:=hid (Qcc ⟨q,u,v,y,z⟩);go_enter Tryz.func190,Tryz.ntmps190;go_wp2_with fail;refine k.mono ?_;rintro e w1 ⟨rfl,rfl⟩;go_wp2_with fail;go_ret;exact⟨QbE j.symm,(Below.refl _ _).alloc (Nat.le_refl _) _⟩
    ·have h:decide (t<=1000000000)=false:=by simp;omega
     have j:=hid (Qa4 (r:=r) (f:=f) (t:=t) (by omega));go_enter Tryz.func190,Tryz.ntmps190;go_wp2_with fail;refine k.mono ?_;rintro e w1 ⟨rfl,rfl⟩;go_wp2_with fail;go_ret;exact⟨QbE j.symm,(Below.refl _ _).alloc (Nat.le_refl _) _⟩
   ·have j:=hid (Qa4 (r:=r) (f:=f) (t:=t) (by omega));go_enter Tryz.func190,Tryz.ntmps190;go_wp2_with fail;refine k.mono ?_;rintro e w1 ⟨rfl,rfl⟩;go_wp2_with fail;go_ret;exact⟨QbE j.symm,(Below.refl _ _).alloc (Nat.le_refl _) _⟩
  ·have j:=hid (Qa4 (r:=r) (f:=f) (t:=t) (by omega));go_enter Tryz.func190,Tryz.ntmps190;go_wp2_with fail;refine k.mono ?_;rintro e w1 ⟨rfl,rfl⟩;go_wp2_with fail;go_ret;exact⟨QbE j.symm,(Below.refl _ _).alloc (Nat.le_refl _) _⟩
 ·have k:=hid (QeI r (w.alloc (.cells #[.int .i64 r,.int .i64 f,.int .i64 t] 124)) m);have j:=hid (Qa4 (r:=r) (f:=f) (t:=t) (by omega));clear m;go_enter Tryz.func190,Tryz.ntmps190;go_wp2_with fail;refine k.mono ?_;rintro e w1 ⟨rfl,rfl⟩;go_wp2_with fail;go_ret;exact⟨QbE j.symm,(Below.refl _ _).alloc (Nat.le_refl _) _⟩
theorem Qbb(h:r<r' \/(r=r'/\ t+1<f')):QaC r t r' f'=true:=by unfold QaC;exact decide_eq_true h
theorem QaS(h:¬(r<r' \/(r=r'/\ t+1<f'))):QaC r t r' f'=false:=by unfold QaC;exact decide_eq_false h
theorem Qae (w:World)(o o':Obj):Bl w ((w.alloc o).alloc o'):=((Below.refl _ _).alloc (Nat.le_refl _) _).alloc (by simp) _
theorem QiP (r f t r' f' t':Int)(w:World)(h0:0<=t)(h1:t<=1000000000):
  Cl 97 #[.agg #[.int .i64 r,.int .i64 f,.int .i64 t],.agg #[.int .i64 r',.int .i64 f',.int .i64 t']] w (Rt w (.bool (QaC r t r' f'))):=by
 by_cases q:r<r'
 ·have j:=hid (Qbb (t:=t) (f':=f') (.inl q));go_enter Tryz.func97,Tryz.ntmps97;go_wp2_with fail;go_ret;exact⟨QbE j.symm,Qae _ _ _⟩
 ·by_cases k:r=r'
  ·subst k;by_cases m:t+1<f'
   ·have j:=hid (Qbb (r:=r) (r':=r) (.inr ⟨rfl,m⟩));go_enter Tryz.func97,Tryz.ntmps97;go_wp2_with fail;go_ret;exact⟨QbE j.symm,Qae _ _ _⟩
   ·have j:=hid (QaS (r:=r) (r':=r) (t:=t) (f':=f') (by omega));go_enter Tryz.func97,Tryz.ntmps97;go_wp2_with fail;go_ret;exact⟨QbE j.symm,Qae _ _ _⟩
  ·have m:(r==r')=false:=by simp;exact k
   have j:=hid (QaS (r:=r) (r':=r') (t:=t) (f':=f') (by omega));go_enter Tryz.func97,Tryz.ntmps97;go_wp2_with fail;go_ret;exact⟨QbE j.symm,Qae _ _ _⟩
theorem QfX (r f t r' f' t':Int)(w:World)(h0:0<=t)(h1:t<=1000000000):
  Cl 191 #[.agg #[.int .i64 r',.int .i64 f',.int .i64 t'],.agg #[.int .i64 r,.int .i64 f,.int .i64 t]] w (Rt w (.bool (QaC r t r' f'))):=by
 by_cases k:r'=r
 ·subst k;by_cases m:t+1<f'
  ·have j:=hid (Qbb (r:=r') (r':=r') (.inr ⟨rfl,m⟩));go_enter Tryz.func191,Tryz.ntmps191;go_wp2_with fail;go_ret;exact⟨QbE j.symm,Qae _ _ _⟩
  ·have j:=hid (QaS (r:=r') (r':=r') (t:=t) (f':=f') (by omega));go_enter Tryz.func191,Tryz.ntmps191;go_wp2_with fail;go_ret;exact⟨QbE j.symm,Qae _ _ _⟩
 ·have m:(r' !=r)=true:=by simp;exact k
  by_cases q:r<r'
  ·have j:=hid (Qbb (t:=t) (f':=f') (.inl q));go_enter Tryz.func191,Tryz.ntmps191;go_wp2_with fail;go_ret;exact⟨QbE j.symm,Qae _ _ _⟩
  ·have j:=hid (QaS (r:=r) (r':=r') (t:=t) (f':=f') (by omega));go_enter Tryz.func191,Tryz.ntmps191;go_wp2_with fail;go_ret;exact⟨QbE j.symm,Qae _ _ _⟩
theorem QnA (r f t:Int)(w:World):
  Cl 116 #[.agg #[.int .i64 r,.int .i64 f,.int .i64 t],.agg #[.int .i64 r,.int .i64 f,.int .i64 t]] w (Rt w (.bool true)):=by
 go_enter Tryz.func116,Tryz.ntmps116;go_wp2_with fail;go_ret;exact⟨rfl,Qae _ _ _⟩
def Qd8 (R F T:Nat ->Int)(k:Nat):Prop:=∀i,i<k ->QaJ (R i) (F i) (T i)=true/\ (0<i ->QaC (R (i - 1)) (T (i - 1)) (R i) (F i)=true)
def QiD (R F T:Nat ->Int):Nat ->Bool
 | 0=>true
 | k+1=>QiD R F T k && (QaJ (R k) (F k) (T k) && (k==0||QaC (R (k - 1)) (T (k - 1)) (R k) (F k)))
def Qdh (R F T:Nat ->Int)(n:Nat):Bool:=QiD R F T n && decide (n<=1000)
theorem Qf1 {R F T:Nat ->Int}:∀k:Nat,QiD R F T k=true↔Qd8 R F T k
 | 0=>⟨fun _ i hi=>by omega,fun _=>rfl⟩
 | k+1=>by
  have q:=Qf1 (R:=R) (F:=F) (T:=T) k;constructor
  ·intro h;simp only [QiD,Bool.and_eq_true,Bool.or_eq_true,beq_iff_eq] at h;intro i hi;by_cases e:i=k
   ·subst e;exact⟨h.2.1,fun m=>by rcases h.2.2 with j|j;omega;exact j⟩
   ·exact q.1 h.1 i (by omega)
  ·intro h;simp only [QiD,Bool.and_eq_true,Bool.or_eq_true,beq_iff_eq];refine⟨q.2 (fun i hi=>h i (by omega)),(h k (by omega)).1,?_⟩;by_cases m:k=0
   ·exact .inl m
   ·exact .inr ((h k (by omega)).2 (by omega))
theorem Qax:Qdh R F T n=true↔Qd8 R F T n/\ n<=1000:=by
 unfold Qdh;rw [Bool.and_eq_true,Qf1,decide_eq_true_iff]
theorem QbV(h:¬(Qd8 R F T n/\ n<=1000)):Qdh R F T n=false:=by
 cases e:Qdh R F T n with
 | false=>rfl
 | true=>exact absurd (Qax.1 e) h
theorem Qc9(h:Qd8 R F T k)(h1:QaJ (R k) (F k) (T k)=true)(h2:0<k ->QaC (R (k - 1)) (T (k - 1)) (R k) (F k)=true):Qd8 R F T (k+1):=by
 intro i hi;by_cases e:i=k
 ·subst e;exact⟨h1,h2⟩
 ·exact h i (by omega)
theorem Qaa {wr w2:World}(h1:Bl wr w1)(b2:Bl w1 w2):Bl wr w2:=h1.trans (b2.mono h1.size)
theorem QnT{ops:Array Oper}{Q:Exit ->Act ->World ->Prop}{md:Region.Mode}{S:World ->Prop}{d:Option Tmp}{listed:Array Bool}
  (hd:ops[i]?.map (fun o=>o.dst)=some d) (hs:Region.noSelect ops=true) (hf:Region.free md ops listed i=true) (hr:(Region.ready md ops listed).contains i=true)
  (hQ:∀c a w,Q (.panic c) (a.put d v) w ->Q (.panic c) a w) (hy:∀o,ops[i]? =some o ->YieldsIf P ops S o v a) (hS:S w)
  (h:wpAnyH P md ops Q S fuel (listed.setIfInBounds i true) (a.put d v) w):wpAnyH P md ops Q S (fuel+1) listed a w:=by
 obtain⟨o,j,rfl⟩:=Option.map_eq_some_iff.1 hd;exact wpAnyH_take j hs hf hr hQ (hy o j) hS h
theorem Qn1{ops:Array Oper}{Q:Exit ->Act ->World ->Prop}{md:Region.Mode}{S:World ->Prop}{d:Option Tmp}{listed:Array Bool}
  (hd:ops[i]?.map (fun o=>o.dst)=some d) (hr:Region.ready md ops listed=[i])
  (h:∀o,ops[i]? =some o ->o.dst=d ->∀K':Act ->World ->Prop,Shut (∀a w,S w ->(S w ->wpAnyH P md ops Q S fuel (listed.setIfInBounds i true) a w) ->K' a w) ->if Region.wanted o (yielded ops a.tmps)=true then Oper.wp P o a w K' Q else K' (a.put o.dst undef) w):
  wpAnyH P md ops Q S (fuel+1) listed a w:=by
 obtain⟨o,j,k⟩:=Option.map_eq_some_iff.1 hd;exact wpAnyH_ready hr (by simp) (AllReadyH.cons j (h o j k) AllReadyH.nil)
theorem gZa {α:Type}{l:List α}:l.toArray[i]? =l[i]? :=List.getElem?_toArray
theorem gZb {α:Type}{a:α}{l:List α}:(a::l)[i+1]? =l[i]? :=List.getElem?_cons_succ
theorem gZc {α:Type}{a:α}{l:List α}:(a::l)[0]? =some a:=List.getElem?_cons_zero
theorem gZd {α:Type}{a b:α}:(some a=some b)=(a=b):=Option.some.injEq a b
theorem sZa {α:Type}(l:List α)(i:Nat)(a:α):l.toArray.setIfInBounds i a=(l.set i a).toArray:=by simp
theorem sZb {α:Type}{a b:α}{l:List α}:(a::l).set 0 b=b::l:=List.set_cons_zero
theorem sZc {α:Type}{a b:α}{l:List α}:(a::l).set (i+1) b=a::l.set i b:=List.set_cons_succ
theorem tk{ops:Array Oper}{Q:Exit ->Act ->World ->Prop}{md:Region.Mode}{S:World ->Prop}(i:Nat)(d:Tmp)(v:Value){listed:Array Bool}
  (hb:((ops[i]?.map (fun o=>o.dst)==some (some d)) && (Region.noSelect ops && (Region.free md ops listed i && (Region.ready md ops listed).contains i)))=true)
  (hQ:∀c a w,Q (.panic c) (a.put (some d) v) w ->Q (.panic c) a w) (hy:∀o,ops[i]? =some o ->YieldsIf P ops S o v a) (hS:S w)
  (h:wpAnyH P md ops Q S fuel (listed.setIfInBounds i true) (a.put (some d) v) w):wpAnyH P md ops Q S (fuel+1) listed a w:=by
 rw [Bool.and_eq_true,Bool.and_eq_true,Bool.and_eq_true] at hb;exact QnT (eq_of_beq hb.1) hb.2.1 hb.2.2.1 hb.2.2.2 hQ hy hS h
theorem tZ{ops:Array Oper}{Q:Exit ->Act ->World ->Prop}{md:Region.Mode}{S:World ->Prop}(i:Nat)(d:Tmp){listed:Array Bool}{b:Act}
  (h:wpAnyH P md ops Q S fuel (listed.setIfInBounds i true) b w) (hS:S w:=by assumption)
  (hb:((ops[i]?.map (fun o=>o.dst)==some (some d)) && (Region.noSelect ops && (Region.free md ops listed i && (Region.ready md ops listed).contains i)))=true:=by kernel_rfl)
  (hQ:∀c a w,Q (.panic c) (a.put (some d) v) w ->Q (.panic c) a w:=by exact fun _ _ _ h=>h)
  (hy:∀o,ops[i]? =some o ->YieldsIf P ops S o v a:=by intro o j;simp only [gZa,gZb,gZc,gZd] at j;subst j;refine Or.inl ⟨by rfl,?_⟩;intro w k;(try dsimp only at k);go_simp;try with_reducible rfl)
  (hp:a.put (some d) v=b:=by simp only [Act.put,sZa,sZb,sZc];rfl):wpAnyH P md ops Q S (fuel+1) listed a w:=tk i d v hb hQ hy hS (hp ▸ h)
theorem uZ{ops:Array Oper}{Q:Exit ->Act ->World ->Prop}{md:Region.Mode}{S:World ->Prop}(i:Nat)(d:Tmp){listed:Array Bool}{b:Act}
  (h:wpAnyH P md ops Q S fuel (listed.setIfInBounds i true) b w) (hS:S w:=by assumption)
  (hb:((ops[i]?.map (fun o=>o.dst)==some (some d)) && (Region.noSelect ops && (Region.free md ops listed i && (Region.ready md ops listed).contains i)))=true:=by kernel_rfl)
  (hQ:∀c a w,Q (.panic c) (a.put (some d) undef) w ->Q (.panic c) a w:=by exact fun _ _ _ h=>h)
  (hy:∀o,ops[i]? =some o ->YieldsIf P ops S o undef a:=by intro o j;simp only [gZa,gZb,gZc,gZd] at j;subst j;exact Or.inr ⟨by rfl,rfl⟩)
  (hp:a.put (some d) undef=b:=by simp only [Act.put,sZa,sZb,sZc];rfl):wpAnyH P md ops Q S (fuel+1) listed a w:=tk i d undef hb hQ hy hS (hp ▸ h)
theorem cZ{ops:Array Oper}{Q:Exit ->Act ->World ->Prop}{md:Region.Mode}{S:World ->Prop}(i:Nat){o:Oper}{listed:Array Bool}
  (h:∀K':Act ->World ->Prop,Shut (∀a w,S w ->(S w ->wpAnyH P md ops Q S fuel (listed.setIfInBounds i true) a w) ->K' a w) ->if Region.wanted o (yielded ops a.tmps)=true then Oper.wp P o a w K' Q else K' (a.put o.dst undef) w)
  (hr:Region.ready md ops listed=[i]:=by kernel_rfl) (ho:ops[i]? =some o:=by simp only [gZa,gZb,gZc];rfl):wpAnyH P md ops Q S (fuel+1) listed a w:=
 Qn1 (d:=o.dst) (by rw [ho];rfl) hr (fun o' h1 _=>by rw [ho] at h1;cases h1;exact h)
theorem zO (w:World)(o:Obj):Bl w (w.alloc o):=(Below.refl _ _).alloc (Nat.le_refl _) o
theorem zL:n<=n:=Nat.le_refl n
theorem zI:Below B w w:=Below.refl B w
theorem zH (w:World)(a:Addr)(u:Value)(k:Nat)(h:k≠a.block):(w.setCell a u).heap[k]? =w.heap[k]? :=Below.heap_setCell w a u k h
theorem zP:(∀(a:Act) (v:Value),a.put none v=a)/\ (∀(t:Array Value) (d) (i:Nat) (v:Value),(Act.mk t d).put (some i) v=Act.mk (t.setIfInBounds i v) d)/\ (∀(l:List Value) (i:Nat) (a:Value),l.toArray.setIfInBounds i a=(l.set i a).toArray)/\ (∀(a b:Value) (l:List Value),(a::l).set 0 b=b::l)/\∀(a b:Value) (l:List Value) (i:Nat),(a::l).set (i+1) b=a::l.set i b:=⟨fun _ _=>rfl,fun _ _ _ _=>rfl,fun _ _ _=>by simp,fun _ _ _=>rfl,fun _ _ _ _=>rfl⟩
theorem zD{ops:Array Oper}{Q:Exit ->Act ->World ->Prop}{md:Region.Mode}{S:World ->Prop}{listed:Array Bool}(h:Q .normal a w)(hr:Region.ready md ops listed=[]:=by kernel_rfl):wpAnyH P md ops Q S fuel listed a w:=wpAnyH_done hr h fuel
theorem zR{ops:Array Oper}{Q:Exit ->Act ->World ->Prop}{S:World ->Prop}{id:Nat}(hS:S w.drew)(h:S w.drew ->wpAnyH P .any ops Q S ops.size (Array.replicate ops.size false) a w.drew)(hm:P.follows .mixedOrders=true:=by kernel_rfl):(Code.region id ops true).wp P Q a w:=wp_region_held_drew hm hS h
theorem zS{ops:Array Oper}{Q:Exit ->Act ->World ->Prop}{S:World ->Prop}{id:Nat}(N:Hid (∀w',Bl w w' ->S w'))(h:S w.drew ->wpAnyH P .any ops Q S ops.size (Array.replicate ops.size false) a w.drew)(hm:P.follows .mixedOrders=true:=by kernel_rfl):(Code.region id ops true).wp P Q a w:=wp_region_held_drew hm (N _ (Below.refl _ _).drew) h
theorem zA{ops:Array Oper}{Q:Exit ->Act ->World ->Prop}{S:World ->Prop}{id:Nat}{X0:World ->Prop}(N:Hid (∀w',X0 w' ->S w'))(h0:X0 w.drew)(h:S w.drew ->wpAnyH P .any ops Q S ops.size (Array.replicate ops.size false) a w.drew)(hm:P.follows .mixedOrders=true:=by kernel_rfl):(Code.region id ops true).wp P Q a w:=wp_region_held_drew hm (N _ h0) h
theorem zB{ops:Array Oper}{Q:Exit ->Act ->World ->Prop}{S:World ->Prop}{id:Nat}{X0 X1:World ->Prop}(N:Hid (∀w',X0 w' ->X1 w' ->S w'))(h0:X0 w.drew)(h1:X1 w.drew)(h:S w.drew ->wpAnyH P .any ops Q S ops.size (Array.replicate ops.size false) a w.drew)(hm:P.follows .mixedOrders=true:=by kernel_rfl):(Code.region id ops true).wp P Q a w:=wp_region_held_drew hm (N _ h0 h1) h
theorem zG{ops:Array Oper}{Q:Exit ->Act ->World ->Prop}{S:World ->Prop}{id:Nat}{X0 X1 X2 X3:World ->Prop}(N:Hid (∀w',X0 w' ->X1 w' ->X2 w' ->X3 w' ->S w'))(h0:X0 w.drew)(h1:X1 w.drew)(h2:X2 w.drew)(h3:X3 w.drew)(h:S w.drew ->wpAnyH P .any ops Q S ops.size (Array.replicate ops.size false) a w.drew)(hm:P.follows .mixedOrders=true:=by kernel_rfl):(Code.region id ops true).wp P Q a w:=wp_region_held_drew hm (N _ h0 h1 h2 h3) h
theorem zF{fn:Func}{R:Ending ->World ->Prop}(hr:(results fn a.tmps).run P w=.ok v w)(hR:R (.returned v) w)(hd:a.defers=[]:=by rfl):bodyPost P fn R .ret a w:=bodyPost_ret hr hd hR
theorem Qck (x:Int)(h0: -9223372036854775808<=x)(h1:x<=9223372036854775807):IntKind.i64.wrap x=x:=by
 rw [IntKind.wrap_i64];omega
theorem Qda(hk:k<n)(h:QaJ (R k) (F k) (T k)=false):Qdh R F T n=false:=QbV fun⟨h1,_⟩=>by
 have:=(h1 k hk).1;rw [h] at this;cases this
theorem Qch(hk:k<n)(h0:0<k)(h:QaC (R (k - 1)) (T (k - 1)) (R k) (F k)=false):Qdh R F T n=false:=QbV fun⟨h1,_⟩=>by
 have:=(h1 k hk).2 h0;rw [h] at this;cases this
theorem Qf6 (a:Option Addr)(n c:Nat)(R F T:Nat ->Int)(w:World)(hn:n<=1048576)(h:Qa7 w a n R F T):
  Cl 65 #[.agg #[.slice a n c]] w (Rt w (.bool (Qdh R F T n))):=by
 rcases h with h|⟨b,q,rfl,Q,y⟩
 ·subst h;have V:Hid (Qdh R F T 0=true):=Qax.2 ⟨fun i hi=>by omega,by omega⟩;go_enter Tryz.func65,Tryz.ntmps65;go_wp2_with fail;refine wp_loop_rounds 1 ?_;rw [rounds_succ];go_wp2_with fail;go_ret;exact⟨QbE V.symm,zO _ _⟩
 ·go_enter Tryz.func65,Tryz.ntmps65;go_wp2_with fail;go_loopw [3] (fun i wr=>∃k:Nat,k<=n/\ i=.int .i64 k/\ Qd8 R F T k/\ wr.cell? ⟨w.heap.size,0,none⟩=some (.slice (some ⟨b,q,none⟩) n c)/\ Bl w wr/\ w.heap.size<wr.heap.size) (fun i _=>n - (intOf i).toNat);case atStart=>exact⟨0,Nat.zero_le _,rfl,fun i hi=>by omega,by simp,zO _ _,by simp⟩
  case round=>
   obtain⟨k,hk,rfl,E,t,u,Y⟩:=hrel;have m:=Nat.lt_of_lt_of_le Q u.size;by_cases U:k<n
   ·have o:wr.cell? ⟨b,q+k*3,none⟩=some (.int .i64 (R k)):=(u.cell (p:=⟨b,_,none⟩) Q).trans (y k U).1;have s:wr.cell? ⟨b,q+k*3+1,none⟩=some (.int .i64 (F k)):=(u.cell (p:=⟨b,_,none⟩) Q).trans (y k U).2.1;have A:wr.cell? ⟨b,q+k*3+2,none⟩=some (.int .i64 (T k)):=(u.cell (p:=⟨b,_,none⟩) Q).trans (y k U).2.2;have Ha:(0:Int)<=(k:Int):=Int.natCast_nonneg _;have Hb:(k:Int)<(n:Int):=by omega
    have M:=hid u;have B:=hid E;cases hr:QaJ (R k) (F k) (T k) with
    | false=>
     have O:=hid hr;clear hr y u E;go_wp2_with fail;refine zR (S:=fun w'=>Bl wr w'/\ w'.cell? ⟨w.heap.size,0,none⟩=some (.slice (some ⟨b,q,none⟩) n c)/\ w'.cell? ⟨b,q+k*3,none⟩=some (.int .i64 (R k))/\ w'.cell? ⟨b,q+k*3+1,none⟩=some (.int .i64 (F k))/\ w'.cell? ⟨b,q+k*3+2,none⟩=some (.int .i64 (T k))) ⟨zI.drew,t,o,s,A⟩ (fun qh=> ?_);refine tZ 0 11 ?_;refine tZ 1 12 ?_;refine tZ 2 13 ?_;refine tZ 3 14 ?_;refine tZ 4 15 ?_;refine cZ 5 ?_;intro K v;go_simp;refine(QcB _ _ _ _).mono ?_;rintro e W ⟨rfl,g⟩;rw [O.out];have j:=Qaa qh.1 g;refine v.out _ _ ⟨j,(j.cell (p:=⟨w.heap.size,0,none⟩) Y).trans t,(j.cell (p:=⟨b,_,none⟩) m).trans o,(j.cell (p:=⟨b,_,none⟩) m).trans s,(j.cell (p:=⟨b,_,none⟩) m).trans A⟩ (fun qh=> ?_);clear v K;try simp only [zP]
     refine tZ 6 17 ?_;refine tZ 7 18 ?_;refine uZ 8 19 ?_;refine uZ 9 20 ?_;refine uZ 10 21 ?_;refine uZ 11 22 ?_;refine uZ 12 23 ?_;refine uZ 13 24 ?_;refine uZ 14 25 ?_;refine uZ 15 26 ?_;refine uZ 16 27 ?_;refine uZ 17 28 ?_;refine uZ 18 29 ?_;refine uZ 19 30 ?_;refine uZ 20 31 ?_;refine uZ 21 32 ?_;refine uZ 22 33 ?_;refine uZ 23 34 ?_;refine uZ 24 35 ?_;refine tZ 25 36 ?_;refine zD ?_;have z:=hid (Qaa (wr:=wr) (w1:=wr) zI j);clear qh j g;go_wp2_with fail;go_ret;exact⟨QbE (Qda U O).symm,M.trans (z.mono (by omega))⟩
    | true=>
     have O:=hid hr;clear hr;by_cases I:k=0
     ·have hg:decide (0<k)=false:=by simp;omega
      have L:=hid I;clear y u E I;go_wp2_with fail;refine zR (S:=fun w'=>Bl wr w'/\ w'.cell? ⟨w.heap.size,0,none⟩=some (.slice (some ⟨b,q,none⟩) n c)/\ w'.cell? ⟨b,q+k*3,none⟩=some (.int .i64 (R k))/\ w'.cell? ⟨b,q+k*3+1,none⟩=some (.int .i64 (F k))/\ w'.cell? ⟨b,q+k*3+2,none⟩=some (.int .i64 (T k))) ⟨zI.drew,t,o,s,A⟩ (fun qh=> ?_);refine tZ 0 11 ?_;refine tZ 1 12 ?_;refine tZ 2 13 ?_;refine tZ 3 14 ?_;refine tZ 4 15 ?_;refine cZ 5 ?_;intro K v;go_simp;refine(QcB _ _ _ _).mono ?_;rintro e W ⟨rfl,g⟩;rw [O.out];have j:=Qaa qh.1 g;refine v.out _ _ ⟨j,(j.cell (p:=⟨w.heap.size,0,none⟩) Y).trans t,(j.cell (p:=⟨b,_,none⟩) m).trans o,(j.cell (p:=⟨b,_,none⟩) m).trans s,(j.cell (p:=⟨b,_,none⟩) m).trans A⟩ (fun qh=> ?_);clear v K;try simp only [zP]
      refine tZ 6 17 ?_;refine tZ 7 18 ?_;refine tZ 8 19 ?_;refine tZ 9 20 ?_;refine tZ 10 21 ?_;refine uZ 11 22 ?_;refine uZ 12 23 ?_;refine uZ 13 24 ?_;refine uZ 14 25 ?_;refine uZ 15 26 ?_;refine uZ 16 27 ?_;refine uZ 17 28 ?_;refine uZ 18 29 ?_;refine uZ 19 30 ?_;refine uZ 20 31 ?_;refine uZ 21 32 ?_;refine uZ 22 33 ?_;refine uZ 23 34 ?_;refine tZ 24 35 ?_;refine tZ 25 36 ?_;refine zD ?_;have N:=hid qh.2.1;have z:=hid j;clear qh j g;go_wp2_with fail;go_roundw;case rel=>exact⟨k+1,U,by go_num,Qc9 B O (fun h=>by have:=L.out;omega),N,M.trans (z.mono (by omega)),by have:=z.size;omega⟩
      case measure=>simp [intOf];omega
     ·have hg:decide (0<k)=true:=by simp;omega
      have Z:=(u.cell (p:=⟨b,q+(k - 1)*3,none⟩) Q).trans (y (k - 1) (by omega)).1;have G:=(u.cell (p:=⟨b,q+(k - 1)*3+1,none⟩) Q).trans (y (k - 1) (by omega)).2.1;have H:=(u.cell (p:=⟨b,q+(k - 1)*3+2,none⟩) Q).trans (y (k - 1) (by omega)).2.2;have e0:IntKind.i64.wrap ((k:Int) - 1)=(k:Int) - 1:=Qck _ (by omega) (by omega);have e1:((k:Int) - 1).toNat=k - 1:=by omega
      have e2:(1:Int)<=(k:Int):=by omega
      have e3:(k:Int) - 1<(n:Int):=by omega
      have P:=QaV.1 (E (k - 1) (by omega)).1;have C:=hid P;have L:=hid I;clear y u E I P;go_wp2_with fail;refine zR (S:=fun w'=>Bl wr w'/\ w'.cell? ⟨w.heap.size,0,none⟩=some (.slice (some ⟨b,q,none⟩) n c)/\ w'.cell? ⟨b,q+k*3,none⟩=some (.int .i64 (R k))/\ w'.cell? ⟨b,q+k*3+1,none⟩=some (.int .i64 (F k))/\ w'.cell? ⟨b,q+k*3+2,none⟩=some (.int .i64 (T k))/\ w'.cell? ⟨b,q+(k - 1)*3,none⟩=some (.int .i64 (R (k - 1)))/\ w'.cell? ⟨b,q+(k - 1)*3+1,none⟩=some (.int .i64 (F (k - 1)))/\ w'.cell? ⟨b,q+(k - 1)*3+2,none⟩=some (.int .i64 (T (k - 1)))) ⟨zI.drew,t,o,s,A,Z,G,H⟩ (fun qh=> ?_);refine tZ 0 11 ?_;refine tZ 1 12 ?_;refine tZ 2 13 ?_;refine tZ 3 14 ?_;refine tZ 4 15 ?_;refine cZ 5 ?_;intro K v;go_simp;refine(QcB _ _ _ _).mono ?_;rintro e W ⟨rfl,g⟩;rw [O.out];have j:=Qaa qh.1 g;refine v.out _ _ ⟨j,(j.cell (p:=⟨w.heap.size,0,none⟩) Y).trans t,(j.cell (p:=⟨b,_,none⟩) m).trans o,(j.cell (p:=⟨b,_,none⟩) m).trans s,(j.cell (p:=⟨b,_,none⟩) m).trans A,(j.cell (p:=⟨b,_,none⟩) m).trans Z,(j.cell (p:=⟨b,_,none⟩) m).trans G,(j.cell (p:=⟨b,_,none⟩) m).trans H⟩ (fun qh=> ?_);clear v K;try simp only [zP]
      refine tZ 6 17 ?_;refine tZ 7 18 ?_;refine tZ 8 19 ?_;refine tZ 9 20 ?_;refine tZ 10 21 ?_;refine tZ 11 22 ?_;refine tZ 12 23 ?_;refine tZ 13 24 ?_;refine tZ 14 25 ?_;refine tZ 15 26 ?_;refine tZ 16 27 ?_;refine tZ 17 28 ?_;refine tZ 18 29 ?_;refine tZ 19 30 ?_;refine tZ 20 31 ?_;refine tZ 21 32 ?_;refine cZ 22 ?_;intro K v;go_simp;refine(QiP (R (k - 1)) (F (k - 1)) (T (k - 1)) (R k) (F k) (T k) _ (by have:=C.out;omega) (by have:=C.out;omega)).mono ?_;rintro e w3 ⟨rfl,X⟩;have r:=Qaa j X;cases ha:QaC (R (k - 1)) (T (k - 1)) (R k) (F k) with
      | false=>
       have J:=hid ha;clear ha;refine v.out _ _ ⟨r,(r.cell (p:=⟨w.heap.size,0,none⟩) Y).trans t,(r.cell (p:=⟨b,_,none⟩) m).trans o,(r.cell (p:=⟨b,_,none⟩) m).trans s,(r.cell (p:=⟨b,_,none⟩) m).trans A,(r.cell (p:=⟨b,_,none⟩) m).trans Z,(r.cell (p:=⟨b,_,none⟩) m).trans G,(r.cell (p:=⟨b,_,none⟩) m).trans H⟩ (fun qh=> ?_);clear v K;try simp only [zP]
       refine tZ 23 34 ?_;refine tZ 24 35 ?_;refine tZ 25 36 ?_;refine zD ?_;have z:=hid r;clear qh j g X r;go_wp2_with fail;go_ret;exact⟨QbE (Qch U (by have:=L.out;omega) J).symm,M.trans (z.mono (by omega))⟩
      | true=>
       have J:=hid ha;clear ha;refine v.out _ _ ⟨r,(r.cell (p:=⟨w.heap.size,0,none⟩) Y).trans t,(r.cell (p:=⟨b,_,none⟩) m).trans o,(r.cell (p:=⟨b,_,none⟩) m).trans s,(r.cell (p:=⟨b,_,none⟩) m).trans A,(r.cell (p:=⟨b,_,none⟩) m).trans Z,(r.cell (p:=⟨b,_,none⟩) m).trans G,(r.cell (p:=⟨b,_,none⟩) m).trans H⟩ (fun qh=> ?_);clear v K;try simp only [zP]
       refine tZ 23 34 ?_;refine tZ 24 35 ?_;refine tZ 25 36 ?_;refine zD ?_;have N:=hid qh.2.1;have z:=hid r;clear qh j g X r e0 e1 e2 e3;go_wp2_with fail;go_roundw;case rel=>exact⟨k+1,U,by go_num,Qc9 B O (fun _=>J.out),N,M.trans (z.mono (by omega)),by have:=z.size;omega⟩
       case measure=>simp [intOf];omega
   ·obtain rfl:k=n:=by omega
    have M:=hid u;by_cases D:k<=1000
    ·have V:Hid (Qdh R F T k=true):=Qax.2 ⟨E,D⟩;have hd:decide ((k:Int)<=1000)=true:=by simp;omega
     clear y u E;go_wp2_with fail;go_ret;exact⟨QbE V.symm,M⟩
    ·have V:Hid (Qdh R F T k=false):=QbV fun h=>D h.2;have hd:decide ((k:Int)<=1000)=false:=by simp;omega
     clear y u E;go_wp2_with fail;go_ret;exact⟨QbE V.symm,M⟩
theorem Qky (a:Option Addr)(n c:Nat)(R F T:Nat ->Int)(w:World)(hn:n<=1048576)(h:Qa7 w a n R F T):
  Cl 175 #[.agg #[.slice a n c]] w (Rt w (.bool (Qdh R F T n))):=by
 by_cases hm:n<=1000;case neg=>
  have Z:Hid (Qdh R F T n=false):=QbV fun h=>hm h.2;go_enter Tryz.func175,Tryz.ntmps175;go_wp2_with fail;go_ret;exact⟨QbE Z.symm,zO _ _⟩
 rcases h with h|⟨b,r,rfl,O,g⟩
 ·subst h;have Z:Hid (Qdh R F T 0=true):=Qax.2 ⟨fun i hi=>by omega,by omega⟩;go_enter Tryz.func175,Tryz.ntmps175;go_wp2_with fail;refine wp_loop_rounds 1 ?_;rw [rounds_succ];go_wp2_with fail;go_ret;exact⟨QbE Z.symm,zO _ _⟩
 ·go_enter Tryz.func175,Tryz.ntmps175;go_wp2_with fail;go_loopw [12] (fun i wr=>∃k:Nat,k<=n/\ i=.int .i64 k/\ Qd8 R F T k/\ wr.cell? ⟨w.heap.size,0,none⟩=some (.slice (some ⟨b,r,none⟩) n c)/\ Bl w wr/\ w.heap.size<wr.heap.size) (fun i _=>n - (intOf i).toNat);case atStart=>exact⟨0,Nat.zero_le _,rfl,fun i hi=>by omega,by simp,zO _ _,by simp⟩
  case round=>
   obtain⟨k,hk,rfl,U,J,z,He⟩:=hrel;have Hf:=Nat.lt_of_lt_of_le O z.size;by_cases Q:k<n
   ·have Hc:wr.cell? ⟨b,r+k*3,none⟩=some (.int .i64 (R k)):=(z.cell (p:=⟨b,_,none⟩) O).trans (g k Q).1;have Ha:wr.cell? ⟨b,r+k*3+1,none⟩=some (.int .i64 (F k)):=(z.cell (p:=⟨b,_,none⟩) O).trans (g k Q).2.1;have Hb:wr.cell? ⟨b,r+k*3+2,none⟩=some (.int .i64 (T k)):=(z.cell (p:=⟨b,_,none⟩) O).trans (g k Q).2.2;have V:=hid z;have HO:=hid U;obtain⟨v,y⟩:=zE (wr.alloc (.cells #[.int .i64 (R k),.int .i64 (F k),.int .i64 (T k)] 124));have q:wr.heap.size<v.heap.size:=by rw [<- y];simp
    have G:w.heap.size<v.heap.size:=by omega
    have s:b<v.heap.size:=by omega
    have Y:Bl wr v:=by rw [<- y];exact zO _ _
    have A:v.cell? ⟨w.heap.size,0,none⟩=some (.slice (some ⟨b,r,none⟩) n c):=(Y.cell (p:=⟨w.heap.size,0,none⟩) He).trans J;have E:v.cell? ⟨wr.heap.size,0,none⟩=some (.int .i64 (R k)):=by rw [<- y];simp
    have r1:v.cell? ⟨wr.heap.size,1,none⟩=some (.int .i64 (F k)):=by rw [<- y];simp
    have r2:v.cell? ⟨wr.heap.size,2,none⟩=some (.int .i64 (T k)):=by rw [<- y];simp
    have H:=hid Y;cases hr:QaJ (R k) (F k) (T k) with
    | false=>
     have M:=hid hr;clear hr g z U Y;go_wp2_with fail;try rw [y]
     clear y J Hc Ha Hb;refine zR (S:=fun w'=>Bl v w'/\ w'.cell? ⟨w.heap.size,0,none⟩=some (.slice (some ⟨b,r,none⟩) n c)/\ w'.cell? ⟨wr.heap.size,0,none⟩=some (.int .i64 (R k))/\ w'.cell? ⟨wr.heap.size,1,none⟩=some (.int .i64 (F k))/\ w'.cell? ⟨wr.heap.size,2,none⟩=some (.int .i64 (T k))) ⟨zI.drew,A,E,r1,r2⟩ (fun qh=> ?_);refine tZ 0 17 ?_;refine cZ 1 ?_;intro K u;go_simp;refine(Qdz _ _ _ _).mono ?_;rintro e w2 ⟨rfl,o⟩;rw [M.out];have j:=Qaa qh.1 o;refine u.out _ _ ⟨j,(j.cell (p:=⟨w.heap.size,0,none⟩) G).trans A,(j.cell (p:=⟨wr.heap.size,0,none⟩) q).trans E,(j.cell (p:=⟨wr.heap.size,1,none⟩) q).trans r1,(j.cell (p:=⟨wr.heap.size,2,none⟩) q).trans r2⟩ (fun qh=> ?_);clear u K;try simp only [zP]
     refine tZ 2 19 ?_;refine tZ 3 20 ?_;refine uZ 4 21 ?_;refine uZ 5 22 ?_;refine uZ 6 23 ?_;refine uZ 7 24 ?_;refine uZ 8 25 ?_;refine uZ 9 26 ?_;refine uZ 10 27 ?_;refine uZ 11 28 ?_;refine uZ 12 29 ?_;refine uZ 13 30 ?_;refine uZ 14 31 ?_;refine uZ 15 32 ?_;refine uZ 16 33 ?_;refine tZ 17 34 ?_;refine zD ?_;have t:=hid j;clear qh j o;go_wp2_with fail;go_ret;exact⟨QbE (Qda Q M).symm,V.trans ((H.trans (t.mono (by omega))).mono (by omega))⟩
    | true=>
     have M:=hid hr;clear hr;by_cases B:k=0
     ·have hg:decide (0<k)=false:=by simp;omega
      have D:=hid B;clear g z U B Y;go_wp2_with fail;try rw [y]
      clear y J Hc Ha Hb;refine zR (S:=fun w'=>Bl v w'/\ w'.cell? ⟨w.heap.size,0,none⟩=some (.slice (some ⟨b,r,none⟩) n c)/\ w'.cell? ⟨wr.heap.size,0,none⟩=some (.int .i64 (R k))/\ w'.cell? ⟨wr.heap.size,1,none⟩=some (.int .i64 (F k))/\ w'.cell? ⟨wr.heap.size,2,none⟩=some (.int .i64 (T k))) ⟨zI.drew,A,E,r1,r2⟩ (fun qh=> ?_);refine tZ 0 17 ?_;refine cZ 1 ?_;intro K u;go_simp;refine(Qdz _ _ _ _).mono ?_;rintro e w2 ⟨rfl,o⟩;rw [M.out];have j:=Qaa qh.1 o;refine u.out _ _ ⟨j,(j.cell (p:=⟨w.heap.size,0,none⟩) G).trans A,(j.cell (p:=⟨wr.heap.size,0,none⟩) q).trans E,(j.cell (p:=⟨wr.heap.size,1,none⟩) q).trans r1,(j.cell (p:=⟨wr.heap.size,2,none⟩) q).trans r2⟩ (fun qh=> ?_);clear u K;try simp only [zP]
      refine tZ 2 19 ?_;refine tZ 3 20 ?_;refine tZ 4 21 ?_;refine tZ 5 22 ?_;refine tZ 6 23 ?_;refine uZ 7 24 ?_;refine uZ 8 25 ?_;refine uZ 9 26 ?_;refine uZ 10 27 ?_;refine uZ 11 28 ?_;refine uZ 12 29 ?_;refine uZ 13 30 ?_;refine uZ 14 31 ?_;refine uZ 15 32 ?_;refine tZ 16 33 ?_;refine tZ 17 34 ?_;refine zD ?_;have P:=hid qh.2.1;have t:=hid j;clear qh j o;go_wp2_with fail;go_roundw;case rel=>exact⟨k+1,Q,by go_num,Qc9 HO M (fun h=>by have:=D.out;omega),P,V.trans ((H.trans (t.mono (by omega))).mono (by omega)),by have:=t.size;omega⟩
      case measure=>simp [intOf];omega
     ·have hg:decide (0<k)=true:=by simp;omega
      have I:=z.trans (Y.mono (by omega));have L:=(I.cell (p:=⟨b,r+(k - 1)*3,none⟩) O).trans (g (k - 1) (by omega)).1;have N:=(I.cell (p:=⟨b,r+(k - 1)*3+1,none⟩) O).trans (g (k - 1) (by omega)).2.1;have X:=(I.cell (p:=⟨b,r+(k - 1)*3+2,none⟩) O).trans (g (k - 1) (by omega)).2.2;have e0:IntKind.i64.wrap ((k:Int) - 1)=(k:Int) - 1:=Qck _ (by omega) (by omega);have e1:((k:Int) - 1).toNat=k - 1:=by omega
      have e2:(1:Int)<=(k:Int):=by omega
      have e3:(k:Int) - 1<(n:Int):=by omega
      have Hd:=QaV.1 (U (k - 1) (by omega)).1;have HP:=hid Hd;have D:=hid B;clear g z U B Hd Y I;go_wp2_with fail;try rw [y]
      clear y J Hc Ha Hb;refine zR (S:=fun w'=>Bl v w'/\ w'.cell? ⟨w.heap.size,0,none⟩=some (.slice (some ⟨b,r,none⟩) n c)/\ w'.cell? ⟨wr.heap.size,0,none⟩=some (.int .i64 (R k))/\ w'.cell? ⟨wr.heap.size,1,none⟩=some (.int .i64 (F k))/\ w'.cell? ⟨wr.heap.size,2,none⟩=some (.int .i64 (T k))/\ w'.cell? ⟨b,r+(k - 1)*3,none⟩=some (.int .i64 (R (k - 1)))/\ w'.cell? ⟨b,r+(k - 1)*3+1,none⟩=some (.int .i64 (F (k - 1)))/\ w'.cell? ⟨b,r+(k - 1)*3+2,none⟩=some (.int .i64 (T (k - 1)))) ⟨zI.drew,A,E,r1,r2,L,N,X⟩ (fun qh=> ?_);refine tZ 0 17 ?_;refine cZ 1 ?_;intro K u;go_simp;refine(Qdz _ _ _ _).mono ?_;rintro e w2 ⟨rfl,o⟩;rw [M.out];have j:=Qaa qh.1 o;refine u.out _ _ ⟨j,(j.cell (p:=⟨w.heap.size,0,none⟩) G).trans A,(j.cell (p:=⟨wr.heap.size,0,none⟩) q).trans E,(j.cell (p:=⟨wr.heap.size,1,none⟩) q).trans r1,(j.cell (p:=⟨wr.heap.size,2,none⟩) q).trans r2,(j.cell (p:=⟨b,_,none⟩) s).trans L,(j.cell (p:=⟨b,_,none⟩) s).trans N,(j.cell (p:=⟨b,_,none⟩) s).trans X⟩ (fun qh=> ?_);clear u K;try simp only [zP]
      refine tZ 2 19 ?_;refine tZ 3 20 ?_;refine tZ 4 21 ?_;refine tZ 5 22 ?_;refine tZ 6 23 ?_;refine tZ 7 24 ?_;refine tZ 8 25 ?_;refine tZ 9 26 ?_;refine tZ 10 27 ?_;refine tZ 11 28 ?_;refine tZ 12 29 ?_;refine tZ 13 30 ?_;refine cZ 14 ?_;intro K u;go_simp;refine(QfX (R (k - 1)) (F (k - 1)) (T (k - 1)) (R k) (F k) (T k) _ (by have:=HP.out;omega) (by have:=HP.out;omega)).mono ?_;rintro e w3 ⟨rfl,W⟩;have m:=Qaa j W;cases ha:QaC (R (k - 1)) (T (k - 1)) (R k) (F k) with
      | false=>
       have C:=hid ha;clear ha;refine u.out _ _ ⟨m,(m.cell (p:=⟨w.heap.size,0,none⟩) G).trans A,(m.cell (p:=⟨wr.heap.size,0,none⟩) q).trans E,(m.cell (p:=⟨wr.heap.size,1,none⟩) q).trans r1,(m.cell (p:=⟨wr.heap.size,2,none⟩) q).trans r2,(m.cell (p:=⟨b,_,none⟩) s).trans L,(m.cell (p:=⟨b,_,none⟩) s).trans N,(m.cell (p:=⟨b,_,none⟩) s).trans X⟩ (fun qh=> ?_);clear u K;try simp only [zP]
       refine tZ 15 32 ?_;refine tZ 16 33 ?_;refine tZ 17 34 ?_;refine zD ?_;have t:=hid m;clear qh j o W m;go_wp2_with fail;go_ret;exact⟨QbE (Qch Q (by have:=D.out;omega) C).symm,V.trans ((H.trans (t.mono (by omega))).mono (by omega))⟩
      | true=>
       have C:=hid ha;clear ha;refine u.out _ _ ⟨m,(m.cell (p:=⟨w.heap.size,0,none⟩) G).trans A,(m.cell (p:=⟨wr.heap.size,0,none⟩) q).trans E,(m.cell (p:=⟨wr.heap.size,1,none⟩) q).trans r1,(m.cell (p:=⟨wr.heap.size,2,none⟩) q).trans r2,(m.cell (p:=⟨b,_,none⟩) s).trans L,(m.cell (p:=⟨b,_,none⟩) s).trans N,(m.cell (p:=⟨b,_,none⟩) s).trans X⟩ (fun qh=> ?_);clear u K;try simp only [zP]
       refine tZ 15 32 ?_;refine tZ 16 33 ?_;refine tZ 17 34 ?_;refine zD ?_;have P:=hid qh.2.1;have t:=hid m;clear qh j o W m e0 e1 e2 e3;go_wp2_with fail;go_roundw;case rel=>exact⟨k+1,Q,by go_num,Qc9 HO M (fun _=>C.out),P,V.trans ((H.trans (t.mono (by omega))).mono (by omega)),by have:=t.size;omega⟩
       case measure=>simp [intOf];omega
   ·obtain rfl:k=n:=by omega
    have V:=hid z;have Z:Hid (Qdh R F T k=true):=Qax.2 ⟨U,hm⟩;clear g z U;go_wp2_with fail;go_ret;exact⟨QbE Z.symm,V⟩
theorem Qm3 (a a':Option Addr)(n c c':Nat)(R F T:Nat ->Int)(w:World)(hn:n<=1048576)(h:Qa7 w a n R F T)(o:Qa7 w a' n R F T):
  Cl 88 #[.slice a n c,.slice a' n c'] w (Rt w (.bool true)):=by
 by_cases s:n=0
 ·subst s;go_enter Tryz.func88,Tryz.ntmps88;go_wp2_with fail;refine wp_loop_rounds 1 ?_;rw [rounds_succ];go_wp2_with fail;go_ret;exact⟨rfl,zI⟩
 ·rcases h with h|⟨b,r,rfl,g,v⟩
  ·exact absurd h s
  rcases o with o|⟨b',u,rfl,t,y⟩
  ·exact absurd o s
  go_enter Tryz.func88,Tryz.ntmps88;go_wp2_with fail;go_loopw [5] (fun i wr=>∃k:Nat,k<=n/\ i=.int .i64 k/\ Bl w wr) (fun i _=>n - (intOf i).toNat);case atStart=>exact⟨0,Nat.zero_le _,rfl,zI⟩
  case round=>
   obtain⟨k,H,rfl,j⟩:=hrel;have A:=Nat.lt_of_lt_of_le g j.size;have E:=Nat.lt_of_lt_of_le t j.size;by_cases q:k<n
   ·have x0:wr.cell? ⟨b,r+k*3,none⟩=some (.int .i64 (R k)):=(j.cell (p:=⟨b,_,none⟩) g).trans (v k q).1;have Q:wr.cell? ⟨b,r+k*3+1,none⟩=some (.int .i64 (F k)):=(j.cell (p:=⟨b,_,none⟩) g).trans (v k q).2.1;have U:wr.cell? ⟨b,r+k*3+2,none⟩=some (.int .i64 (T k)):=(j.cell (p:=⟨b,_,none⟩) g).trans (v k q).2.2;have V:wr.cell? ⟨b',u+k*3,none⟩=some (.int .i64 (R k)):=(j.cell (p:=⟨b',_,none⟩) t).trans (y k q).1;have Y:wr.cell? ⟨b',u+k*3+1,none⟩=some (.int .i64 (F k)):=(j.cell (p:=⟨b',_,none⟩) t).trans (y k q).2.1;have Z:wr.cell? ⟨b',u+k*3+2,none⟩=some (.int .i64 (T k)):=(j.cell (p:=⟨b',_,none⟩) t).trans (y k q).2.2;have I:(0:Int)<=(k:Int):=Int.natCast_nonneg _;have J:(k:Int)<(n:Int):=by omega
    have z:=hid j;clear v y j;go_wp2_with fail;refine zR (S:=fun w'=>Bl wr w'/\ w'.cell? ⟨b,r+k*3,none⟩=some (.int .i64 (R k))/\ w'.cell? ⟨b,r+k*3+1,none⟩=some (.int .i64 (F k))/\ w'.cell? ⟨b,r+k*3+2,none⟩=some (.int .i64 (T k))/\ w'.cell? ⟨b',u+k*3,none⟩=some (.int .i64 (R k))/\ w'.cell? ⟨b',u+k*3+1,none⟩=some (.int .i64 (F k))/\ w'.cell? ⟨b',u+k*3+2,none⟩=some (.int .i64 (T k))) ⟨zI.drew,x0,Q,U,V,Y,Z⟩ (fun qh=> ?_);refine tZ 0 17 ?_;refine tZ 1 18 ?_;refine tZ 2 19 ?_;refine tZ 3 20 ?_;refine tZ 4 21 ?_;refine tZ 5 22 ?_;refine tZ 6 23 ?_;refine tZ 7 24 ?_;refine cZ 8 ?_;intro K O;go_simp;refine(QnA (R k) (F k) (T k) _).mono ?_;rintro e L ⟨rfl,M⟩;have m:=Qaa qh.1 M;refine O.out _ _ ⟨m,(m.cell (p:=⟨b,_,none⟩) A).trans x0,(m.cell (p:=⟨b,_,none⟩) A).trans Q,(m.cell (p:=⟨b,_,none⟩) A).trans U,(m.cell (p:=⟨b',_,none⟩) E).trans V,(m.cell (p:=⟨b',_,none⟩) E).trans Y,(m.cell (p:=⟨b',_,none⟩) E).trans Z⟩ (fun qh=> ?_);clear O K;try simp only [zP]
    refine tZ 9 26 ?_;refine zD ?_;have G:=hid m;clear qh m M;go_wp2_with fail;go_roundw;case rel=>exact⟨k+1,q,by go_num,z.trans (G.mono z.size)⟩
    case measure=>simp [intOf];omega
   ·obtain rfl:k=n:=by omega
    have z:=hid j;clear v y j;go_wp2_with fail;go_ret;exact⟨rfl,z⟩
theorem Qig (a a':Option Addr)(n c c':Nat)(R F T:Nat ->Int)(w:World)(hn:n<=1048576)(h:Qa7 w a n R F T)(h':Qa7 w a' n R F T):
  Cl 52 #[.agg #[.slice a n c],.agg #[.slice a' n c']] w (Rt w (.bool true)):=by
 have j:=hid (fun(o o':Obj)=>Qae w o o');go_enter Tryz.func52,Tryz.ntmps52;go_wp2_with fail;refine(Qm3 a a' n c c' R F T _ hn (h.bw (j _ _)) (h'.bw (j _ _))).mono ?_;rintro e w1 ⟨rfl,k⟩;have m:=hid (Qaa (j _ _) k);clear k h h';go_wp2_with fail;go_ret;exact⟨rfl,m⟩
def gS (p:List ByteArray)(i:Nat):ByteArray:=p.getD i ByteArray.empty
def Qaw (w:World)(a:Option Addr)(p:List ByteArray):Prop:=
 p.length=0 \/∃b off,a=some ⟨b,off,none⟩/\ b<w.heap.size/\∀i,i<p.length ->w.cell? ⟨b,off+i,none⟩=some (.string (gS p i))
theorem Qaw.kept{a:Option Addr}(h:Qaw w a p)(hb:Below B w w1)(hB:w.heap.size<=B):Qaw w1 a p:=by
 refine h.imp id ?_;rintro⟨b,k,e,j,m⟩;exact⟨b,k,e,Nat.lt_of_lt_of_le j hb.size,fun i hi=>(hb.cell (p:=⟨b,k+i,none⟩) (Nat.lt_of_lt_of_le j hB)).trans (m i hi)⟩
theorem Qaw.bw{a:Option Addr}(h:Qaw w a p)(hb:Bl w w1):Qaw w1 a p:=h.kept hb zL
structure Lf where
 p:List ByteArray
 fl:Bool
 r:Int
 q:Int
 v:ByteArray
def gL (l:List Lf)(i:Nat):Lf:=l.getD i ⟨[],false,0,0,ByteArray.empty⟩
def QbD (w:World)(a:Option Addr)(l:List Lf):Prop:=
 l.length=0 \/∃b off,a=some ⟨b,off,none⟩/\ b<w.heap.size/\∀i,i<l.length ->∃pa pc,w.cell? ⟨b,off+i*5,none⟩=some (.slice pa (gL l i).p.length pc)/\ Qaw w pa (gL l i).p/\ w.cell? ⟨b,off+i*5+1,none⟩=some (.bool (gL l i).fl)/\ w.cell? ⟨b,off+i*5+2,none⟩=some (.int .i64 (gL l i).r)/\ w.cell? ⟨b,off+i*5+3,none⟩=some (.int .i64 (gL l i).q)/\ w.cell? ⟨b,off+i*5+4,none⟩=some (.string (gL l i).v)
theorem QbD.bw{a:Option Addr}{l:List Lf}(h:QbD w a l)(hb:Bl w w1):QbD w1 a l:=by
 refine h.imp id ?_;rintro⟨b,z,e,j,y⟩;refine⟨b,z,e,Nat.lt_of_lt_of_le j hb.size,fun i hi=> ?_⟩;obtain⟨g,pc,k,s,m,r,u,v⟩:=y i hi;have q:=fun o=>hb.cell (p:=⟨b,o,none⟩) j;exact⟨g,pc,(q _).trans k,s.bw hb,(q _).trans m,(q _).trans r,(q _).trans u,(q _).trans v⟩
theorem Qfj (a a':Option Addr)(c c':Nat)(p:List ByteArray)(w:World)(hn:p.length<=1048576)(h:Qaw w a p)(q:Qaw w a' p):
  Cl 28 #[.slice a p.length c,.slice a' p.length c'] w (Rt w (.bool true)):=by
 by_cases r:p.length=0
 ·rw [r];go_enter Tryz.func28,Tryz.ntmps28;go_wp2_with fail;refine wp_loop_rounds 1 ?_;rw [rounds_succ];go_wp2_with fail;go_ret;exact⟨rfl,zI⟩
 ·rcases h with h|⟨b,A,rfl,t,u⟩
  ·exact absurd h r
  rcases q with q|⟨b',E,rfl,o,v⟩
  ·exact absurd q r
  go_enter Tryz.func28,Tryz.ntmps28;go_wp2_with fail;go_loopw [5] (fun i wr=>∃k:Nat,k<=p.length/\ i=.int .i64 k/\ Bl w wr) (fun i _=>p.length - (intOf i).toNat);case atStart=>exact⟨0,Nat.zero_le _,rfl,zI⟩
  case round=>
   obtain⟨k,Q,rfl,m⟩:=hrel;by_cases y:k<p.length
   ·have x0:=(m.cell (p:=⟨b,A+k,none⟩) t).trans (u k y);have M:=(m.cell (p:=⟨b',E+k,none⟩) o).trans (v k y);obtain⟨s,z⟩:=zE (gS p k);rw [z] at x0 M;have U:(0:Int)<=(k:Int):=Int.natCast_nonneg _;have V:(k:Int)<(p.length:Int):=by omega
    have O:(s.toList==s.toList)=true:=by simp
    have j:=hid m;clear u v m z;go_wp2_with fail;go_quiet (fail);have g:=hid (show Bl w (wr.drewN nq) from⟨j.os,j.tape,j.output,j.size,j.block⟩);go_wp2_with fail;go_roundw;case rel=>exact⟨k+1,y,by go_num,g⟩
    case measure=>simp [intOf];omega
   ·obtain rfl:k=p.length:=by omega
    have j:=hid m;clear u v m;go_wp2_with fail;go_ret;exact⟨rfl,j⟩
theorem Qm2 (r q:Int)(w:World):Cl 115 #[.agg #[.int .i64 r,.int .i64 q],.agg #[.int .i64 r,.int .i64 q]] w (Rt w (.bool true)):=by
 have m:(r !=r)=false:=by simp
 have k:(q !=q)=false:=by simp
 have j:=hid ((zO w (.cells #[.int .i64 r,.int .i64 q] 104)).alloc (by simp) (.cells #[.int .i64 r,.int .i64 q] 104));go_enter Tryz.func115,Tryz.ntmps115;go_wp2_with fail;go_ret;exact⟨rfl,j⟩
theorem Qli (a a':Option Addr)(c c':Nat)(p:List ByteArray)(fl:Bool)(r q:Int)(v:ByteArray)(w:World)(hn:p.length<=1048576)(h:Qaw w a p)(h':Qaw w a' p):
  Cl 87 #[.agg #[.slice a p.length c,.bool fl,.int .i64 r,.int .i64 q,.string v],.agg #[.slice a' p.length c',.bool fl,.int .i64 r,.int .i64 q,.string v]] w (Rt w (.bool true)):=by
 obtain⟨W,j⟩:=zE ((w.alloc (.cells #[.slice a p.length c,.bool fl,.int .i64 r,.int .i64 q,.string v] 106)).alloc (.cells #[.slice a' p.length c',.bool fl,.int .i64 r,.int .i64 q,.string v] 106));have y:Bl w W:=by rw [<- j];exact(zO _ _).alloc (by simp) _
 have Y:W.heap.size=w.heap.size+2:=by rw [<- j];simp
 have k0:W.cell? ⟨w.heap.size,0,none⟩=some (.slice a p.length c):=by rw [<- j];simp
 have J:W.cell? ⟨w.heap.size+1,0,none⟩=some (.slice a' p.length c'):=by rw [<- j];simp
 have o:W.cell? ⟨w.heap.size,1,none⟩=some (.bool fl):=by rw [<- j];simp
 have b:W.cell? ⟨w.heap.size,2,none⟩=some (.int .i64 r):=by rw [<- j];simp
 have s:W.cell? ⟨w.heap.size,3,none⟩=some (.int .i64 q):=by rw [<- j];simp
 have A:W.cell? ⟨w.heap.size,4,none⟩=some (.string v):=by rw [<- j];simp
 have E:W.cell? ⟨w.heap.size+1,1,none⟩=some (.bool fl):=by rw [<- j];simp
 have M:W.cell? ⟨w.heap.size+1,2,none⟩=some (.int .i64 r):=by rw [<- j];simp
 have O:W.cell? ⟨w.heap.size+1,3,none⟩=some (.int .i64 q):=by rw [<- j];simp
 have Q:W.cell? ⟨w.heap.size+1,4,none⟩=some (.string v):=by rw [<- j];simp
 have t:=hid (Qfj a a' c c' p W hn (h.bw y) (h'.bw y));have Z:=hid y;have g:=hid Y;have D:(fl !=fl)=false:=by simp
 have F:(v.toList==v.toList)=true:=by simp
 clear h h' y Y;go_enter Tryz.func87,Tryz.ntmps87;go_wp2_with fail;try rw [j]
 clear j;refine t.mono ?_;rintro e w1 ⟨rfl,k⟩;have m:=fun(i:Nat)=>k.cell (p:=⟨w.heap.size,i,none⟩) (show w.heap.size<W.heap.size by have:=g.out;omega);have u:=fun(i:Nat)=>k.cell (p:=⟨w.heap.size+1,i,none⟩) (show w.heap.size+1<W.heap.size by have:=g.out;omega);have K:=(m 1).trans o;have L:=(m 2).trans b;have N:=(m 3).trans s;have U:=(m 4).trans A;have X:=(u 1).trans E;have B:=(u 2).trans M;have C:=(u 3).trans O;have V:=(u 4).trans Q;have G:=hid (Qaa Z k);have I:w.heap.size+1<w1.heap.size:=by have:=k.size;have:=g.out;omega
 clear m u k0 o b s A J E M O Q k t;go_wp2_with fail;refine(Qm2 r q w1).mono ?_;rintro e S ⟨rfl,z⟩;have P:=(z.cell (p:=⟨w.heap.size,4,none⟩) (show w.heap.size<w1.heap.size by omega)).trans U;have R:=(z.cell (p:=⟨w.heap.size+1,4,none⟩) I).trans V;have H:=hid (Qaa G z);clear z K L N U X B C V;go_wp2_with fail;go_ret;exact⟨rfl,H⟩
def LfI (x:Lf):Prop:=(Lit.int .i64 x.r).wf=true/\ (Lit.int .i64 x.q).wf=true
theorem Qbf (b off j:Nat):(⟨b,off,none⟩:Addr).add j=⟨b,off+j,none⟩:=by
 by_cases k:j=0
 ·subst k;rfl
 ·simp [Addr.add,k]
def LBd (l:List Lf):Prop:=∀i,(gL l i).p.length<=1048576
theorem Qj1 (a a':Option Addr)(c c':Nat)(l:List Lf)(w:World)(hn:l.length<=1048576)(hp:LBd l)(h:QbD w a l)(I:QbD w a' l):
  Cl 51 #[.slice a l.length c,.slice a' l.length c'] w (Rt w (.bool true)):=by
 by_cases J:l.length=0
 ·rw [J];go_enter Tryz.func51,Tryz.ntmps51;go_wp2_with fail;refine wp_loop_rounds 1 ?_;rw [rounds_succ];go_wp2_with fail;go_ret;exact⟨rfl,zI⟩
 ·rcases h with h|⟨b,u,rfl,z,L⟩
  ·exact absurd h J
  rcases I with I|⟨b',y,rfl,g,N⟩
  ·exact absurd I J
  go_enter Tryz.func51,Tryz.ntmps51;go_wp2_with fail;go_loopw [5] (fun i wr=>∃k:Nat,k<=l.length/\ i=.int .i64 k/\ Bl w wr) (fun i _=>l.length - (intOf i).toNat);case atStart=>exact⟨0,Nat.zero_le _,rfl,zI⟩
  case round=>
   obtain⟨k,hk,rfl,j⟩:=hrel;have t:=Nat.lt_of_lt_of_le z j.size;have o:=Nat.lt_of_lt_of_le g j.size;by_cases X:k<l.length
   ·obtain⟨pa,pc,E,s,M,O,Q,U⟩:=L k X;obtain⟨Ha,Hb,V,B,Y,Z,G,H⟩:=N k X;have R:=hp k;obtain⟨p,P⟩:=zE ((gL l k).p);obtain⟨fl,F⟩:=zE ((gL l k).fl);obtain⟨r,W⟩:=zE ((gL l k).r);obtain⟨q,T⟩:=zE ((gL l k).q);obtain⟨v,hv⟩:=zE ((gL l k).v);rw [P] at E s V B R;rw [F] at M Y;rw [W] at O Z;rw [T] at Q G;rw [hv] at U H;have x0:=(j.cell (p:=⟨b,u+k*5,none⟩) z).trans E;have x1:=(j.cell (p:=⟨b,u+k*5+1,none⟩) z).trans M;have x2:=(j.cell (p:=⟨b,u+k*5+2,none⟩) z).trans O;have x3:=(j.cell (p:=⟨b,u+k*5+3,none⟩) z).trans Q;have x4:=(j.cell (p:=⟨b,u+k*5+4,none⟩) z).trans U;have y0:=(j.cell (p:=⟨b',y+k*5,none⟩) g).trans V;have y1:=(j.cell (p:=⟨b',y+k*5+1,none⟩) g).trans Y;have y2:=(j.cell (p:=⟨b',y+k*5+2,none⟩) g).trans Z;have y3:=(j.cell (p:=⟨b',y+k*5+3,none⟩) g).trans G;have y4:=(j.cell (p:=⟨b',y+k*5+4,none⟩) g).trans H;have Hc:=hid (s.bw j);have Hd:=hid (B.bw j);have He:(0:Int)<=(k:Int):=Int.natCast_nonneg _;have Hf:(k:Int)<(l.length:Int):=by omega
    have A:=hid j;clear L N j E s M O Q U V B Y Z G H P F W T hv hp;go_wp2_with fail;refine zR (S:=fun w'=>Bl wr w'/\ w'.cell? ⟨b,u+k*5,none⟩=some (.slice pa p.length pc)/\ w'.cell? ⟨b,u+k*5+1,none⟩=some (.bool fl)/\ w'.cell? ⟨b,u+k*5+2,none⟩=some (.int .i64 r)/\ w'.cell? ⟨b,u+k*5+3,none⟩=some (.int .i64 q)/\ w'.cell? ⟨b,u+k*5+4,none⟩=some (.string v)/\ w'.cell? ⟨b',y+k*5,none⟩=some (.slice Ha p.length Hb)/\ w'.cell? ⟨b',y+k*5+1,none⟩=some (.bool fl)/\ w'.cell? ⟨b',y+k*5+2,none⟩=some (.int .i64 r)/\ w'.cell? ⟨b',y+k*5+3,none⟩=some (.int .i64 q)/\ w'.cell? ⟨b',y+k*5+4,none⟩=some (.string v)) ⟨zI.drew,x0,x1,x2,x3,x4,y0,y1,y2,y3,y4⟩ (fun qh=> ?_);refine tZ 0 17 ?_;refine tZ 1 18 ?_;refine tZ 2 19 ?_;refine tZ 3 20 ?_;refine tZ 4 21 ?_;refine tZ 5 22 ?_;refine tZ 6 23 ?_;refine tZ 7 24 ?_;refine cZ 8 ?_;intro K D;go_simp;refine(Qli pa Ha pc Hb p fl r q v _ R (Hc.bw qh.1) (Hd.bw qh.1)).mono ?_;rintro e w2 ⟨rfl,C⟩;have m:=Qaa qh.1 C;refine D.out _ _ ⟨m,(m.cell (p:=⟨b,_,none⟩) t).trans x0,(m.cell (p:=⟨b,_,none⟩) t).trans x1,(m.cell (p:=⟨b,_,none⟩) t).trans x2,(m.cell (p:=⟨b,_,none⟩) t).trans x3,(m.cell (p:=⟨b,_,none⟩) t).trans x4,(m.cell (p:=⟨b',_,none⟩) o).trans y0,(m.cell (p:=⟨b',_,none⟩) o).trans y1,(m.cell (p:=⟨b',_,none⟩) o).trans y2,(m.cell (p:=⟨b',_,none⟩) o).trans y3,(m.cell (p:=⟨b',_,none⟩) o).trans y4⟩ (fun qh=> ?_);clear D K;try simp only [zP]
    refine tZ 9 26 ?_;refine zD ?_;have HZ:=hid m;clear qh m C;go_wp2_with fail;go_roundw;case rel=>exact⟨k+1,X,by go_num,A.trans (HZ.mono A.size)⟩
    case measure=>simp [intOf];omega
   ·obtain rfl:k=l.length:=by omega
    have A:=hid j;clear L N j;go_wp2_with fail;go_ret;exact⟨rfl,A⟩
theorem QgH (a a':Option Addr)(c c':Nat)(l:List Lf)(x x':Option Addr)(n d d':Nat)(R F T:Nat ->Int)(w:World)(hn:l.length<=1048576)(hp:LBd l)(hm:n<=1048576)(h:QbD w a l)(h':QbD w a' l)(k:Qa7 w x n R F T)(k':Qa7 w x' n R F T):
  Cl 27 #[.agg #[.slice a l.length c,.slice x n d],.agg #[.slice a' l.length c',.slice x' n d']] w (Rt w (.bool true)):=by
 obtain⟨W,j⟩:=zE ((w.alloc (.cells #[.slice a l.length c,.slice x n d] 40)).alloc (.cells #[.slice a' l.length c',.slice x' n d'] 40));have m:Bl w W:=by rw [<- j];exact Qae _ _ _
 have o:W.heap.size=w.heap.size+2:=by rw [<- j];simp
 have k0:W.cell? ⟨w.heap.size,0,none⟩=some (.slice a l.length c):=by rw [<- j];simp
 have g:W.cell? ⟨w.heap.size,1,none⟩=some (.slice x n d):=by rw [<- j];simp
 have s:W.cell? ⟨w.heap.size+1,0,none⟩=some (.slice a' l.length c'):=by rw [<- j];simp
 have t:W.cell? ⟨w.heap.size+1,1,none⟩=some (.slice x' n d'):=by rw [<- j];simp
 have v:=hid (Qj1 a a' c c' l W hn hp (h.bw m) (h'.bw m));have u:=hid (fun w1(hb:Bl W w1)=>Qig x x' n d d' R F T w1 hm ((k.bw m).bw hb) ((k'.bw m).bw hb));have i:=hid m;have y:=hid o;clear h h' k k' m o;go_enter Tryz.func27,Tryz.ntmps27;go_wp2_with fail;try rw [j]
 clear j;refine v.mono ?_;rintro e w1 ⟨rfl,q⟩;have A:=(q.cell (p:=⟨w.heap.size,1,none⟩) (show w.heap.size<W.heap.size by have:=y.out;omega)).trans g;have E:=(q.cell (p:=⟨w.heap.size+1,1,none⟩) (show w.heap.size+1<W.heap.size by have:=y.out;omega)).trans t;have r:=hid q;clear q k0 g s t v;go_wp2_with fail;refine(u w1 r).mono ?_;rintro e M ⟨rfl,z⟩;have b:=hid (Qaa i (Qaa r z));clear z A E u;go_wp2_with fail;go_ret;exact⟨rfl,b⟩
def QlZ (p:List ByteArray):Prop:=p.length<=9223372036854775807/\∀i,(gS p i).size<=9223372036854775807
def PSm (p:List ByteArray):Prop:=p.length<=1048576/\∀i,(gS p i).size<=1048576
def Qfa (x:Lf):Prop:=QlZ x.p/\ x.v.size<=9223372036854775807
def QlY (x:Lf):Prop:=PSm x.p/\ x.v.size<=1048576
theorem Qdx(h:p.length<=i):gS p i=ByteArray.empty:=by simp [gS,List.getD,List.getElem?_eq_none h]
theorem Qf9 (a:Option Addr)(c:Nat)(p:List ByteArray)(k:Int)(w:World)(hk0:0<=k)(hk1:k<=1048576)(hb:QlZ p)(h:Qaw w a p):
  Cl 16 #[.slice a p.length c,.int .i64 k] w fun e w'=>(∃k',e=.returned (.int .i64 k')/\ -1<=k'/\ k'<=k/\ (0<=k' ->PSm p))/\ w'=w:=by
 obtain⟨H,z⟩:=hb;by_cases Y:k<(p.length:Int)
 ·obtain⟨m,t⟩:=zE (k - (p.length:Int));have w1:IntKind.i64.wrap m=m:=by rw [IntKind.wrap_i64];omega
  have y:IntKind.i64.wrap (k - (p.length:Int))=m:=by rw [IntKind.wrap_i64];omega
  have u:decide (m<0)=true:=by simp;omega
  clear h z;go_enter Tryz.func16,Tryz.ntmps16;go_wp2_with fail;go_ret;exact⟨⟨-1,rfl,by omega,by omega,fun h=>by omega⟩,rfl⟩
 ·obtain⟨m,t⟩:=zE (k - (p.length:Int));have w1:IntKind.i64.wrap m=m:=by rw [IntKind.wrap_i64];omega
  have y:IntKind.i64.wrap (k - (p.length:Int))=m:=by rw [IntKind.wrap_i64];omega
  have u:decide (m<0)=false:=by simp;omega
  have Z:p.length<=1048576:=by omega
  go_enter Tryz.func16,Tryz.ntmps16;go_wp2_with fail;have o:0<=m/\ m<=k:=by omega
  clear t w1 y u Y;go_loop [1,5] (fun kv iv=>∃(j:Nat) (r:Int),j<=p.length/\ iv=.int .i64 (j:Int)/\ kv=.int .i64 r/\ 0<=r/\ r<=k/\ Hid (∀i,i<j ->(gS p i).size<=1048576)) (fun _ iv=>p.length - (intOf iv).toNat);case atStart=>exact⟨0,m,Nat.zero_le _,rfl,rfl,o.1,o.2,hid (fun i hi=>by omega)⟩
  case round=>
   obtain⟨j,r,J,rfl,rfl,L,V,M⟩:=hrel;by_cases A:j<p.length
   ·rcases h with h|⟨b,B,rfl,I,g⟩
    ·omega
    have x0:=g j A;have G:=z j;obtain⟨s,v⟩:=zE (gS p j);rw [v] at x0 G;have N:(0:Int)<=(j:Int):=Int.natCast_nonneg _;have X:(j:Int)<(p.length:Int):=by omega
    have U:=hid v;obtain⟨q,K⟩:=zE (r - (s.size:Int));have w1:IntKind.i64.wrap q=q:=by rw [IntKind.wrap_i64];omega
    have y:IntKind.i64.wrap (r - (s.size:Int))=q:=by rw [IntKind.wrap_i64];omega
    clear g v;by_cases E:q<0
    ·have u:decide (q<0)=true:=by simpa using E
     go_wp2_with fail;go_ret;exact⟨⟨-1,rfl,by omega,by omega,fun h=>by omega⟩,rfl⟩
    ·have u:decide (q<0)=false:=by simpa using E
     have O:Hid (∀i,i<j+1 ->(gS p i).size<=1048576):=hid (fun i hi=>by
      by_cases e:i=j
      ·rw [e,U.out];omega
      ·exact M i (by omega))
     go_wp2_with fail;go_round;case rel=>exact⟨j+1,q,A,by go_num,rfl,by omega,by omega,O⟩
     case measure=>simp [intOf];omega
   ·obtain rfl:j=p.length:=by omega
    have Q:Hid (PSm p):=hid ⟨Z,fun i=>by
     by_cases hi:i<p.length
     ·exact M i hi
     ·rw [Qdx (by omega)];simp⟩
    clear h;go_wp2_with fail;go_ret;exact⟨⟨r,rfl,by omega,V,fun _=>Q.out⟩,rfl⟩
theorem QlT (a:Option Addr)(c:Nat)(x:Lf)(k:Int)(w:World)(hk0:0<=k)(hk1:k<=1048576)(hb:Qfa x)(h:Qaw w a x.p):
  Cl 58 #[.agg #[.slice a x.p.length c,.bool x.fl,.int .i64 x.r,.int .i64 x.q,.string x.v],.int .i64 k] w fun e w'=>(∃j,e=.returned (.int .i64 j)/\ -1<=j/\ j<=k/\ (0<=j ->QlY x))/\ Bl w w':=by
 obtain⟨p,fl,r,q,v⟩:=x;obtain⟨g,M⟩:=hb;dsimp only at g M h ⊢;obtain⟨W,u⟩:=zE (w.alloc (.cells #[.slice a p.length c,.bool fl,.int .i64 r,.int .i64 q,.string v] 102));have z:Bl w W:=by rw [<- u];exact zO _ _
 have k0:W.cell? ⟨w.heap.size,0,none⟩=some (.slice a p.length c):=by rw [<- u];simp
 have V:W.cell? ⟨w.heap.size,4,none⟩=some (.string v):=by rw [<- u];simp
 have t:=hid (Qf9 a c p k W hk0 hk1 g (h.bw z));have y:=hid z;clear h z g;go_enter Tryz.func58,Tryz.ntmps58;go_wp2_with fail;try rw [u]
 clear u;refine t.mono ?_;rintro e w1 ⟨⟨j,rfl,O,Q,b⟩,rfl⟩;have s:=hid b;clear b t;by_cases o:j<0
 ·have A:decide (j<0)=true:=by simpa using o
  go_wp2_with fail;go_ret;exact⟨⟨-1,rfl,by omega,by omega,fun h=>by omega⟩,y⟩
 ·have A:decide (j<0)=false:=by simpa using o
  obtain⟨m,U⟩:=zE (j - (v.size:Int));have w1:IntKind.i64.wrap m=m:=by rw [IntKind.wrap_i64];omega
  have Y:IntKind.i64.wrap (j - (v.size:Int))=m:=by rw [IntKind.wrap_i64];omega
  by_cases i:m<0
  ·have E:decide (m<0)=true:=by simpa using i
   go_wp2_with fail;go_ret;exact⟨⟨-1,rfl,by omega,by omega,fun h=>by omega⟩,y⟩
  ·have E:decide (m<0)=false:=by simpa using i
   go_wp2_with fail;go_ret;exact⟨⟨m,rfl,by omega,by omega,fun _=>⟨s (by omega),by show v.size<=1048576;omega⟩⟩,y⟩
theorem QjY (a:Option Addr)(c:Nat)(l:List Lf)(k:Int)(w:World)(hk0:0<=k)(hk1:k<=1048576)(hn:l.length<=9223372036854775807)(hb:∀i,Qfa (gL l i))(h:QbD w a l):
  Cl 32 #[.slice a l.length c,.int .i64 k] w fun e w'=>(∃q,e=.returned (.int .i64 q)/\ -1<=q/\ q<=k/\ (0<=q ->l.length<=1048576/\∀i,QlY (gL l i)))/\ Bl w w':=by
 obtain⟨r,L⟩:=zE (k - (l.length:Int));have w1:IntKind.i64.wrap r=r:=by rw [IntKind.wrap_i64];omega
 have D:IntKind.i64.wrap (k - (l.length:Int))=r:=by rw [IntKind.wrap_i64];omega
 by_cases u:r<0
 ·have g:decide (r<0)=true:=by simpa using u
  clear h hb;go_enter Tryz.func32,Tryz.ntmps32;go_wp2_with fail;go_ret;exact⟨⟨-1,rfl,by omega,by omega,fun h=>by omega⟩,zI⟩
 ·have g:decide (r<0)=false:=by simpa using u
  have B:l.length<=1048576:=by omega
  go_enter Tryz.func32,Tryz.ntmps32;go_wp2_with fail;have Y:0<=r/\ r<=k:=by omega
  clear L w1 D g u;go_loopw [1,5] (fun kv iv wr=>∃(j:Nat) (v:Int),j<=l.length/\ iv=.int .i64 (j:Int)/\ kv=.int .i64 v/\ 0<=v/\ v<=k/\ Hid (∀i,i<j ->QlY (gL l i))/\ Hid (Bl w wr)) (fun _ iv _=>l.length - (intOf iv).toNat);case atStart=>exact⟨0,r,Nat.zero_le _,rfl,rfl,Y.1,Y.2,hid (fun i hi=>by omega),hid zI⟩
  case round=>
   obtain⟨j,v,T,rfl,rfl,N,X,H,m⟩:=hrel;by_cases Z:j<l.length
   ·rcases h with h|⟨b,z,rfl,y,V⟩
    ·omega
    obtain⟨C,pc,E,s,M,O,Q,U⟩:=V j Z;have x0:=(m.cell (p:=⟨b,z+j*5,none⟩) y).trans E;have F:=(m.cell (p:=⟨b,z+j*5+1,none⟩) y).trans M;have P:=(m.cell (p:=⟨b,z+j*5+2,none⟩) y).trans O;have R:=(m.cell (p:=⟨b,z+j*5+3,none⟩) y).trans Q;have S:=(m.cell (p:=⟨b,z+j*5+4,none⟩) y).trans U;have o:=hid (QlT C pc (gL l j) v wr N (by omega) (hb j) (s.bw m));have i1:(0:Int)<=(j:Int):=Int.natCast_nonneg _;have i2:(j:Int)<(l.length:Int):=by omega
    clear V E s M O Q U;go_wp2_with fail;refine o.mono ?_;rintro e w3 ⟨⟨q,rfl,W,Ha,G⟩,A⟩;have K:=hid G;have t:=hid (m.trans (A.mono m.size));clear G o A x0 F P R S;by_cases u:q<0
    ·have g:decide (q<0)=true:=by simpa using u
     go_wp2_with fail;go_ret;exact⟨⟨-1,rfl,by omega,by omega,fun h=>by omega⟩,t⟩
    ·have g:decide (q<0)=false:=by simpa using u
     have I:Hid (∀i,i<j+1 ->QlY (gL l i)):=hid (fun i hi=>by
      by_cases e:i=j
      ·rw [e];exact K (by omega)
      ·exact H i (by omega))
     go_wp2_with fail;go_roundw;case rel=>exact⟨j+1,q,Z,by go_num,rfl,by omega,by omega,I,t⟩
     case measure=>simp [intOf];omega
   ·obtain rfl:j=l.length:=by omega
    have J:Hid (l.length<=1048576/\∀i,QlY (gL l i)):=hid ⟨B,fun i=>by
     by_cases hi:i<l.length
     ·exact H i hi
     ·have e:gL l i=⟨[],false,0,0,ByteArray.empty⟩:=by simp [gL,List.getD,List.getElem?_eq_none (show l.length<=i by omega)]
      rw [e];exact⟨⟨by simp,fun i=>by rw [Qdx (by simp)];simp⟩,by simp⟩⟩
    clear h;go_wp2_with fail;go_ret;exact⟨⟨v,rfl,by omega,X,fun _=>J.out⟩,m⟩
theorem QcO:(Tryz.prog.info? 9).map (fun i=>(i.zero,i.size,i.bytes))=some (some (.string ByteArray.empty),1,16):=by kernel_rfl
theorem QfB (a:Option Addr)(c:Nat)(p:List ByteArray)(w:World)(hn:p.length<=1048576)(h:Qaw w a p):
  Cl 23 #[.slice a p.length c] w fun e w'=>e=.returned (.slice (some ⟨w.heap.size,0,none⟩) p.length p.length)/\ Qaw w' (some ⟨w.heap.size,0,none⟩) p/\ Bl w w'/\ w.heap.size<w'.heap.size/\∃xs,w'.ownsRow w.heap.size 9 1 (.slice (some ⟨w.heap.size,0,none⟩) p.length p.length) p.length xs:=by
 obtain⟨M,hi,J,K,L⟩:=info_parts QcO;have H:p.length<=maxLen:=by unfold maxLen;omega
 have V:M.bytes*p.length<=281474976710656:=by rw [L];omega
 go_enter Tryz.func23,Tryz.ntmps23;go_wp2_with (at_make;refine wpList_make_full _ rfl _ _ 30 rfl w.heap.size 9 M _ 1 Tryz.underlying30 hi J K _ _ _ _ p.length rfl rfl rfl rfl V H zL ?_;intro w1 m g);have q:Bl w w1:=zI.grown g zL (fun _ h=>by cases h);have A:∃xs,w1.ownsRow w.heap.size 9 1 (.slice (some ⟨w.heap.size,0,none⟩) p.length p.length) p.length xs:=⟨_,m⟩;clear m g;go_loopw [4] (fun i wr=>∃k:Nat,k<=p.length/\ i=.int .i64 k/\ Bl w wr/\∃xs:List Value,wr.ownsRow w.heap.size 9 1 (.slice (some ⟨w.heap.size,0,none⟩) p.length p.length) p.length xs/\∀j,j<k ->xs[j]? =some (.string (gS p j))) (fun i _=>p.length - (intOf i).toNat);case atStart=>obtain⟨xs,I⟩:=A;exact⟨0,Nat.zero_le _,rfl,q,xs,I,fun j hj=>by omega⟩
 case round=>
  clear A q;obtain⟨k,B,rfl,q,xs,m,r⟩:=hrel;by_cases t:k<p.length
  ·rcases h with h|⟨b,N,rfl,U,z⟩
   ·omega
   have Y:=(q.cell (p:=⟨b,N+k,none⟩) U).trans (z k t);obtain⟨s,y⟩:=zE (gS p k);rw [y] at Y;obtain⟨P,C⟩:=QaA m k (by omega);have X:=m.frozenAt k;have G:=m.1;have v:=hid (m.stored k (.string s)).1;have Q:Hid (∀j,j<k+1 ->(xs.set k (.string s))[j]? =some (.string (gS p j))):=hid (fun j hj=>by
    by_cases Z:j=k
    ·subst Z;rw [List.getElem?_set_self (by omega),y]
    ·rw [List.getElem?_set_ne (by omega)];exact r j (by omega))
   have u:=hid (q.setCell (p:=⟨w.heap.size,k,none⟩) zL (.string s));have D:(0:Int)<=(k:Int):=Int.natCast_nonneg _;have F:(k:Int)<(p.length:Int):=by omega
   clear m r G q z y;go_wp2_with fail;go_roundw;case rel=>exact⟨k+1,t,by go_num,u,_,v,Q⟩
   case measure=>simp [intOf];omega
  ·obtain rfl:k=p.length:=by omega
   have o:=(m.lt w.heap.size rfl).2;have E:Qaw wr (some ⟨w.heap.size,0,none⟩) p:=.inr ⟨w.heap.size,0,rfl,o,fun i hi=>by
    rw [Nat.zero_add,m.cellAt _ (by omega)];exact r i hi⟩
   have v:=hid E;have O:=hid m;have u:=hid q;clear m r E q h;go_wp2_with fail;go_ret;exact⟨rfl,v,u,o,_,O⟩
theorem Qns (r q:Int)(w:World):
  Cl 101 #[.agg #[.int .i64 r,.int .i64 q]] w (Rt w (.agg #[.int .i64 r,.int .i64 q])):=by
 go_enter Tryz.func101,Tryz.ntmps101;go_wp2;refine zF (v:=.agg #[.int .i64 r,.int .i64 q]) (by simp [results,Tryz.results101,go_sem]) ⟨rfl,?_⟩;exact((zO _ _).alloc (by simp) _).alloc (by simp;omega) _
structure Bx5 (w:World)(b:Nat)(v0 v1 v2 v3 v4:Value):Prop where
 c0:w.cell? ⟨b,0,none⟩=some v0
 c1:w.cell? ⟨b,1,none⟩=some v1
 c2:w.cell? ⟨b,2,none⟩=some v2
 c3:w.cell? ⟨b,3,none⟩=some v3
 c4:w.cell? ⟨b,4,none⟩=some v4
 f:∀i,w.frozen? ⟨b,i,none⟩=false
 lt:b<w.heap.size
theorem Bx5.q2(h:Bx5 w b v0 v1 v2 v3 v4):w.cell? ⟨b,0,none⟩=some v0/\ w.cell? ⟨b,1,none⟩=some v1:=⟨h.c0,h.c1⟩
theorem Bx5.p2(h:Bx5 w b v0 v1 v2 v3 v4):w.cell? ⟨b,0,none⟩=some v0/\ w.cell? ⟨b,1,none⟩=some v1/\ ∀i,w.frozen? ⟨b,i,none⟩=false:=⟨h.c0,h.c1,h.f⟩
theorem Bx5.q3(h:Bx5 w b v0 v1 v2 v3 v4):w.cell? ⟨b,0,none⟩=some v0/\ w.cell? ⟨b,1,none⟩=some v1/\ w.cell? ⟨b,2,none⟩=some v2:=⟨h.c0,h.c1,h.c2⟩
theorem Bx5.p3(h:Bx5 w b v0 v1 v2 v3 v4):w.cell? ⟨b,0,none⟩=some v0/\ w.cell? ⟨b,1,none⟩=some v1/\ w.cell? ⟨b,2,none⟩=some v2/\ ∀i,w.frozen? ⟨b,i,none⟩=false:=⟨h.c0,h.c1,h.c2,h.f⟩
theorem Bx5.q5(h:Bx5 w b v0 v1 v2 v3 v4):w.cell? ⟨b,0,none⟩=some v0/\ w.cell? ⟨b,1,none⟩=some v1/\ w.cell? ⟨b,2,none⟩=some v2/\ w.cell? ⟨b,3,none⟩=some v3/\ w.cell? ⟨b,4,none⟩=some v4:=⟨h.c0,h.c1,h.c2,h.c3,h.c4⟩
theorem Bx5.p5(h:Bx5 w b v0 v1 v2 v3 v4):w.cell? ⟨b,0,none⟩=some v0/\ w.cell? ⟨b,1,none⟩=some v1/\ w.cell? ⟨b,2,none⟩=some v2/\ w.cell? ⟨b,3,none⟩=some v3/\ w.cell? ⟨b,4,none⟩=some v4/\ ∀i,w.frozen? ⟨b,i,none⟩=false:=⟨h.c0,h.c1,h.c2,h.c3,h.c4,h.f⟩
theorem Bx5.bw(h:Bx5 w b v0 v1 v2 v3 v4)(hb:Below B w w')(hB:b<B):Bx5 w' b v0 v1 v2 v3 v4:=
 ⟨(hb.cell (p:=⟨b,0,none⟩) hB).trans h.c0,(hb.cell (p:=⟨b,1,none⟩) hB).trans h.c1,(hb.cell (p:=⟨b,2,none⟩) hB).trans h.c2,(hb.cell (p:=⟨b,3,none⟩) hB).trans h.c3,(hb.cell (p:=⟨b,4,none⟩) hB).trans h.c4,fun i=>(hb.frozen (p:=⟨b,i,none⟩) hB).trans (h.f i),Nat.lt_of_lt_of_le h.lt hb.size⟩
theorem Qaw.same{a:Option Addr}(h:Qaw w a p)(hs:w.heap.size<=w1.heap.size)(hk:∀x,a=some x ->w1.heap[x.block]? =w.heap[x.block]?):Qaw w1 a p:=by
 refine h.imp id ?_;rintro⟨b,m,rfl,k,j⟩;refine⟨b,m,rfl,Nat.lt_of_lt_of_le k hs,fun i hi=> ?_⟩;have e:=hk _ rfl;rw [<- j i hi];unfold World.cell?;simp only [e]
theorem Qaw.set{a:Option Addr}(h:Qaw w a p)(q:Addr)(u:Value)(hq:∀x,a=some x ->x.block≠q.block):Qaw (w.setCell q u) a p:=
 h.same (by simp [World.setCell]) (fun x hx=>zH _ _ _ _ (hq x hx))
theorem Bx5.setAt(h:Bx5 w b v0 v1 v2 v3 v4)(q:Addr)(u:Value)(hq:q.block≠b):Bx5 (w.setCell q u) b v0 v1 v2 v3 v4:=
 ⟨by rw [World.cell?_setCell_far _ _ _ _ hq];exact h.c0,by rw [World.cell?_setCell_far _ _ _ _ hq];exact h.c1,by rw [World.cell?_setCell_far _ _ _ _ hq];exact h.c2,by rw [World.cell?_setCell_far _ _ _ _ hq];exact h.c3,by rw [World.cell?_setCell_far _ _ _ _ hq];exact h.c4,fun i=>by rw [World.frozen?_setCell];exact h.f i,by simp [World.setCell];exact h.lt⟩
theorem Bx5.set0(h:Bx5 w b v0 v1 v2 v3 v4)(u:Value):Bx5 (w.setCell ⟨b,0,none⟩ u) b u v1 v2 v3 v4:=
 ⟨World.cell?_setCell_same _ _ _ h.c0,by simp [World.cell?_setCell_other,h.c1],by simp [World.cell?_setCell_other,h.c2],by simp [World.cell?_setCell_other,h.c3],by simp [World.cell?_setCell_other,h.c4],fun i=>by rw [World.frozen?_setCell];exact h.f i,by simp [World.setCell];exact h.lt⟩
theorem Bx5.set1(h:Bx5 w b v0 v1 v2 v3 v4)(u:Value):Bx5 (w.setCell ⟨b,1,none⟩ u) b v0 u v2 v3 v4:=
 ⟨by simp [World.cell?_setCell_other,h.c0],World.cell?_setCell_same _ _ _ h.c1,by simp [World.cell?_setCell_other,h.c2],by simp [World.cell?_setCell_other,h.c3],by simp [World.cell?_setCell_other,h.c4],fun i=>by rw [World.frozen?_setCell];exact h.f i,by simp [World.setCell];exact h.lt⟩
theorem Qnr{c0 c1 c2:Obj}(b1:Below (((w.alloc c0).alloc c1).alloc c2).heap.size (((w.alloc c0).alloc c1).alloc c2) w1):
  ((∀i,w1.cell? ⟨w.heap.size,i,none⟩=(w.alloc c0).cell? ⟨w.heap.size,i,none⟩)/\ (∀i,w1.cell? ⟨w.heap.size+1,i,none⟩=((w.alloc c0).alloc c1).cell? ⟨w.heap.size+1,i,none⟩)/\ (∀i,w1.cell? ⟨w.heap.size+1+1,i,none⟩=(((w.alloc c0).alloc c1).alloc c2).cell? ⟨w.heap.size+1+1,i,none⟩))/\
  (∀i,w1.frozen? ⟨w.heap.size+1,i,none⟩=((w.alloc c0).alloc c1).frozen? ⟨w.heap.size+1,i,none⟩)/\ (∀i,w1.frozen? ⟨w.heap.size+1+1,i,none⟩=(((w.alloc c0).alloc c1).alloc c2).frozen? ⟨w.heap.size+1+1,i,none⟩):=by
 have j:Below ((w.alloc c0).alloc c1).heap.size ((w.alloc c0).alloc c1) w1:=(zO _ c2).trans (b1.mono (by simp));have k:Below (w.alloc c0).heap.size (w.alloc c0) w1:=(zO _ c1).trans (j.mono (by simp));exact⟨⟨fun i=>k.cell (p:=⟨w.heap.size,i,none⟩) (by simp),fun i=>j.cell (p:=⟨w.heap.size+1,i,none⟩) (by simp),fun i=>b1.cell (p:=⟨w.heap.size+1+1,i,none⟩) (by simp)⟩,fun i=>j.frozen (p:=⟨w.heap.size+1,i,none⟩) (by simp),fun i=>b1.frozen (p:=⟨w.heap.size+1+1,i,none⟩) (by simp)⟩
def PMk (w:World)(g n:Nat):Prop:=∃cur,w.heap[g]? =some (.cells cur 9 (0,0))/\ n<=cur.size
theorem PMk.same(h:PMk w g n)(e:w'.heap[g]? =w.heap[g]?):PMk w' g n:=by
 obtain⟨j,k,m⟩:=h;exact⟨j,e.trans k,m⟩
theorem PMk.set(h:PMk w g n)(q:Addr)(u:Value)(hq:g≠q.block):PMk (w.setCell q u) g n:=h.same (zH _ _ _ _ hq)
theorem PMk.of(h:w.ownsRow B 9 1 (.slice (some ⟨g,0,none⟩) n n) n xs):PMk w g n:=by
 rcases h.2 with ⟨k,_⟩|⟨u,r,j,q,o,m,v,y,z,t⟩
 ·cases k
 ·cases q;exact⟨j,m,by omega⟩
theorem QlU (a:Option Addr)(c:Nat)(p:List ByteArray)(fl:Bool)(r q:Int)(v:ByteArray)(w:World)(hn:p.length<=1048576)(h:Qaw w a p):
  Cl 72 #[.agg #[.slice a p.length c,.bool fl,.int .i64 r,.int .i64 q,.string v]] w fun e w'=>∃g,w.heap.size<=g/\ (g<w'.heap.size/\ PMk w' g p.length)/\ e=.returned (.agg #[.slice (some ⟨g,0,none⟩) p.length p.length,.bool fl,.int .i64 r,.int .i64 q,.string v])/\ Qaw w' (some ⟨g,0,none⟩) p/\ Bl w w':=by
 go_enter Tryz.func72,Tryz.ntmps72;go_wp2_with fail;refine(QfB a c p _ hn (h.bw (((zO _ _).alloc (by simp) _).alloc (by simp;omega) _))).mono ?_;rintro e w1 ⟨rfl,U,M,D,xs,b⟩;obtain⟨⟨o,u,y⟩,K,L⟩:=Qnr M;have Y:Bl w w1:=(((zO _ _).alloc (by simp) _).alloc (by simp;omega) _).trans (M.mono (by simp;omega));have Q:w.heap.size+1+1+1<w1.heap.size:=by have:=D;simp at this;omega
 simp only [World.size_alloc] at U b;have E:=hid U;have A:=hid (PMk.of b);have s:=hid Y;have F:w1.cell? ⟨w.heap.size,1,none⟩=some (.bool fl):=by rw [o];simp
 have P:w1.cell? ⟨w.heap.size,2,none⟩=some (.int .i64 r):=by rw [o];simp
 have R:w1.cell? ⟨w.heap.size,3,none⟩=some (.int .i64 q):=by rw [o];simp
 have X:w1.cell? ⟨w.heap.size,4,none⟩=some (.string v):=by rw [o];simp
 have N:Bx5 w1 (w.heap.size+1) (.slice none 0 0) (.bool false) (.int .i64 0) (.int .i64 0) (.string ByteArray.empty):=⟨by rw [u,World.cell?_alloc_at _ _ _ _ (by simp)];rfl,by rw [u,World.cell?_alloc_at _ _ _ _ (by simp)];rfl,by rw [u,World.cell?_alloc_at _ _ _ _ (by simp)];rfl,by rw [u,World.cell?_alloc_at _ _ _ _ (by simp)];rfl,by rw [u,World.cell?_alloc_at _ _ _ _ (by simp)];rfl,fun i=>by rw [K,World.frozen?_alloc_at _ _ _ _ (by simp)],by omega⟩;have j:Bx5 w1 (w.heap.size+1+1) (.slice none 0 0) (.bool false) (.int .i64 0) (.int .i64 0) (.string ByteArray.empty):=⟨by rw [y,World.cell?_alloc_at _ _ _ _ (by simp)];rfl,by rw [y,World.cell?_alloc_at _ _ _ _ (by simp)];rfl,by rw [y,World.cell?_alloc_at _ _ _ _ (by simp)];rfl,by rw [y,World.cell?_alloc_at _ _ _ _ (by simp)];rfl,by rw [y,World.cell?_alloc_at _ _ _ _ (by simp)];rfl,fun i=>by rw [L,World.frozen?_alloc_at _ _ _ _ (by simp)],by omega⟩;clear U Y M D b o u y K L h;obtain⟨x0,C,Z⟩:=j.p2;have z:=hid N;have t:=hid j;clear N j;go_wp2_with fail;obtain⟨W,k⟩:=zE ((w1.setCell ⟨w.heap.size+1+1,0,none⟩ (.slice (some ⟨w.heap.size+1+1+1,0,none⟩) p.length p.length)).setCell ⟨w.heap.size+1+1,1,none⟩ (.bool fl));have J:Bx5 W (w.heap.size+1+1) (.slice (some ⟨w.heap.size+1+1+1,0,none⟩) p.length p.length) (.bool fl) (.int .i64 0) (.int .i64 0) (.string ByteArray.empty):=by rw [<- k];exact(t.set0 _).set1 _
 have H:Bx5 W (w.heap.size+1) (.slice none 0 0) (.bool false) (.int .i64 0) (.int .i64 0) (.string ByteArray.empty):=by rw [<- k];exact(z.setAt _ _ (by simp)).setAt _ _ (by simp)
 have I:Qaw W (some ⟨w.heap.size+1+1+1,0,none⟩) p:=by rw [<- k];exact(E.set _ _ (fun x j=>by simp at j;subst j;simp)).set _ _ (fun x j=>by simp at j;subst j;simp)
 have G:PMk W (w.heap.size+1+1+1) p.length:=by rw [<- k];exact(A.set _ _ (by simp)).set _ _ (by simp)
 have O:Bl w W:=by rw [<- k];exact(s.setCell (by simp;omega) _).setCell (by simp;omega) _
 have B:W.cell? ⟨w.heap.size,4,none⟩=some (.string v):=by rw [<- k,World.cell?_setCell_far _ _ _ _ (by simp;omega),World.cell?_setCell_far _ _ _ _ (by simp;omega)];exact X
 have V:w.heap.size+1+1+1<W.heap.size:=by rw [<- k];simp [World.setCell];exact Q
 rw [k];clear k t z E A s F P R X x0 C Z Q;refine(Qns r q W).mono ?_;rintro e w2 ⟨rfl,m⟩;have m4:=(m.cell (p:=⟨w.heap.size,4,none⟩) (show w.heap.size<W.heap.size by omega)).trans B;have t:=hid (J.bw m (by omega));have z:=hid (H.bw m (by omega));have E:=hid (I.bw m);have A:=hid (G.same (m.block _ V));have s:=hid (O.trans (m.mono O.size));have Q:w.heap.size+1+1+1<w2.heap.size:=Nat.lt_of_lt_of_le V m.size;have Z:=t.f;obtain⟨x0,C,x2,x3,x4⟩:=t.q5;have fo:=z.f;obtain⟨S,b,T,o3,o4⟩:=z.q5;clear J H I G O m B V;go_wp2_with fail;refine zF (v:=.agg #[.slice (some ⟨w.heap.size+1+1+1,0,none⟩) p.length p.length,.bool fl,.int .i64 r,.int .i64 q,.string v]) (by simp [results,Tryz.results72,go_sem,S,b,T,o3,o4]) ⟨w.heap.size+1+1+1,by omega,⟨by simp [World.setCell];omega,?_⟩,rfl,?_,?_⟩
 ·repeat (refine PMk.set ?_ _ _ (by simp;try omega))
  exact A
 ·repeat (refine Qaw.set ?_ _ _ (fun x j=>by simp at j;subst j;simp;try omega))
  exact E
 ·repeat (refine Below.setCell ?_ (by simp;try omega) _)
  exact s
end Go.Proofs.YtgmjgboibfdaeaaGreatDoor
