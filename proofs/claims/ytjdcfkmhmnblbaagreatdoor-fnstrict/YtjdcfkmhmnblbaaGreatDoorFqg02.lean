import Derived.Test.YtjdcfkmhmnblbaaGreatDoorFqg01
import Derived.Deep.QuietTactic
import Derived.BigQuiet
import Derived.Laws.IdiomStrings
import Derived.Laws.BytesArg
import Derived.Laws.Concat
set_option linter.unusedVariables false
set_option linter.unusedSimpArgs false
set_option maxRecDepth 100000
set_option maxHeartbeats 40000000
namespace Go.Proofs.YtjdcfkmhmnblbaaGreatDoor
open Go.ChangeShapes Go.WideShapes Go.ChangeAt Go.RowKit
def QjU (w:World)(cb:Nat)(a:Option Addr)(n c:Nat)(x:Int):Prop:=w.cell? ⟨cb,0,none⟩=some (.slice a n c)/\ w.cell? ⟨cb,1,none⟩=some (.int .i64 x)/\ w.frozen? ⟨cb,1,none⟩=false
theorem QjU.lt {w:World}{cb:Nat}{a:Option Addr}{n c:Nat}{x:Int}(h:QjU w cb a n c x):cb<w.heap.size:=by
 rcases Nat.lt_or_ge cb w.heap.size with j|j
 ·exact j
 ·have:=h.1;simp [World.cell?,Array.getElem?_eq_none j] at this
theorem QjU.below {w w':World}{B cb:Nat}{a:Option Addr}{n c:Nat}{x:Int}(h:QjU w cb a n c x)(hb:Below B w w')(hB:cb<B):QjU w' cb a n c x:=
 ⟨(hb.cell (p:=⟨cb,0,none⟩) hB).trans h.1,(hb.cell (p:=⟨cb,1,none⟩) hB).trans h.2.1,(hb.frozen (p:=⟨cb,1,none⟩) hB).trans h.2.2⟩
theorem QjU.set {w:World}{cb:Nat}{a:Option Addr}{n c:Nat}{x:Int}(h:QjU w cb a n c x)(y:Int):QjU (w.setCell ⟨cb,1,none⟩ (.int .i64 y)) cb a n c y:=by
 obtain⟨j,k,m⟩:=h;refine⟨?_,?_,?_⟩
 ·simp [World.cell?_setCell_other,j]
 ·exact World.cell?_setCell_same _ _ _ k
 ·rw [World.frozen?_setCell];exact m
theorem Qe7 {w w1:World}{cb i:Nat}(h:w.grownBy w1 none)(v:Value):w.grownBy (w1.setCell ⟨cb,i,none⟩ v) (some cb):=by
 refine⟨h.os,h.tape,h.output,?_,fun k hk hne=> ?_⟩
 ·have:=h.size;simpa [World.setCell] using this
 ·exact(zH _ _ _ _ (fun e=>hne (by rw [e]))).trans (h.block k hk (by simp))
theorem Qbf (w:World)(n:Nat)(row:Option Nat):w.grownBy (w.drewN n) row:=⟨rfl,rfl,rfl,Nat.le_refl _,fun _ _ _=>rfl⟩
theorem QaR {w w1 w2:World}{cb:Nat}(h1:w.grownBy w1 (some cb))(h2:w1.grownBy w2 (some cb)):w.grownBy w2 (some cb):=
 h1.andThen h2 (fun j hj=> .inr hj)
theorem Qby {w w1 w2:World}{cb:Nat}(h1:w.grownBy w1 (some cb))(h2:Below w1.heap.size w1 w2):w.grownBy w2 (some cb):=
 QaR h1 ⟨h2.os,h2.tape,h2.output,h2.size,fun k hk _=>h2.block k hk⟩
def RdJ (w:World)(B rb:Nat)(f:Nat ->Int)(n x:Nat):Prop:=∃(a:Option Addr) (c:Nat),QjU w rb a n c (x:Int)/\ Seg w a n f/\ Byt f/\ n<=1000/\ x<=n/\ (0<n ->∀y,a=some y ->y.block≠rb/\ y.block<B)/\ rb<B
theorem RdJ.below {w w':World}{B rb:Nat}{f:Nat ->Int}{n x:Nat}(h:RdJ w B rb f n x)(hb:Below B w w'):RdJ w' B rb f n x:=by
 obtain⟨a,c,r,j,v,z,g,m,k⟩:=h;refine⟨a,c,r.below hb k,?_,v,z,g,m,k⟩;rcases j with j|⟨b,off,e,y,u⟩
 ·exact .inl j
 ·by_cases q:0<n
  ·exact .inr ⟨b,off,e,Nat.lt_of_lt_of_le y hb.size,fun i hi=>(hb.cell (p:=⟨b,off+i,none⟩) (show b<B from(m q _ e).2)).trans (u i hi)⟩
  ·exact .inl (by omega)
def rk (f:Nat ->Int)(n x:Nat):Nat:=if x<n then(f x).toNat else 0
def rx (n x:Nat):Nat:=if x<n then x+1 else x
theorem QkH {w:World}{B rb:Nat}{f:Nat ->Int}{n x:Nat}(h:RdJ w B rb f n x):rk f n x<256:=by
 obtain⟨a,c,k,m,j,_⟩:=h;unfold rk;split
 ·have:=j x;omega
 ·omega
theorem RdJ.lt {w:World}{B rb:Nat}{f:Nat ->Int}{n x:Nat}(h:RdJ w B rb f n x):rb<w.heap.size/\ rb<B:=by
 obtain⟨a,c,k,_,_,_,_,_,j⟩:=h;exact⟨k.lt,j⟩
theorem QaW (B rb:Nat)(f:Nat ->Int)(n x:Nat)(w:World)(h:RdJ w B rb f n x):
  Calls Tryz.prog 10 #[.pointer (some ⟨rb,0,none⟩)] w fun e w'=>e=.returned (.int .i64 (rk f n x:Int))/\ RdJ w' B rb f n (rx n x)/\ w.grownBy w' (some rb):=by
 obtain⟨a,c,s,u,m,A,Y,r,o⟩:=h;have q:=hid s;have t:=hid u;have y:=hid m;obtain⟨D,F,P⟩:=s;by_cases k:x<n
 ·rcases u with u|⟨b,off,rfl,H,p⟩
  ·omega
  obtain⟨z,v⟩:∃z:Nat,f x=(z:Int):=⟨(f x).toNat,by have:=(m x).1;omega⟩;have C:z<256:=by have:=(m x).2;omega
  have J:w.cell? ⟨b,off+x,none⟩=some (.int .u8 (z:Int)):=by rw [p x k,v]
  have I:b≠rb:=(r (by omega) _ rfl).1;have N:(0:Int)<=(x:Int):=Int.natCast_nonneg _;have X:(x:Int)<(n:Int):=by omega
  have L:IntKind.i64.wrap (z:Int)=(z:Int):=Qan _ (by omega) (by omega);have M:=hid v;have E:Hid (∀z:Nat,f x=(z:Int) ->rk f n x=z/\ rx n x=x+1):=hid (fun z e=>by unfold rk rx;rw [if_pos k,if_pos k,e];exact⟨by omega,rfl⟩);clear v p m;go_enter Tryz.func10,Tryz.ntmps10;go_wp2_with fail;go_quiet (fail);go_wp2_with fail;go_quiet (fail);go_wp2_with fail;go_ret;have g:=E z M.out;rw [g.1,g.2];refine⟨rfl,⟨_,c,?_,?_,y.out,A,k,r,o⟩,?_⟩
  ·first|exact q.set _|(simp;exact q.set _)
  ·rcases t.out with Q|⟨G,Z,j,U,V⟩
   ·exact .inl Q
   ·have O:=j;injection j with j;injection j with j _ _;subst j;exact .inr ⟨_,Z,O,by simpa [World.setCell] using U,fun i hi=>by
     try simp only [World.drewN_drewN]
     rw [World.cell?_setCell_far _ _ _ _ (by simp;omega)];exact V i hi⟩
  ·first|exact Qe7 (Qbf _ _ _) _|(simp;exact Qe7 (Qbf _ _ _) _)
 ·have K:decide ((x:Int)<(n:Int))=false:=by simp;omega
  go_enter Tryz.func10,Tryz.ntmps10;go_wp2_with fail;go_quiet (fail);go_wp2_with fail;go_ret;have e:rk f n x=0/\ rx n x=x:=by unfold rk rx;rw [if_neg k,if_neg k];exact⟨rfl,rfl⟩
  rw [e.1,e.2];exact⟨rfl,⟨a,c,q.out,t.out,y.out,A,Y,r,o⟩,Qbf _ _ _⟩
theorem QmO (a:Option Addr)(n c:Nat)(f:Nat ->Int)(w:World)(hnc:n<=c)(hn:n<=9223372036854775807)(h:Seg w a n f)(hf:Byt f):
  Calls Tryz.prog 9 #[.slice a n c] w fun e w'=>e=.returned (.pointer (some ⟨w.heap.size,0,none⟩))/\ RdJ w' (w.heap.size+1) w.heap.size f (min n 1000) 0/\ Below w.heap.size w w':=by
 have r:=fun(o:Obj)=>zO w o;have k:=hid r;have m:=hid h;have q:=hid hf;clear r;by_cases u:n<=1000
 ·clear h hf;go_enter Tryz.func9,Tryz.ntmps9;go_wp2_with fail;go_ret;rw [Nat.min_eq_left u];refine⟨rfl,⟨a,c,⟨by simp,by simp,by simp⟩,m.below (k _),q.out,u,by omega,fun h0 y hy=> ?_,by omega⟩,k.out _⟩;rcases m.out with g|⟨b,off,e,j,_⟩
  ·omega
  ·rw [hy] at e;injection e with e;rw [e];exact⟨Nat.ne_of_lt j,Nat.lt_succ_of_lt j⟩
 ·have g:1000<n:=by omega
  rcases h with h|⟨b,off,rfl,j,p⟩
  ·omega
  clear hf p;go_enter Tryz.func9,Tryz.ntmps9;go_wp2_with fail;go_ret;rw [Nat.min_eq_right (by omega)];refine⟨rfl,⟨some ⟨b,off,none⟩,c,⟨by simp,by simp,by simp⟩,?_,q.out,by omega,by omega,fun h0 y hy=> ?_,by omega⟩,k.out _⟩
  ·rcases (m.below (k _)) with E|⟨v,A,z,t,s⟩
   ·omega
   ·exact .inr ⟨v,A,z,t,fun i hi=>s i (by omega)⟩
  ·injection hy with hy;rw [<- hy];exact⟨Nat.ne_of_lt j,Nat.lt_succ_of_lt j⟩
def QkO (f:Nat ->Int)(p L:Nat):ByteArray:=⟨((List.range L).map fun i=>UInt8.ofNat (f (p+i)).toNat).toArray⟩
theorem Qin {w:World}{b off p L cap:Nat}{f:Nat ->Int}(hf:Byt f)(hc:∀i,i<L ->w.cell? ⟨b,off+p+i,none⟩=some (.int .u8 (f (p+i)))):
  (convert 22 9 (.slice (some ⟨b,off+p,none⟩) L cap)).run Tryz.prog w=.ok (.string (QkO f p L)) w:=by
 have r:((List.range L).map fun i=>UInt8.ofNat (f (p+i)).toNat).length=L:=by simp
 have:=run_convert_bytes_back (P:=Tryz.prog) w 22 9 5 ⟨b,off+p,none⟩ cap ((List.range L).map fun i=>UInt8.ofNat (f (p+i)).toNat) Tryz.underlying22 Tryz.underlying5 Tryz.underlying9 (fun j hj=>by
  have q:j<L:=by simpa using hj
  have e:(Addr.add ⟨b,off+p,none⟩ j)=⟨b,off+p+j,none⟩:=by
   by_cases k:j=0
   ·subst k;simp [Addr.add]
   ·simp [Addr.add,k]
  rw [e,hc j q];have:=hf (p+j);simp only [List.getElem_map,List.getElem_range,Option.some.injEq,Value.int.injEq,true_and];have m:(UInt8.ofNat (f (p+j)).toNat).toNat=(f (p+j)).toNat%256:=by simp
  rw [m];omega)
 rw [r] at this;exact this
theorem Qio {w:World}(ad:Addr)(p cap:Nat)(f:Nat ->Int):(convert 22 9 (.slice (some ad) 0 cap)).run Tryz.prog w=.ok (.string (QkO f p 0)) w:=
 run_convert_bytes_back (P:=Tryz.prog) w 22 9 5 ad cap [] Tryz.underlying22 Tryz.underlying5 Tryz.underlying9 (fun j hj=>by simp at hj)
def Qgn (w:World)(B:Nat)(v:Value)(zs:List Int):Prop:=Own w B v zs/\∀z∈zs,0<=z/\ z<256
theorem QnZ (w:World)(B:Nat)(hB:B<=w.heap.size):Own (w.alloc (.cells #[] 5)) B (.slice (some ⟨w.heap.size,0,none⟩) 0 0) []:=by
 have:=World.ownsRow_lit (base:=B) (e:=5) (size:=1) w #[] 0 hB (by unfold maxLen;omega) rfl;simpa [Own] using this
def txJ (zs:List Int):ByteArray:=QkO (fun i=>zs.getD i 0) 0 zs.length
theorem Qd7 (zs:List Int):(txJ zs).size=zs.length:=by simp [txJ,QkO,ByteArray.size]
theorem QjG {w:World}{B:Nat}{v:Value}{zs:List Int}(h:Qgn w B v zs):∀k,(convert 22 9 v).run Tryz.prog (w.drewN k)=.ok (.string (txJ zs)) (w.drewN k):=by
 obtain⟨m,u⟩:=h;by_cases j:zs=[]
 ·subst j;obtain⟨_,r⟩:=m;rcases r with ⟨rfl,_⟩|⟨g,cap,z,rfl,_⟩
  ·intro k;rw [run_convert_bytes_string _ _ _ 5 none 0 0 Tryz.underlying22 Tryz.underlying5 Tryz.underlying9];rfl
  ·exact fun k=>Qio (w:=w.drewN k) ⟨g,0,none⟩ 0 cap (fun _=>0)
 ·obtain⟨g,cap,rfl,_,_,_,_,_,s⟩:=m.shape j;rcases s with q|⟨b,off,e,t,y⟩
  ·exact absurd (List.length_eq_zero_iff.1 q) j
  ·injection e with e;injection e with e1 e2 _;subst e1 e2;intro k;have:=Qin (w:=w.drewN k) (b:=g) (off:=0) (p:=0) (L:=zs.length) (cap:=cap) (f:=fun i=>zs.getD i 0) (QcT u) (fun i hi=>by have:=y i hi;simpa using this);simpa [txJ] using this
def rpt (s:ByteArray)(n:Nat):List Int:=(List.replicate n (Qa5 s)).flatten
theorem QkJ (s:ByteArray)(n:Nat):rpt s (n+1)=rpt s n++Qa5 s:=by simp [rpt,List.replicate_succ']
theorem QgT (s:ByteArray)(n:Nat):(rpt s n).length=n*s.size:=by simp [rpt,Qar]
theorem QkI (s:ByteArray)(n:Nat):∀z∈rpt s n,0<=z/\ z<256:=by
 intro z j;simp only [rpt,List.mem_flatten,List.mem_replicate] at j;obtain⟨l,⟨_,rfl⟩,h⟩:=j;exact Qdr s z h
theorem Qch (s:ByteArray)(n:Nat)(w:World)(hs:s.size<=1)(hn:n<=1000):
  Calls Tryz.prog 27 #[.string s,.int .i64 (n:Int)] w fun e w'=>e=.returned (.string (txJ (rpt s n)))/\ Below w.heap.size w w':=by
 obtain⟨B,H,L,N,X⟩:=info_parts Tryz.infoByte;have p:=hid (QnZ w w.heap.size zL);have g:=hid (zO w (.cells #[] 5));go_enter Tryz.func27,Tryz.ntmps27;go_wp2_with fail;go_loopw [5,6] (fun b i wr=>∃(j:Nat) (m:List Int),j<=n/\ m.length<=j/\ i=.int .i64 (j:Int)/\ Hid (Own wr w.heap.size b m)/\ Hid (rpt s j=m)/\ Hid (Below w.heap.size w wr)) (fun _ i _=>n - (intOf i).toNat);case atStart=>exact⟨0,[],Nat.zero_le _,Nat.zero_le _,rfl,p,hid rfl,g⟩
 case round=>
  clear p g;obtain⟨j,m,F,P,rfl,y,v,u⟩:=hrel;have D:=u.size;by_cases J:j<n
  ·obtain⟨cap,C,K,r,S,O⟩:=Qey s wr;have z:C.ownsRow w.heap.size 5 1 u5 m.length (m.map (Value.int .u8)):=y.kept r (fun k hk=>(World.ownsRow.lt y.out k hk).2);have q:Hid (∀k,u5.ownBlock=some k ->w.heap.size<=k):=fun k hk=>(World.ownsRow.lt z k hk).1;have E:=hid O;have M:=hid (Lib.strCells_oneCell s);have A:=hid (Lib.strCells_length s);have o:=hid (u.trans (r.mono D));have T:=r.size;clear O r y u;go_wp2_with (at_builtin;refine wpList_append_own _ rfl _ _ 22 rfl w.heap.size 5 B (.int .u8 0) 1 1 Tryz.underlying22 H L N X rfl (by decide) _ _ _ rfl z ⟨wr.heap.size,0,none⟩ s.size cap (Lib.strCells s) rfl (by rw [A.out];omega) E.out M.out ?c3 ?c4 ?c5 ?_);case c3=>unfold maxLen;omega
   case c4=>omega
   case c5=>omega
   ·intro v' Y V U _;have R:Hid (Own Y w.heap.size v' (m++Qa5 s)):=by
     show Own _ _ _ _;unfold Own;rw [List.length_append,List.map_append,Qar,QbO];exact V
    have G:Hid (Below w.heap.size w Y):=o.grown U (by omega) q.out;have Z:Hid (rpt s (j+1)=m++Qa5 s):=hid (by rw [QkJ,v.out]);have I:(m++Qa5 s).length<=j+1:=by rw [List.length_append,Qar];omega
    clear V U z E M A K q o;go_wp2_with fail;go_roundw;case rel=>exact⟨j+1,m++Qa5 s,J,I,by go_num,R,Z,G⟩
    case measure=>simp [intOf];omega
  ·obtain rfl:j=n:=by omega
   have Q:=QjG ⟨y.out,by rw [<- v.out];exact QkI s j⟩ 0;rw [World.drewN_zero] at Q;obtain⟨t,h⟩:∃t,txJ m=t:=⟨_,rfl⟩;have q:Hid (txJ (rpt s j)=t):=hid (by rw [v.out];exact h);rw [h] at Q;clear h v;go_wp2_with fail;go_ret;exact⟨by rw [q.out];rfl,u.out⟩
theorem QmN (B rb:Nat)(f:Nat ->Int)(n x:Nat)(w:World)(h:RdJ w B rb f n x):
  Calls Tryz.prog 24 #[.pointer (some ⟨rb,0,none⟩)] w fun e w'=>e=.returned (.int .i64 ((n - x:Nat):Int))/\ RdJ w' B rb f n x/\ w.grownBy w' (some rb):=by
 have j:=hid h;obtain⟨a,c,m,u,q,y,g,r,v⟩:=h;obtain⟨t,o,i⟩:=m;obtain⟨d,k⟩:∃d:Nat,n - x=d:=⟨_,rfl⟩;have z:IntKind.i64.wrap ((n:Int) - (x:Int))=(d:Int):=by rw [show (n:Int) - (x:Int)=(d:Int) from by omega];exact Qan _ (by omega) (by omega)
 rw [k];clear u q r k;go_enter Tryz.func24,Tryz.ntmps24;go_wp2_with fail;try (go_quiet (fail);go_wp2_with fail)
 go_ret;first|exact⟨rfl,j.out,Qbf _ _ _⟩|exact⟨rfl,j.out,Qbf _ 0 _⟩
def gS (p:List ByteArray)(i:Nat):ByteArray:=p.getD i ByteArray.empty
def QaT (w:World)(a:Option Addr)(p:List ByteArray):Prop:=
 p.length=0 \/∃b off,a=some ⟨b,off,none⟩/\ b<w.heap.size/\∀i,i<p.length ->w.cell? ⟨b,off+i,none⟩=some (.string (gS p i))
theorem QaT.kept {w w1:World}{B:Nat}{a:Option Addr}{p:List ByteArray}(h:QaT w a p)(hb:Below B w w1)(hB:w.heap.size<=B):QaT w1 a p:=by
 refine h.imp id ?_;rintro⟨b,off,e,j,k⟩;exact⟨b,off,e,Nat.lt_of_lt_of_le j hb.size,fun i hi=>(hb.cell (p:=⟨b,off+i,none⟩) (Nat.lt_of_lt_of_le j hB)).trans (k i hi)⟩
theorem QaT.below {w w1:World}{a:Option Addr}{p:List ByteArray}(h:QaT w a p)(hb:Below w.heap.size w w1):QaT w1 a p:=h.kept hb zL
structure Lf where
 p:List ByteArray
 fl:Bool
 r:Int
 q:Int
 v:ByteArray
def gL (l:List Lf)(i:Nat):Lf:=l.getD i ⟨[],false,0,0,ByteArray.empty⟩
def Qew (w:World)(a:Option Addr)(l:List Lf):Prop:=
 l.length=0 \/∃b off,a=some ⟨b,off,none⟩/\ b<w.heap.size/\∀i,i<l.length ->∃pa pc,w.cell? ⟨b,off+i*5,none⟩=some (.slice pa (gL l i).p.length pc)/\ QaT w pa (gL l i).p/\ w.cell? ⟨b,off+i*5+1,none⟩=some (.bool (gL l i).fl)/\ w.cell? ⟨b,off+i*5+2,none⟩=some (.int .i64 (gL l i).r)/\ w.cell? ⟨b,off+i*5+3,none⟩=some (.int .i64 (gL l i).q)/\ w.cell? ⟨b,off+i*5+4,none⟩=some (.string (gL l i).v)
theorem Qew.below {w w1:World}{a:Option Addr}{l:List Lf}(h:Qew w a l)(hb:Below w.heap.size w w1):Qew w1 a l:=by
 refine h.imp id ?_;rintro⟨b,off,e,j,y⟩;refine⟨b,off,e,Nat.lt_of_lt_of_le j hb.size,fun i hi=> ?_⟩;obtain⟨z,pc,k,s,m,r,u,v⟩:=y i hi;have q:=fun o=>hb.cell (p:=⟨b,o,none⟩) j;exact⟨z,pc,(q _).trans k,s.below hb,(q _).trans m,(q _).trans r,(q _).trans u,(q _).trans v⟩
def LfI (x:Lf):Prop:=(Lit.int .i64 x.r).wf=true/\ (Lit.int .i64 x.q).wf=true
theorem Qc7 (b off j:Nat):(⟨b,off,none⟩:Addr).add j=⟨b,off+j,none⟩:=by
 by_cases k:j=0
 ·subst k;rfl
 ·simp [Addr.add,k]
def LBd (l:List Lf):Prop:=∀i,(gL l i).p.length<=1048576
theorem Qnz {p:List ByteArray}{i:Nat}(h:p.length<=i):gS p i=ByteArray.empty:=by simp [gS,List.getD,List.getElem?_eq_none h]
theorem QdP:(Tryz.prog.info? 9).map (fun i=>(i.zero,i.size,i.bytes))=some (some (.string ByteArray.empty),1,16):=by kernel_rfl
structure Bx5 (w:World)(b:Nat)(v0 v1 v2 v3 v4:Value):Prop where
 c0:w.cell? ⟨b,0,none⟩=some v0
 c1:w.cell? ⟨b,1,none⟩=some v1
 c2:w.cell? ⟨b,2,none⟩=some v2
 c3:w.cell? ⟨b,3,none⟩=some v3
 c4:w.cell? ⟨b,4,none⟩=some v4
 f:∀i,w.frozen? ⟨b,i,none⟩=false
 lt:b<w.heap.size
theorem Bx5.below {w w':World}{B b:Nat}{v0 v1 v2 v3 v4:Value}(h:Bx5 w b v0 v1 v2 v3 v4)(hb:Below B w w')(hB:b<B):Bx5 w' b v0 v1 v2 v3 v4:=
 ⟨(hb.cell (p:=⟨b,0,none⟩) hB).trans h.c0,(hb.cell (p:=⟨b,1,none⟩) hB).trans h.c1,(hb.cell (p:=⟨b,2,none⟩) hB).trans h.c2,(hb.cell (p:=⟨b,3,none⟩) hB).trans h.c3,(hb.cell (p:=⟨b,4,none⟩) hB).trans h.c4,fun i=>(hb.frozen (p:=⟨b,i,none⟩) hB).trans (h.f i),Nat.lt_of_lt_of_le h.lt hb.size⟩
theorem Qd0:(Tryz.prog.info? 77).map (fun i=>(i.zero,i.size,i.bytes))=some (some (.agg #[.slice none 0 0,.bool false,.int .i64 0,.int .i64 0,.string ByteArray.empty]),5,64):=by kernel_rfl
def Qdy (w:World)(a:Option Addr)(l:List Lf):Prop:=
 l.length=0 \/∃b off,a=some ⟨b,off,none⟩/\ b<w.heap.size/\∀i,i<l.length ->∃pa pc,(w.cell? ⟨b,off+i*5,none⟩=some (.slice pa (gL l i).p.length pc)/\ (gL l i).p.length<=pc/\ pc<=9223372036854775807)/\ QaT w pa (gL l i).p/\ w.cell? ⟨b,off+i*5+1,none⟩=some (.bool (gL l i).fl)/\ w.cell? ⟨b,off+i*5+2,none⟩=some (.int .i64 (gL l i).r)/\ w.cell? ⟨b,off+i*5+3,none⟩=some (.int .i64 (gL l i).q)/\ w.cell? ⟨b,off+i*5+4,none⟩=some (.string (gL l i).v)
theorem Qdy.below {w w1:World}{a:Option Addr}{l:List Lf}(h:Qdy w a l)(hb:Below w.heap.size w w1):Qdy w1 a l:=by
 refine h.imp id ?_;rintro⟨b,off,e,j,z⟩;refine⟨b,off,e,Nat.lt_of_lt_of_le j hb.size,fun i hi=> ?_⟩;obtain⟨g,pc,⟨k,y⟩,s,m,r,u,v⟩:=z i hi;have q:=fun o=>hb.cell (p:=⟨b,o,none⟩) j;exact⟨g,pc,⟨(q _).trans k,y⟩,s.below hb,(q _).trans m,(q _).trans r,(q _).trans u,(q _).trans v⟩
theorem Qdy.seg {w:World}{a:Option Addr}{l:List Lf}(h:Qdy w a l):Qew w a l:=by
 refine h.imp id ?_;rintro⟨b,off,e,v,u⟩;refine⟨b,off,e,v,fun i hi=> ?_⟩;obtain⟨y,pc,⟨j,_⟩,s,k,m,q,r⟩:=u i hi;exact⟨y,pc,j,s,k,m,q,r⟩
def Wr (w:World)(g:Nat)(t:TypeId)(n:Nat)(C:Nat ->Value):Prop:=∃cur,w.heap[g]? =some (.cells cur t (0,0))/\ n<=cur.size/\∀i,i<n ->cur[i]? =some (C i)
theorem Wr.cell {w:World}{g n:Nat}{t:TypeId}{C:Nat ->Value}(h:Wr w g t n C){i:Nat}(hi:i<n):w.cell? ⟨g,i,none⟩=some (C i):=by
 obtain⟨m,j,q,k⟩:=h;simp [World.cell?,j,k i hi]
theorem Wr.same {w w':World}{g n:Nat}{t:TypeId}{C:Nat ->Value}(h:Wr w g t n C)(e:w'.heap[g]? =w.heap[g]?):Wr w' g t n C:=by
 obtain⟨j,k,r⟩:=h;exact⟨j,e.trans k,r⟩
theorem Wr.lt {w:World}{g n:Nat}{t:TypeId}{C:Nat ->Value}(h:Wr w g t n C):g<w.heap.size:=by
 obtain⟨k,j,_⟩:=h;exact(Array.getElem?_eq_some_iff.1 j).1
def ltS (s t:ByteArray):Bool:=Op.bytesLess s.toList t.toList
def eqS (s t:ByteArray):Bool:=s.toList==t.toList
def QbH (s t:ByteArray):Int:=if ltS s t=true then -1 else if eqS s t=true then 0 else 1
def QaC:List ByteArray ->List ByteArray ->Int
 | [],[]=>0
 | [],_::_=> -1
 | _::_,[]=>1
 | s::p,t::q=>if QbH s t=0 then QaC p q else QbH s t
theorem QaT.tail {w:World}{b o:Nat}{s:ByteArray}{p:List ByteArray}(hb:b<w.heap.size)(h:∀i,i<(s::p).length ->w.cell? ⟨b,o+i,none⟩=some (.string (gS (s::p) i))):QaT w (some ⟨b,o+1,none⟩) p:=
 .inr ⟨b,o+1,rfl,hb,fun i hi=>by
  have e:=h (i+1) (by simp;omega);rw [show o+(i+1)=o+1+i by omega] at e;exact e⟩
theorem QaT.drews {w:World}{a:Option Addr}{p:List ByteArray}(h:QaT w a p){k:Nat}:QaT (w.drewN k) a p:=h
theorem QbE {x y:Int}(h:x=y):Ending.returned (.int .i64 x)=.returned (.int .i64 y):=by rw [h]
theorem QcV:∀(p q:List ByteArray) (a b:Option Addr) (c d:Nat) (w:World),p.length<=c ->q.length<=d ->c<=9223372036854775807 ->d<=9223372036854775807 ->QaT w a p ->QaT w b q ->
  Calls Tryz.prog 96 #[.slice a p.length c,.slice b q.length d] w fun e w'=>e=.returned (.int .i64 (QaC p q))/\∃k,w'=w.drewN k
 | [],[],a,b,c,d,w,_,_,_,_,_,_=>by
  go_enter Tryz.func96,Tryz.ntmps96;go_wp2_with fail;go_ret;exact⟨rfl,0,rfl⟩
 | [],t::q,a,b,c,d,w,_,_,_,_,_,_=>by
  have N:(((t::q).length:Int)==0)=false:=by simp;omega
  go_enter Tryz.func96,Tryz.ntmps96;go_wp2_with fail;go_ret;exact⟨rfl,0,rfl⟩
 | s::p,[],a,b,c,d,w,_,_,_,_,_,_=>by
  have N:(((s::p).length:Int)==0)=false:=by simp;omega
  go_enter Tryz.func96,Tryz.ntmps96;go_wp2_with fail;go_ret;exact⟨rfl,0,rfl⟩
 | s::p,t::q,a,b,c,d,w,hc,hd,hc',hd',h,g=>by
  obtain⟨n,H⟩:∃n,(s::p).length=n:=⟨_,rfl⟩;obtain⟨m,G⟩:∃m,(t::q).length=m:=⟨_,rfl⟩;rcases h with h|⟨o,E,rfl,D,h⟩
  ·simp at h
  rcases g with g|⟨i,M,rfl,F,g⟩
  ·simp at g
  have x0:w.cell? ⟨o,E,none⟩=some (.string s):=by simpa [gS] using h 0 (by simp)
  have S:w.cell? ⟨i,M,none⟩=some (.string t):=by simpa [gS] using g 0 (by simp)
  have C:n=p.length+1:=by rw [<- H];simp
  have X:m=q.length+1:=by rw [<- G];simp
  have V:=hid (QaT.tail D h);have Y:=hid (QaT.tail F g);have N:((n:Int)==0)=false:=by simp;omega
  have d1:((m:Int)==0)=false:=by simp;omega
  have J:=hid C;have I:=hid X;have Hf:(0:Int)<(n:Int):=by omega
  have Hd:(0:Int)<(m:Int):=by omega
  have Hb:n<=c:=by rw [<- H];exact hc
  have Hc:m<=d:=by rw [<- G];exact hd
  rw [H,G];clear C X H G hc hd h g;by_cases U:Op.bytesLess s.toList t.toList=true
  ·have v:Hid (QaC (s::p) (t::q)= -1):=hid (by simp [QaC,QbH,ltS,U]);clear V Y;go_enter Tryz.func96,Tryz.ntmps96;go_wp2_with fail;go_quiet (fail);go_wp2_with fail;go_ret;exact⟨QbE v.symm,_,rfl⟩
  ·have U:Op.bytesLess s.toList t.toList=false:=by simpa using U
   by_cases Z:(s.toList==t.toList)=true
   ·have v:Hid (QaC (s::p) (t::q)=QaC p q):=hid (by simp only [QaC,QbH,ltS,eqS,U,Z];simp);have y:Hid (∀A B W,QaT W A p ->QaT W B q ->Calls Tryz.prog 96 #[.slice A (n - 1) (c - 1),.slice B (m - 1) (d - 1)] W fun e w'=>e=.returned (.int .i64 (QaC p q))/\∃m,w'=W.drewN m):=hid (fun A B W hA hB=>by
     have e1:=J.out;have e2:=I.out;rw [show n - 1=p.length by omega,show m - 1=q.length by omega];exact QcV p q A B (c - 1) (d - 1) _ (by omega) (by omega) (by omega) (by omega) hA hB)
    have Hg:(1:Int)<=(n:Int):=by omega
    have He:(1:Int)<=(m:Int):=by omega
    go_enter Tryz.func96,Tryz.ntmps96;go_wp2_with fail;go_quiet (fail);obtain⟨O,Q⟩:∃O,w.drewN nq=O:=⟨_,rfl⟩;rw [Q];have R:O.cell? ⟨o,E,none⟩=some (.string s):=by rw [<- Q];exact x0
    have T:O.cell? ⟨i,M,none⟩=some (.string t):=by rw [<- Q];exact S
    have L:=hid Q;clear Q;go_wp2_with fail;go_quiet (fail);obtain⟨u,K⟩:∃u,O.drewN nq=u:=⟨_,rfl⟩;rw [K];have z:Hid (∃k,u=w.drewN k):=hid ⟨_,by rw [<- K,<- L.out,World.drewN_drewN]⟩;clear K L R T;go_wp2_with fail;by_cases Ha:1<c
    ·skip;by_cases P:1<d
     ·skip;have j:Hid (QaT u (some ⟨o,E+1,none⟩) p):=hid (by obtain⟨k,e⟩:=z.out;rw [e];exact V.out);have r:Hid (QaT u (some ⟨i,M+1,none⟩) q):=hid (by obtain⟨k,e⟩:=z.out;rw [e];exact Y.out);go_quiet ((go_at_call 96;exact Calls.quiet_of (y _ _ _ j.drews r.drews)));clear j r y;go_wp2_with fail;go_ret;obtain⟨k,e⟩:=z.out;exact⟨QbE v.symm,_,by rw [e,World.drewN_drewN]⟩
     ·skip;have j:Hid (QaT u (some ⟨o,E+1,none⟩) p):=hid (by obtain⟨k,e⟩:=z.out;rw [e];exact V.out);have r:=hid (show QaT u (some ⟨i,M,none⟩) q from .inl (by have:=I.out;omega));go_quiet ((go_at_call 96;exact Calls.quiet_of (y _ _ _ j.drews r.drews)));clear j r y;go_wp2_with fail;go_ret;obtain⟨k,e⟩:=z.out;exact⟨QbE v.symm,_,by rw [e,World.drewN_drewN]⟩
    ·skip;by_cases P:1<d
     ·skip;have j:=hid (show QaT u (some ⟨o,E,none⟩) p from .inl (by have:=J.out;omega));have r:Hid (QaT u (some ⟨i,M+1,none⟩) q):=hid (by obtain⟨k,e⟩:=z.out;rw [e];exact Y.out);go_quiet ((go_at_call 96;exact Calls.quiet_of (y _ _ _ j.drews r.drews)));clear j r y;go_wp2_with fail;go_ret;obtain⟨k,e⟩:=z.out;exact⟨QbE v.symm,_,by rw [e,World.drewN_drewN]⟩
     ·skip;have j:=hid (show QaT u (some ⟨o,E,none⟩) p from .inl (by have:=J.out;omega));have r:=hid (show QaT u (some ⟨i,M,none⟩) q from .inl (by have:=I.out;omega));go_quiet ((go_at_call 96;exact Calls.quiet_of (y _ _ _ j.drews r.drews)));clear j r y;go_wp2_with fail;go_ret;obtain⟨k,e⟩:=z.out;exact⟨QbE v.symm,_,by rw [e,World.drewN_drewN]⟩
   ·have Z:(s.toList==t.toList)=false:=by simpa using Z
    have v:Hid (QaC (s::p) (t::q)=1):=hid (by simp [QaC,QbH,ltS,eqS,U,Z]);clear V Y;go_enter Tryz.func96,Tryz.ntmps96;go_wp2_with fail;go_quiet (fail);go_wp2_with fail;go_quiet (fail);go_wp2_with fail;go_ret;exact⟨QbE v.symm,_,World.drewN_drewN _ _ _⟩
theorem QiC (s t:ByteArray)(w:World):Calls Tryz.prog 108 #[.string s,.string t] w fun e w'=>e=.returned (.int .i64 (QbH s t))/\ w'=w:=by
 have q:∀(s:ByteArray) (w:World),Calls Tryz.prog 131 #[.string s] w fun e w'=>e=.returned (.bool false)/\ w'=w:=fun s w=>by
  have e:(s.toList==s.toList)=true:=by simp
  go_enter Tryz.func131,Tryz.ntmps131;go_wp2_with fail;go_ret;exact⟨rfl,rfl⟩
 by_cases k:Op.bytesLess s.toList t.toList=true
 ·have j:Hid (QbH s t= -1):=hid (by simp [QbH,ltS,k]);go_enter Tryz.func108,Tryz.ntmps108;go_wp2_with (go_at_call 131;refine(q _ _).mono ?_;rintro e w' ⟨rfl,rfl⟩);go_ret;exact⟨QbE j.symm,rfl⟩
 ·have k:Op.bytesLess s.toList t.toList=false:=by simpa using k
  by_cases m:(s.toList==t.toList)=true
  ·have j:Hid (QbH s t=0):=hid (by simp only [QbH,ltS,eqS,k,m];simp);go_enter Tryz.func108,Tryz.ntmps108;go_wp2_with (go_at_call 131;refine(q _ _).mono ?_;rintro e w' ⟨rfl,rfl⟩);go_ret;exact⟨QbE j.symm,rfl⟩
  ·have m:(s.toList==t.toList)=false:=by simpa using m
   have j:Hid (QbH s t=1):=hid (by simp [QbH,ltS,eqS,k,m]);go_enter Tryz.func108,Tryz.ntmps108;go_wp2_with (go_at_call 131;refine(q _ _).mono ?_;rintro e w' ⟨rfl,rfl⟩);go_ret;exact⟨QbE j.symm,rfl⟩
theorem QeX {p:List ByteArray}{k:Nat}(h:k<p.length):p.drop k=gS p k::p.drop (k+1):=by
 rw [List.drop_eq_getElem_cons h];simp [gS,List.getD,h]
theorem Qkc {p q:List ByteArray}{k:Nat}(h:k<p.length)(h':q.length<=k):QaC (p.drop k) (q.drop k)=1:=by
 rw [QeX h,List.drop_eq_nil_of_le h'];rfl
theorem Qka {p q:List ByteArray}{k:Nat}(h:p.length<=k)(h':k<q.length):QaC (p.drop k) (q.drop k)= -1:=by
 rw [QeX h',List.drop_eq_nil_of_le h];rfl
theorem Qkb {p q:List ByteArray}{k:Nat}(h:p.length<=k)(h':q.length<=k):QaC (p.drop k) (q.drop k)=0:=by
 rw [List.drop_eq_nil_of_le h',List.drop_eq_nil_of_le h];rfl
theorem Qmf {p q:List ByteArray}{k:Nat}(h:k<p.length)(h':k<q.length):QaC (p.drop k) (q.drop k)=if QbH (gS p k) (gS q k)=0 then QaC (p.drop (k+1)) (q.drop (k+1)) else QbH (gS p k) (gS q k):=by
 rw [QeX h,QeX h'];rfl
theorem Qme (p q:List ByteArray)(a b:Option Addr)(c d:Nat)(w:World)(hp:p.length<=1048576)(hq:q.length<=1048576)(h:QaT w a p)(u:QaT w b q):
  Calls Tryz.prog 117 #[.slice a p.length c,.slice b q.length d] w fun e w'=>e=.returned (.int .i64 (QaC p q))/\ w'=w:=by
 go_enter Tryz.func117,Tryz.ntmps117;go_wp2_with fail;go_loop [11] (fun i=>∃k:Nat,k<=p.length/\ i=.int .i64 (k:Int)/\ k<=q.length/\ Hid (QaC p q=QaC (p.drop k) (q.drop k))) (fun i=>p.length - (intOf i).toNat);case atStart=>exact⟨0,Nat.zero_le _,rfl,Nat.zero_le _,hid rfl⟩
 case round=>
  obtain⟨k,G,rfl,H,m⟩:=hrel;by_cases v:k<p.length
  ·rcases h with h|⟨U,N,rfl,Y,z⟩
   ·omega
   have x0:=z k v;have I:(0:Int)<=(k:Int):=Int.natCast_nonneg _;have J:(k:Int)<(p.length:Int):=by omega
   by_cases r:k<q.length
   ·rcases u with u|⟨V,X,rfl,Z,M⟩
    ·omega
    have Q:=M k r;have K:(k:Int)<(q.length:Int):=by omega
    have A:decide ((q.length:Int)<=(k:Int))=false:=by simp;omega
    have j:=hid (Qmf v r);obtain⟨s,g⟩:∃s,gS p k=s:=⟨_,rfl⟩;obtain⟨t,o⟩:∃t,gS q k=t:=⟨_,rfl⟩;rw [g] at x0;rw [o] at Q;have j:Hid (QaC p q=if QbH s t=0 then QaC (p.drop (k+1)) (q.drop (k+1)) else QbH s t):=hid (by rw [m.out,j.out,g,o]);have E:=hid (QiC s t w);obtain⟨x,O⟩:∃x,QbH s t=x:=⟨_,rfl⟩;rw [O] at E j;clear z M g o m O;go_wp2_with fail;refine E.mono ?_;rintro e w' ⟨rfl,rfl⟩;by_cases y:x=0
    ·subst y;have j:Hid (QaC p q=QaC (p.drop (k+1)) (q.drop (k+1))):=hid (by rw [j.out,if_pos rfl]);go_wp2_with fail;go_round;case rel=>exact⟨k+1,v,by go_num,r,j⟩
     case measure=>simp [intOf];omega
    ·have j:Hid (QaC p q=x):=hid (by rw [j.out,if_neg y]);have L:(x !=0)=true:=by simpa using y
     go_wp2_with fail;go_ret;exact⟨QbE j.symm,rfl⟩
   ·have A:decide ((q.length:Int)<=(k:Int))=true:=by simp;omega
    have j:Hid (QaC p q=1):=hid (by rw [m.out];exact Qkc v (by omega));clear z m;go_wp2_with fail;go_ret;exact⟨QbE j.symm,rfl⟩
  ·obtain rfl:k=p.length:=by omega
   by_cases r:p.length<q.length
   ·have j:Hid (QaC p q= -1):=hid (by rw [m.out];exact Qka zL r);have A:decide ((p.length:Int)<(q.length:Int))=true:=by simp;omega
    clear h u m;go_wp2_with fail;go_ret;exact⟨QbE j.symm,rfl⟩
   ·have j:Hid (QaC p q=0):=hid (by rw [m.out];exact Qkb zL (by omega));have A:decide ((p.length:Int)<(q.length:Int))=false:=by simp;omega
    clear h u m;go_wp2_with fail;go_ret;exact⟨QbE j.symm,rfl⟩
end Go.Proofs.YtjdcfkmhmnblbaaGreatDoor
