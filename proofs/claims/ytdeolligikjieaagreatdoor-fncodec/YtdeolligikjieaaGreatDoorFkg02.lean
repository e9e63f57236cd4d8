import Derived.Test.YtdeolligikjieaaGreatDoorFkg01
import Derived.Deep.QuietTactic
import Derived.BigQuiet
import Derived.Laws.IdiomStrings
import Derived.Test.YtdeolligikjieaaGreatDoorRows
import Derived.WalkKit
import Derived.ProofKit
import Derived.Below
import Derived.Maps.AppendAt
import Derived.Deep.AppendSrc
set_option linter.unusedVariables false
set_option linter.unusedSimpArgs false
set_option maxRecDepth 100000
set_option maxHeartbeats 40000000
namespace Go.Proofs.YtdeolligikjieaaGreatDoor
open Go.ChangeShapes Go.WideShapes Go.ChangeAt Go.RowKit
def QjO (w:World)(cb:Nat)(a:Option Addr)(n c:Nat)(x:Int):Prop:=w.cell? ⟨cb,0,none⟩=some (.slice a n c)/\ w.cell? ⟨cb,1,none⟩=some (.int .i64 x)/\ w.frozen? ⟨cb,1,none⟩=false
theorem QjO.lt {w:World}{cb:Nat}{a:Option Addr}{n c:Nat}{x:Int}(h:QjO w cb a n c x):cb<w.heap.size:=by
 rcases Nat.lt_or_ge cb w.heap.size with j|j
 ·exact j
 ·have:=h.1;simp [World.cell?,Array.getElem?_eq_none j] at this
theorem QjO.below {w w':World}{B cb:Nat}{a:Option Addr}{n c:Nat}{x:Int}(h:QjO w cb a n c x)(hb:Below B w w')(hB:cb<B):QjO w' cb a n c x:=
 ⟨(hb.cell (p:=⟨cb,0,none⟩) hB).trans h.1,(hb.cell (p:=⟨cb,1,none⟩) hB).trans h.2.1,(hb.frozen (p:=⟨cb,1,none⟩) hB).trans h.2.2⟩
theorem QjO.set {w:World}{cb:Nat}{a:Option Addr}{n c:Nat}{x:Int}(h:QjO w cb a n c x)(y:Int):QjO (w.setCell ⟨cb,1,none⟩ (.int .i64 y)) cb a n c y:=by
 obtain⟨j,k,m⟩:=h;refine⟨?_,?_,?_⟩
 ·simp [World.cell?_setCell_other,j]
 ·exact World.cell?_setCell_same _ _ _ k
 ·rw [World.frozen?_setCell];exact m
theorem Qeu {w w1:World}{cb i:Nat}(h:w.grownBy w1 none)(v:Value):w.grownBy (w1.setCell ⟨cb,i,none⟩ v) (some cb):=by
 refine⟨h.os,h.tape,h.output,?_,fun k hk hne=> ?_⟩
 ·have:=h.size;simpa [World.setCell] using this
 ·exact(zH _ _ _ _ (fun e=>hne (by rw [e]))).trans (h.block k hk (by simp))
theorem Qbf (w:World)(n:Nat)(row:Option Nat):w.grownBy (w.drewN n) row:=⟨rfl,rfl,rfl,Nat.le_refl _,fun _ _ _=>rfl⟩
theorem QaP {w w1 w2:World}{cb:Nat}(h1:w.grownBy w1 (some cb))(h2:w1.grownBy w2 (some cb)):w.grownBy w2 (some cb):=
 h1.andThen h2 (fun j hj=> .inr hj)
theorem Qbx {w w1 w2:World}{cb:Nat}(h1:w.grownBy w1 (some cb))(h2:Below w1.heap.size w1 w2):w.grownBy w2 (some cb):=
 QaP h1 ⟨h2.os,h2.tape,h2.output,h2.size,fun k hk _=>h2.block k hk⟩
def RdJ (w:World)(B rb:Nat)(f:Nat ->Int)(n x:Nat):Prop:=∃(a:Option Addr) (c:Nat),QjO w rb a n c (x:Int)/\ Seg w a n f/\ Byt f/\ n<=1000/\ x<=n/\ (0<n ->∀y,a=some y ->y.block≠rb/\ y.block<B)/\ rb<B
theorem RdJ.below {w w':World}{B rb:Nat}{f:Nat ->Int}{n x:Nat}(h:RdJ w B rb f n x)(hb:Below B w w'):RdJ w' B rb f n x:=by
 obtain⟨a,c,r,j,v,z,g,m,k⟩:=h;refine⟨a,c,r.below hb k,?_,v,z,g,m,k⟩;rcases j with j|⟨b,off,e,y,u⟩
 ·exact .inl j
 ·by_cases q:0<n
  ·exact .inr ⟨b,off,e,Nat.lt_of_lt_of_le y hb.size,fun i hi=>(hb.cell (p:=⟨b,off+i,none⟩) (show b<B from(m q _ e).2)).trans (u i hi)⟩
  ·exact .inl (by omega)
def rk (f:Nat ->Int)(n x:Nat):Nat:=if x<n then(f x).toNat else 0
def rx (n x:Nat):Nat:=if x<n then x+1 else x
theorem Qk9 {w:World}{B rb:Nat}{f:Nat ->Int}{n x:Nat}(h:RdJ w B rb f n x):rk f n x<256:=by
 obtain⟨a,c,k,m,j,_⟩:=h;unfold rk;split
 ·have:=j x;omega
 ·omega
theorem RdJ.lt {w:World}{B rb:Nat}{f:Nat ->Int}{n x:Nat}(h:RdJ w B rb f n x):rb<w.heap.size/\ rb<B:=by
 obtain⟨a,c,k,_,_,_,_,_,j⟩:=h;exact⟨k.lt,j⟩
theorem QaN (B rb:Nat)(f:Nat ->Int)(n x:Nat)(w:World)(h:RdJ w B rb f n x):
  Calls Tryz.prog 19 #[.pointer (some ⟨rb,0,none⟩)] w fun e w'=>e=.returned (.int .i64 (rk f n x:Int))/\ RdJ w' B rb f n (rx n x)/\ w.grownBy w' (some rb):=by
 obtain⟨a,c,s,u,m,A,Y,r,o⟩:=h;have q:=hid s;have t:=hid u;have y:=hid m;obtain⟨D,F,P⟩:=s;by_cases k:x<n
 ·rcases u with u|⟨b,off,rfl,H,p⟩
  ·omega
  obtain⟨z,v⟩:∃z:Nat,f x=(z:Int):=⟨(f x).toNat,by have:=(m x).1;omega⟩;have C:z<256:=by have:=(m x).2;omega
  have J:w.cell? ⟨b,off+x,none⟩=some (.int .u8 (z:Int)):=by rw [p x k,v]
  have I:b≠rb:=(r (by omega) _ rfl).1;have N:(0:Int)<=(x:Int):=Int.natCast_nonneg _;have X:(x:Int)<(n:Int):=by omega
  have L:IntKind.i64.wrap (z:Int)=(z:Int):=Qau _ (by omega) (by omega);have M:=hid v;have E:Hid (∀z:Nat,f x=(z:Int) ->rk f n x=z/\ rx n x=x+1):=hid (fun z e=>by unfold rk rx;rw [if_pos k,if_pos k,e];exact⟨by omega,rfl⟩);clear v p m;go_enter Tryz.func19,Tryz.ntmps19;go_wp2_with fail;go_quiet (fail);go_wp2_with fail;go_quiet (fail);go_wp2_with fail;go_ret;have g:=E z M.out;rw [g.1,g.2];refine⟨rfl,⟨_,c,?_,?_,y.out,A,k,r,o⟩,?_⟩
  ·first|exact q.set _|(simp;exact q.set _)
  ·rcases t.out with Q|⟨G,Z,j,U,V⟩
   ·exact .inl Q
   ·have O:=j;injection j with j;injection j with j _ _;subst j;exact .inr ⟨_,Z,O,by simpa [World.setCell] using U,fun i hi=>by
     try simp only [World.drewN_drewN]
     rw [World.cell?_setCell_far _ _ _ _ (by simp;omega)];exact V i hi⟩
  ·first|exact Qeu (Qbf _ _ _) _|(simp;exact Qeu (Qbf _ _ _) _)
 ·have K:decide ((x:Int)<(n:Int))=false:=by simp;omega
  go_enter Tryz.func19,Tryz.ntmps19;go_wp2_with fail;go_quiet (fail);go_wp2_with fail;go_ret;have e:rk f n x=0/\ rx n x=x:=by unfold rk rx;rw [if_neg k,if_neg k];exact⟨rfl,rfl⟩
  rw [e.1,e.2];exact⟨rfl,⟨a,c,q.out,t.out,y.out,A,Y,r,o⟩,Qbf _ _ _⟩
theorem QmD (a:Option Addr)(n c:Nat)(f:Nat ->Int)(w:World)(hnc:n<=c)(hn:n<=9223372036854775807)(h:Seg w a n f)(hf:Byt f):
  Calls Tryz.prog 10 #[.slice a n c] w fun e w'=>e=.returned (.pointer (some ⟨w.heap.size,0,none⟩))/\ RdJ w' (w.heap.size+1) w.heap.size f (min n 1000) 0/\ Below w.heap.size w w':=by
 have r:=fun(o:Obj)=>zO w o;have k:=hid r;have m:=hid h;have q:=hid hf;clear r;by_cases u:n<=1000
 ·clear h hf;go_enter Tryz.func10,Tryz.ntmps10;go_wp2_with fail;go_ret;rw [Nat.min_eq_left u];refine⟨rfl,⟨a,c,⟨by simp,by simp,by simp⟩,m.below (k _),q.out,u,by omega,fun h0 y hy=> ?_,by omega⟩,k.out _⟩;rcases m.out with g|⟨b,off,e,j,_⟩
  ·omega
  ·rw [hy] at e;injection e with e;rw [e];exact⟨Nat.ne_of_lt j,Nat.lt_succ_of_lt j⟩
 ·have g:1000<n:=by omega
  rcases h with h|⟨b,off,rfl,j,p⟩
  ·omega
  clear hf p;go_enter Tryz.func10,Tryz.ntmps10;go_wp2_with fail;go_ret;rw [Nat.min_eq_right (by omega)];refine⟨rfl,⟨some ⟨b,off,none⟩,c,⟨by simp,by simp,by simp⟩,?_,q.out,by omega,by omega,fun h0 y hy=> ?_,by omega⟩,k.out _⟩
  ·rcases (m.below (k _)) with E|⟨v,A,z,t,s⟩
   ·omega
   ·exact .inr ⟨v,A,z,t,fun i hi=>s i (by omega)⟩
  ·injection hy with hy;rw [<- hy];exact⟨Nat.ne_of_lt j,Nat.lt_succ_of_lt j⟩
def QkF (f:Nat ->Int)(p L:Nat):ByteArray:=⟨((List.range L).map fun i=>UInt8.ofNat (f (p+i)).toNat).toArray⟩
theorem Qie {w:World}{b off p L cap:Nat}{f:Nat ->Int}(hf:Byt f)(hc:∀i,i<L ->w.cell? ⟨b,off+p+i,none⟩=some (.int .u8 (f (p+i)))):
  (convert 22 9 (.slice (some ⟨b,off+p,none⟩) L cap)).run Tryz.prog w=.ok (.string (QkF f p L)) w:=by
 have r:((List.range L).map fun i=>UInt8.ofNat (f (p+i)).toNat).length=L:=by simp
 have:=run_convert_bytes_back (P:=Tryz.prog) w 22 9 5 ⟨b,off+p,none⟩ cap ((List.range L).map fun i=>UInt8.ofNat (f (p+i)).toNat) Tryz.underlying22 Tryz.underlying5 Tryz.underlying9 (fun j hj=>by
  have q:j<L:=by simpa using hj
  have e:(Addr.add ⟨b,off+p,none⟩ j)=⟨b,off+p+j,none⟩:=by
   by_cases k:j=0
   ·subst k;simp [Addr.add]
   ·simp [Addr.add,k]
  rw [e,hc j q];have:=hf (p+j);simp only [List.getElem_map,List.getElem_range,Option.some.injEq,Value.int.injEq,true_and];have m:(UInt8.ofNat (f (p+j)).toNat).toNat=(f (p+j)).toNat%256:=by simp
  rw [m];omega)
 rw [r] at this;exact this
theorem Qif {w:World}(ad:Addr)(p cap:Nat)(f:Nat ->Int):(convert 22 9 (.slice (some ad) 0 cap)).run Tryz.prog w=.ok (.string (QkF f p 0)) w:=
 run_convert_bytes_back (P:=Tryz.prog) w 22 9 5 ad cap [] Tryz.underlying22 Tryz.underlying5 Tryz.underlying9 (fun j hj=>by simp at hj)
def Qpb (w:World)(B:Nat)(v:Value)(zs:List Int):Prop:=Own w B v zs/\∀z∈zs,0<=z/\ z<256
theorem QoO (w:World)(B:Nat)(hB:B<=w.heap.size):Own (w.alloc (.cells #[] 5)) B (.slice (some ⟨w.heap.size,0,none⟩) 0 0) []:=by
 have:=World.ownsRow_lit (base:=B) (e:=5) (size:=1) w #[] 0 hB (by unfold maxLen;omega) rfl;simpa [Own] using this
def txJ (zs:List Int):ByteArray:=QkF (fun i=>zs.getD i 0) 0 zs.length
theorem QhG (zs:List Int):(txJ zs).size=zs.length:=by simp [txJ,QkF,ByteArray.size]
theorem Qj9 {w:World}{B:Nat}{v:Value}{zs:List Int}(h:Qpb w B v zs):∀k,(convert 22 9 v).run Tryz.prog (w.drewN k)=.ok (.string (txJ zs)) (w.drewN k):=by
 obtain⟨m,u⟩:=h;by_cases j:zs=[]
 ·subst j;obtain⟨_,r⟩:=m;rcases r with ⟨rfl,_⟩|⟨g,cap,z,rfl,_⟩
  ·intro k;rw [run_convert_bytes_string _ _ _ 5 none 0 0 Tryz.underlying22 Tryz.underlying5 Tryz.underlying9];rfl
  ·exact fun k=>Qif (w:=w.drewN k) ⟨g,0,none⟩ 0 cap (fun _=>0)
 ·obtain⟨g,cap,rfl,_,_,_,_,_,s⟩:=m.shape j;rcases s with q|⟨b,off,e,t,y⟩
  ·exact absurd (List.length_eq_zero_iff.1 q) j
  ·injection e with e;injection e with e1 e2 _;subst e1 e2;intro k;have:=Qie (w:=w.drewN k) (b:=g) (off:=0) (p:=0) (L:=zs.length) (cap:=cap) (f:=fun i=>zs.getD i 0) (QlP u) (fun i hi=>by have:=y i hi;simpa using this);simpa [txJ] using this
def rpt (s:ByteArray)(n:Nat):List Int:=(List.replicate n (Qa5 s)).flatten
theorem QkB (s:ByteArray)(n:Nat):rpt s (n+1)=rpt s n++Qa5 s:=by simp [rpt,List.replicate_succ']
theorem Qjy (s:ByteArray)(n:Nat):(rpt s n).length=n*s.size:=by simp [rpt,Qas]
theorem QkA (s:ByteArray)(n:Nat):∀z∈rpt s n,0<=z/\ z<256:=by
 intro z j;simp only [rpt,List.mem_flatten,List.mem_replicate] at j;obtain⟨l,⟨_,rfl⟩,h⟩:=j;exact Qdi s z h
theorem QcE (s:ByteArray)(n:Nat)(w:World)(hs:s.size<=1)(hn:n<=1000):
  Calls Tryz.prog 51 #[.string s,.int .i64 (n:Int)] w fun e w'=>e=.returned (.string (txJ (rpt s n)))/\ Below w.heap.size w w':=by
 obtain⟨B,H,L,N,X⟩:=info_parts Tryz.infoByte;have p:=hid (QoO w w.heap.size zL);have g:=hid (zO w (.cells #[] 5));go_enter Tryz.func51,Tryz.ntmps51;go_wp2_with fail;go_loopw [5,6] (fun b i wr=>∃(j:Nat) (m:List Int),j<=n/\ m.length<=j/\ i=.int .i64 (j:Int)/\ Hid (Own wr w.heap.size b m)/\ Hid (rpt s j=m)/\ Hid (Below w.heap.size w wr)) (fun _ i _=>n - (intOf i).toNat);case atStart=>exact⟨0,[],Nat.zero_le _,Nat.zero_le _,rfl,p,hid rfl,g⟩
 case round=>
  clear p g;obtain⟨j,m,F,P,rfl,y,v,u⟩:=hrel;have D:=u.size;by_cases J:j<n
  ·obtain⟨cap,C,K,r,S,O⟩:=Qem s wr;have z:C.ownsRow w.heap.size 5 1 u5 m.length (m.map (Value.int .u8)):=y.kept r (fun k hk=>(World.ownsRow.lt y.out k hk).2);have q:Hid (∀k,u5.ownBlock=some k ->w.heap.size<=k):=fun k hk=>(World.ownsRow.lt z k hk).1;have E:=hid O;have M:=hid (Lib.strCells_oneCell s);have A:=hid (Lib.strCells_length s);have o:=hid (u.trans (r.mono D));have T:=r.size;clear O r y u;go_wp2_with (at_builtin;refine wpList_append_own _ rfl _ _ 22 rfl w.heap.size 5 B (.int .u8 0) 1 1 Tryz.underlying22 H L N X rfl (by decide) _ _ _ rfl z ⟨wr.heap.size,0,none⟩ s.size cap (Lib.strCells s) rfl (by rw [A.out];omega) E.out M.out ?c3 ?c4 ?c5 ?_);case c3=>unfold maxLen;omega
   case c4=>omega
   case c5=>omega
   ·intro v' Y V U _;have R:Hid (Own Y w.heap.size v' (m++Qa5 s)):=by
     show Own _ _ _ _;unfold Own;rw [List.length_append,List.map_append,Qas,QbK];exact V
    have G:Hid (Below w.heap.size w Y):=o.grown U (by omega) q.out;have Z:Hid (rpt s (j+1)=m++Qa5 s):=hid (by rw [QkB,v.out]);have I:(m++Qa5 s).length<=j+1:=by rw [List.length_append,Qas];omega
    clear V U z E M A K q o;go_wp2_with fail;go_roundw;case rel=>exact⟨j+1,m++Qa5 s,J,I,by go_num,R,Z,G⟩
    case measure=>simp [intOf];omega
  ·obtain rfl:j=n:=by omega
   have Q:=Qj9 ⟨y.out,by rw [<- v.out];exact QkA s j⟩ 0;rw [World.drewN_zero] at Q;obtain⟨t,h⟩:∃t,txJ m=t:=⟨_,rfl⟩;have q:Hid (txJ (rpt s j)=t):=hid (by rw [v.out];exact h);rw [h] at Q;clear h v;go_wp2_with fail;go_ret;exact⟨by rw [q.out];rfl,u.out⟩
theorem QmC (B rb:Nat)(f:Nat ->Int)(n x:Nat)(w:World)(h:RdJ w B rb f n x):
  Calls Tryz.prog 46 #[.pointer (some ⟨rb,0,none⟩)] w fun e w'=>e=.returned (.int .i64 ((n - x:Nat):Int))/\ RdJ w' B rb f n x/\ w.grownBy w' (some rb):=by
 have j:=hid h;obtain⟨a,c,m,u,q,y,g,r,v⟩:=h;obtain⟨t,o,i⟩:=m;obtain⟨d,k⟩:∃d:Nat,n - x=d:=⟨_,rfl⟩;have z:IntKind.i64.wrap ((n:Int) - (x:Int))=(d:Int):=by rw [show (n:Int) - (x:Int)=(d:Int) from by omega];exact Qau _ (by omega) (by omega)
 rw [k];clear u q r k;go_enter Tryz.func46,Tryz.ntmps46;go_wp2_with fail;try (go_quiet (fail);go_wp2_with fail)
 go_ret;first|exact⟨rfl,j.out,Qbf _ _ _⟩|exact⟨rfl,j.out,Qbf _ 0 _⟩
def QaL (w:World)(B size:Nat)(v:Value)(n:Nat)(xs:List Value):Prop:=
 ∃g off c,v=.slice (some ⟨g,off,none⟩) n c/\ B<=g/\ g<w.heap.size/\ n<=c/\ c<=maxLen/\ xs.length=n*size/\ (∀j,j<n*size ->w.cell? ⟨g,off+j,none⟩=xs[j]?)/\ (∀j,j<c*size ->(w.cell? ⟨g,off+j,none⟩).isSome=true)/\ (∀j,j<c*size ->w.frozen? ⟨g,off+j,none⟩=false)
theorem QhV {w:World}{B:Nat}{e:TypeId}{size:Nat}{v:Value}{n:Nat}{xs:List Value}(h:w.ownsRow B e size v n xs)(hv:v≠.slice none 0 0):QaL w B size v n xs:=by
 rcases h.2 with ⟨e,_⟩|⟨g,cap,k,e,m,u,y,q,r,z⟩
 ·exact absurd e hv
 ·subst e;refine⟨g,0,cap,rfl,m,(h.lt g rfl).2,y,q,h.1,fun j hj=> ?_,fun j hj=> ?_,fun j hj=> ?_⟩
  ·rw [Nat.zero_add];exact h.cellAt j hj
  ·rw [Nat.zero_add];have:j<k.size:=by rw [r];exact hj
   simp [World.cell?,u,this]
  ·rw [Nat.zero_add];exact h.frozenAt j
theorem QaL.below {w w':World}{B C size:Nat}{v:Value}{n:Nat}{xs:List Value}(h:QaL w B size v n xs)(hb:Below C w w')(hC:w.heap.size<=C):QaL w' B size v n xs:=by
 obtain⟨g,off,c,e,y,m,o,z,t,q,r,u⟩:=h;have k:g<C:=Nat.lt_of_lt_of_le m hC;exact⟨g,off,c,e,y,Nat.lt_of_lt_of_le m hb.size,o,z,t,fun j hj=>(hb.cell (p:=⟨g,off+j,none⟩) k).trans (q j hj),fun j hj=>by rw [hb.cell (p:=⟨g,off+j,none⟩) k];exact r j hj,fun j hj=>(hb.frozen (p:=⟨g,off+j,none⟩) k).trans (u j hj)⟩
theorem QaL.gr {w w':World}{B size:Nat}{v:Value}{n:Nat}{xs:List Value}{row:Option Nat}(h:QaL w B size v n xs)(hg:w.grownBy w' row)(hne:v.ownBlock≠row):QaL w' B size v n xs:=by
 obtain⟨g,off,c,rfl,u,k,t,y,z,m,q,r⟩:=h;have e:w'.heap[g]? =w.heap[g]? :=hg.block g k hne;exact⟨g,off,c,rfl,u,Nat.lt_of_lt_of_le k hg.size,t,y,z,fun j hj=>(World.cell?_of_block e).trans (m j hj),fun j hj=>by rw [World.cell?_of_block (a:=⟨g,off+j,none⟩) e];exact q j hj,fun j hj=>(World.frozen?_of_block (a:=⟨g,off+j,none⟩) e).trans (r j hj)⟩
theorem QaL.weak {w:World}{B B' size:Nat}{v:Value}{n:Nat}{xs:List Value}(h:QaL w B size v n xs)(hB:B'<=B):QaL w B' size v n xs:=by
 obtain⟨g,off,c,e,j,r⟩:=h;exact⟨g,off,c,e,Nat.le_trans hB j,r⟩
theorem QaL.lt {w:World}{B size:Nat}{v:Value}{n:Nat}{xs:List Value}(h:QaL w B size v n xs):∃g,v.ownBlock=some g/\ B<=g/\ g<w.heap.size:=by
 obtain⟨g,off,c,rfl,j,k,_⟩:=h;exact⟨g,rfl,j,k⟩
theorem Qb5 (b:Nat):∀(vs:List Value) (o:Nat) (w:World),w.grownBy (w.setCells b o vs) (some b)
 | [],o,w=>⟨rfl,rfl,rfl,Nat.le_refl _,fun _ _ _=>rfl⟩
 | v::r,o,w=>by
  have j:=Qb5 b r (o+1) (w.setCell ⟨b,o,none⟩ v);have m:(w.setCell ⟨b,o,none⟩ v).heap.size=w.heap.size:=by simp [World.setCell]
  exact⟨j.os,j.tape,j.output,by have:=j.size;rw [m] at this;exact this,fun k hk hne=>(j.block k (by rw [m];exact hk) hne).trans (Below.heap_setCell _ _ _ _ (fun e=>hne (by rw [e])))⟩
theorem QgG {P:Program}(w:World)(B:Nat)(t ty e:TypeId)(i:TypeInfo)(z:Value)(size bytes:Nat)(ht:P.underlying t=some (.slice e))(hi:P.info? e=some i)(hz:i.zero=some z)
  (hsize:i.size=size) (hby:i.bytes=bytes) (hzs:z.cells.size=size) (v:Value) (n:Nat) (xs:List Value) (hown:QaL w B size v n xs)
  (a:Addr) (m c:Nat) (news:List Value) (hl:news.length=m*size) (hnews:∀j u,news[j]? =some u ->w.cell? (a.add j)=some u) (h1:∀u∈news,u.oneCell'=true)
  (h63:n+m<=maxLen) (hbytes:(n+m)*bytes<=140737488355328) (hbase:B<=w.heap.size):
  ∃v' w',(Builtin.append_ #[t,t] ty #[v,.slice (some a) m c]).run P w=.ok v' w'/\ QaL w' B size v' (n+m) (xs++news)/\ w.grownBy w' v.ownBlock/\ (v'.ownBlock=v.ownBlock \/v'.ownBlock=some w.heap.size):=by
 subst hsize;subst hby;obtain⟨g,off,cap,rfl,G,J,D,I,o,Q,U,V⟩:=hown;have O:Src P i.size t (.slice (some a) m c) m news w:=Src.ofSlice w ht a m c news hl hnews h1;have r:(xs++news).length=(n+m)*i.size:=by rw [List.length_append,o,hl,Nat.add_mul]
 have F:(n+m)*i.size=n*i.size+m*i.size:=Nat.add_mul _ _ _;by_cases b:n+m<=cap
 ·have N:(n+m)*i.size<=cap*i.size:=Nat.mul_le_mul_right _ b;have Y:∀j,j<news.length ->(w.cell? ⟨g,off+n*i.size+j,none⟩).isSome=true:=fun j q=>by rw [Nat.add_assoc];exact U _ (by omega)
  have y:=run_append_room_src (P:=P) (w:=w) t t ty e i ht hi g off n cap (.slice (some a) m c) m news O b Y (fun j q=>by rw [Nat.add_assoc];exact V _ (by omega));have E:=World.cell?_setCells_in g news (off+n*i.size) w Y;refine⟨_,_,y,⟨g,off,cap,rfl,G,?_,b,I,r,fun j q=> ?_,fun j q=> ?_,fun j q=> ?_⟩,Qb5 g news _ w,.inl rfl⟩
  ·exact Nat.lt_of_lt_of_le J (Qb5 g news _ w).size
  ·by_cases M:j<n*i.size
   ·rw [World.cell?_setCells_out g news _ w _ (fun _ _=> .inl (by show off+j<off+n*i.size;omega)),Q j M,List.getElem?_append_left (by omega)]
   ·have:=E (j - n*i.size) (by omega);rw [show off+n*i.size+(j - n*i.size)=off+j by omega] at this;rw [this,List.getElem?_append_right (by omega),o,List.getElem?_eq_getElem (by omega)]
  ·by_cases M:n*i.size<=j/\ j<n*i.size+news.length
   ·have:=E (j - n*i.size) (by omega);rw [show off+n*i.size+(j - n*i.size)=off+j by omega] at this;rw [this];rfl
   ·rw [World.cell?_setCells_out g news _ w _ (fun _ _=>by show off+j<off+n*i.size \/off+n*i.size+news.length<=off+j;omega)];exact U j q
  ·rw [World.frozen?_setCells];exact V j q
 ·have K:(Builtin.firstCells i.size n (.slice (some ⟨g,off,none⟩) n cap)).run P w.drew=.ok xs.toArray w.drew:=run_firstCells_some (P:=P) w.drew i.size n ⟨g,off,none⟩ n cap xs o (fun j u hu=>by
   have q:j<xs.length:=(List.getElem?_eq_some_iff.1 hu).1;have:=Q j (by omega);rw [hu] at this;have Z:(⟨g,off,none⟩:Addr).add j=⟨g,off+j,none⟩:=by
    by_cases p:j=0
    ·subst p;simp [Addr.add]
    ·simp [Addr.add,p]
   rw [Z];exact this)
  have y:=run_append_grow_src (P:=P) (w:=w) t t ty e i z ht hi hz (some ⟨g,off,none⟩) n cap xs K (.slice (some a) m c) m news O (by omega) (by unfold maxLen at h63;omega) (growslice_fits (by omega) hbytes);have h:=grownCap_ge w (n+m) cap e;have A:grownCap w (n+m) cap e<=maxLen:=grownCap_le_maxLen w (n+m) cap e h63;obtain⟨C,H⟩:∃C,grownCap w (n+m) cap e=C:=⟨_,rfl⟩;rw [H] at y h A;have X:(n+m)*i.size<=C*i.size:=Nat.mul_le_mul_right _ h;have L:((xs++news).toArray++Builtin.zeroCells z.cells (C - (n+m))).size=C*i.size:=by
   simp only [Array.size_append,List.size_toArray,size_zeroCells,hzs];rw [r,<- Nat.add_mul];congr 1;omega
  have s:∀j,(w.drew.alloc (.cells ((xs++news).toArray++Builtin.zeroCells z.cells (C - (n+m))) e)).cell? ⟨w.heap.size,j,none⟩=((xs++news).toArray++Builtin.zeroCells z.cells (C - (n+m)))[j]? :=fun j=>by
   have:=heap_alloc_new w.drew (.cells ((xs++news).toArray++Builtin.zeroCells z.cells (C - (n+m))) e);rw [show (w.drew).heap.size=w.heap.size from rfl] at this;unfold World.cell?;dsimp only;rw [this];rfl
  refine⟨_,_,y,⟨w.heap.size,0,C,rfl,hbase,by simp,h,A,r,fun j q=> ?_,fun j q=> ?_,fun j q=> ?_⟩,⟨rfl,rfl,rfl,by simp,fun k hk _=>heap_alloc_old w.drew _ hk⟩,.inr rfl⟩
  ·rw [Nat.zero_add,s,Array.getElem?_append_left (by rw [List.size_toArray,r];exact q)];simp
  ·rw [Nat.zero_add,s,Array.getElem?_eq_getElem (by rw [L];exact q)];rfl
  ·rw [Nat.zero_add];have:=heap_alloc_new w.drew (.cells ((xs++news).toArray++Builtin.zeroCells z.cells (C - (n+m))) e);rw [show (w.drew).heap.size=w.heap.size from rfl] at this;unfold World.frozen?;dsimp only;rw [this];show (decide (0<=j) && decide (j<0))=false;simp
theorem QeB {P:Program}{o:Oper}{a:Act}{w:World}{K:Act ->World ->Prop}{Q:Exit ->Act ->World ->Prop}(s x:Operand)(t:TypeId)
  (ho:o.op=.call {callee:=.builtin .append,args:=#[s,x],argTypes:=#[t,t]})
  (base:Nat) (e:TypeId) (i:TypeInfo) (z:Value) (size bytes:Nat) (ht:P.underlying t=some (.slice e)) (hi:P.info? e=some i) (hz:i.zero=some z)
  (hsize:i.size=size) (hby:i.bytes=bytes) (hzs:z.cells.size=size)
  (v:Value) (n:Nat) (xs:List Value) (hs:a.eval s=v) (hown:QaL w base size v n xs)
  (ad:Addr) (m c:Nat) (news:List Value) (hx:a.eval x=.slice (some ad) m c) (hl:news.length=m*size) (hnews:∀j u,news[j]? =some u ->w.cell? (ad.add j)=some u) (h1:∀u∈news,u.oneCell'=true)
  (h63:n+m<=maxLen) (hbytes:(n+m)*bytes<=140737488355328) (hbase:base<=w.heap.size)
  (h:∀v' w',QaL w' base size v' (n+m) (xs++news) ->w.grownBy w' v.ownBlock ->(v'.ownBlock=v.ownBlock \/v'.ownBlock=some w.heap.size) ->K (a.put o.dst v') w'):o.wp P a w K Q:=by
 obtain⟨v',w',y,k,q,r⟩:=QgG (P:=P) w base t o.type e i z size bytes ht hi hz hsize hby hzs v n xs hown ad m c news hl hnews h1 h63 hbytes hbase;unfold Oper.wp execOp;simp only [ho,resolve,invoke,builtin,Sem.run_bind,Sem.run_pure,Result.andThen_ok,List.map_toArray,List.map_cons,List.map_nil,hs,hx,y];exact h v' w' k q r
theorem Qcr {P:Program}{w:World}{ops:Array Oper}{rest:List Oper}{o:Oper}{a:Act}{Q:Exit ->Act ->World ->Prop}(hgd:o.guard=none)(s x:Operand)(t:TypeId)
  (ho:o.op=.call {callee:=.builtin .append,args:=#[s,x],argTypes:=#[t,t]})
  (base:Nat) (e:TypeId) (i:TypeInfo) (z:Value) (size bytes:Nat) (ht:P.underlying t=some (.slice e)) (hi:P.info? e=some i) (hz:i.zero=some z)
  (hsize:i.size=size) (hby:i.bytes=bytes) (hzs:z.cells.size=size)
  (v:Value) (n:Nat) (xs:List Value) (hs:a.eval s=v) (hown:QaL w base size v n xs)
  (ad:Addr) (m c:Nat) (news:List Value) (hx:a.eval x=.slice (some ad) m c) (hl:news.length=m*size) (hnews:∀j u,news[j]? =some u ->w.cell? (ad.add j)=some u) (h1:∀u∈news,u.oneCell'=true)
  (h63:n+m<=maxLen) (hbytes:(n+m)*bytes<=140737488355328) (hbase:base<=w.heap.size)
  (h:∀v' w',QaL w' base size v' (n+m) (xs++news) ->w.grownBy w' v.ownBlock ->(v'.ownBlock=v.ownBlock \/v'.ownBlock=some w.heap.size) ->wpList P ops Q rest (a.put o.dst v') w'):wpList P ops Q (o::rest) a w:=
 wpList_plain hgd fun _ hK=>QeB s x t ho base e i z size bytes ht hi hz hsize hby hzs v n xs hs hown ad m c news hx hl hnews h1 h63 hbytes hbase fun v' w' h2 h3 h4=>hK _ _ (h v' w' h2 h3 h4)
end Go.Proofs.YtdeolligikjieaaGreatDoor
