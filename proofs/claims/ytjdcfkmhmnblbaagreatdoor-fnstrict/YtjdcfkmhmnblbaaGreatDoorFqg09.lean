import Derived.Test.YtjdcfkmhmnblbaaGreatDoorFqg01
import Derived.Test.YtjdcfkmhmnblbaaGreatDoorFqg08
import Derived.Test.YtjdcfkmhmnblbaaGreatDoorFqg02
import Derived.Test.YtjdcfkmhmnblbaaGreatDoorFqg06
import Derived.Test.YtjdcfkmhmnblbaaGreatDoorFqg03
import Derived.Test.YtjdcfkmhmnblbaaGreatDoorFqg04
set_option linter.unusedVariables false
set_option linter.unusedSimpArgs false
set_option maxRecDepth 100000
set_option maxHeartbeats 40000000
namespace Go.Proofs.YtjdcfkmhmnblbaaGreatDoor
open Go.ChangeShapes Go.WideShapes Go.ChangeAt Go.RowKit
def mk3 (k0 c:Nat)(i:Nat):Int:=((k0+3*i+c:Nat):Int)
open Go.Maps Go.Sort
def gR (l:List Rn)(i:Nat):Rn:=l.getD i (0,0,0)
def FS (w:World)(a:Option Addr)(l:List Rn):Prop:=
 l.length=0 \/∃g off,a=some ⟨g,off,none⟩/\ g<w.heap.size/\∀i,i<l.length ->w.cell? ⟨g,off+i*3,none⟩=some (.int .i64 (gR l i).1)/\ w.cell? ⟨g,off+i*3+1,none⟩=some (.int .i64 (gR l i).2.1)/\ w.cell? ⟨g,off+i*3+2,none⟩=some (.int .i64 (gR l i).2.2)
theorem Qkl {w:World}{B n cap g:Nat}{l:List Rn}(h:w.ownsRow B 79 3 (.slice (some ⟨g,0,none⟩) n cap) n (Qas l))(hl:l.length=n):
  ∀i,i<n ->w.cell? ⟨g,i*3,none⟩=some (.int .i64 (gR l i).1)/\ w.cell? ⟨g,i*3+1,none⟩=some (.int .i64 (gR l i).2.1)/\ w.cell? ⟨g,i*3+2,none⟩=some (.int .i64 (gR l i).2.2):=by
 intro i j;have k:∀(l:List Rn) (i:Nat),i<l.length ->(Qas l)[i*3]? =some (.int .i64 (gR l i).1)/\ (Qas l)[i*3+1]? =some (.int .i64 (gR l i).2.1)/\ (Qas l)[i*3+2]? =some (.int .i64 (gR l i).2.2):=by
  intro l;induction l with
  | nil=>intro i j;simp at j
  | cons a l ih=>
   intro i j;cases i with
   | zero=>simp [Qas,gR]
   | succ i=>
    have:=ih i (by simpa using j);have e:Qas (a::l)=.int .i64 a.1::.int .i64 a.2.1::.int .i64 a.2.2::Qas l:=by simp [Qas]
    rw [e,show (i+1)*3=i*3+1+1+1 from by omega];simpa [gR] using this
 rw [h.cellAt _ (by omega),h.cellAt _ (by omega),h.cellAt _ (by omega)];exact k l i (by omega)
theorem FR.fs {w:World}{B:Nat}{v:Value}{l:List Rn}(h:FR w B v l):∃a c,v=.slice a l.length c/\ FS w a l/\ l.length<=c/\ c<=9223372036854775807:=by
 rcases h.2 with ⟨e,j⟩|⟨g,cap,r,e,u,_,q,m,_⟩
 ·exact⟨none,0,by rw [e,j],.inl j,by omega,by omega⟩
 ·refine⟨_,cap,e,.inr ⟨g,0,rfl,(World.ownsRow.lt h g (by rw [e];rfl)).2,fun i hi=> ?_⟩,q,by unfold maxLen at m;omega⟩;have k:w.ownsRow B 79 3 v l.length (Qas l):=h;rw [e] at k;rw [Nat.zero_add];exact Qkl k rfl i hi
theorem Qe3 (l:List Rn):(Qas l).length=l.length*3:=by
 induction l with
 | nil=>rfl
 | cons a l ih=>simp [Qas] at*;omega
theorem FS.rseg {w:World}{a:Option Addr}{l:List Rn}(h:FS w a l):Qb5 w a l.length (fun i=>(gR l i).1) (fun i=>(gR l i).2.1) (fun i=>(gR l i).2.2):=h
theorem FR.gr {w w':World}{B:Nat}{v:Value}{l:List Rn}{row:Option Nat}(h:FR w B v l)(hg:w.grownBy w' row)(hne:∀g,v.ownBlock=Option.some g ->Option.some g≠row):FR w' B v l:=
 World.ownsRow.kept h hg (by
  cases e:v.ownBlock with
  | none=>exact .inl rfl
  | some g=>exact .inr (hne g e))
theorem FR.below {w w':World}{B:Nat}{v:Value}{l:List Rn}(h:FR w B v l)(hb:Below w.heap.size w w'):FR w' B v l:=
 h.gr (row:=none) ⟨hb.os,hb.tape,hb.output,hb.size,fun k hk _=>hb.block k hk⟩ (by simp)
def stK (l:List Rn)(r:Rn)(k:Nat):List Rn×Rn×List Rn:=(l.take k).foldl QaI ([],r,[])
theorem Qfx {l:List Rn}{r:Rn}{k:Nat}(h:k<l.length):stK l r (k+1)=QaI (stK l r k) (gR l k):=by
 unfold stK;rw [List.take_add_one,List.foldl_append];simp [gR,List.getD,h]
theorem QjD (l:List Rn)(r:Rn):stK l r l.length=Qg6 l r:=by unfold stK Qg6;rw [List.take_length]
def Bnd (p:Rn):Prop:=(-2000000000<=p.1/\ p.1<=2000000000)/\ (-2000000000<=p.2.1/\ p.2.1<=2000000000)/\ -2000000000<=p.2.2/\ p.2.2<=2000000000
theorem Rok.bnd {p:Rn}(h:Rok p):Bnd p:=by unfold Rok at h;unfold Bnd;omega
theorem Qg7 {s:List Rn×Rn×List Rn}{q:Rn}(h:Bnd s.2.1)(hq:Bnd q):Bnd (QaI s q).2.1:=by
 unfold QaI;split
 ·exact h
 ·split
  ·exact h
  ·unfold Bnd at*;simp only;omega
theorem Qg8 (s:List Rn×Rn×List Rn)(q:Rn):(QaI s q).1.length+(QaI s q).2.2.length<=s.1.length+s.2.2.length+1:=by
 unfold QaI;split
 ·simp;omega
 ·split
  ·simp;omega
  ·simp
theorem QgW (l:List Rn)(r:Rn):∀k,k<=l.length ->(stK l r k).1.length+(stK l r k).2.2.length<=k
 | 0,_=>by simp [stK]
 | k+1,h=>by
  rw [Qfx (by omega)];have:=Qg8 (stK l r k) (gR l k);have:=QgW l r k (by omega);omega
theorem Qlq {l:List Rn}{k:Nat}(h:k<l.length):gR l k∈l:=by simp [gR,List.getD,h]
theorem QjE {l:List Rn}{r:Rn}(hl:∀p∈l,Bnd p)(hr:Bnd r):∀k,k<=l.length ->Bnd (stK l r k).2.1
 | 0,_=>by simpa [stK] using hr
 | k+1,h=>by rw [Qfx (by omega)];exact Qg7 (QjE hl hr k (by omega)) (hl _ (Qlq (by omega)))
theorem Qck {r t r' f' f t':Int}:QaE r t r' f'=true↔Apt (r,f,t) (r',f',t'):=by unfold QaE Apt;simp
structure IL (w wr:World)(u5 u6:Value)(sb:List Rn)(qr qf qt:Int)(sa:List Rn):Prop where
 b:FR wr (w.heap.size+1) u5 sb
 a:FR wr (w.heap.size+1) u6 sa
 ne:∀g,u5.ownBlock=some g ->u6.ownBlock≠some g
 nb:u5.ownBlock≠none
 na:u6.ownBlock≠none
 bel:Below w.heap.size w wr
 sz:w.heap.size+1<=wr.heap.size
 c0:wr.cell? ⟨w.heap.size,0,none⟩=some (.int .i64 qr)
 c1:wr.cell? ⟨w.heap.size,1,none⟩=some (.int .i64 qf)
 c2:wr.cell? ⟨w.heap.size,2,none⟩=some (.int .i64 qt)
 f1:wr.frozen? ⟨w.heap.size,1,none⟩=false
 f2:wr.frozen? ⟨w.heap.size,2,none⟩=false
theorem IL.box5 {w wr:World}{u5 u6:Value}{sb sa:List Rn}{qr qf qt:Int}(h:IL w wr u5 u6 sb qr qf qt sa):some w.heap.size≠u5.ownBlock:=fun e=>by have:=(World.ownsRow.lt h.b _ e.symm).1;omega
theorem IL.below {w wr w1:World}{u5 u6:Value}{sb sa:List Rn}{qr qf qt:Int}(h:IL w wr u5 u6 sb qr qf qt sa)(hb:Below wr.heap.size wr w1):IL w w1 u5 u6 sb qr qf qt sa:=by
 have j:=h.sz;have k:=hb.size;exact⟨Qem h.b hb,Qem h.a hb,h.ne,h.nb,h.na,h.bel.trans (hb.mono (by omega)),by omega,(hb.cell (p:=⟨w.heap.size,0,none⟩) (show w.heap.size<wr.heap.size by omega)).trans h.c0,(hb.cell (p:=⟨w.heap.size,1,none⟩) (show w.heap.size<wr.heap.size by omega)).trans h.c1,(hb.cell (p:=⟨w.heap.size,2,none⟩) (show w.heap.size<wr.heap.size by omega)).trans h.c2,((Qcs hb).2 w.heap.size 1 (by omega)).trans h.f1,((Qcs hb).2 w.heap.size 2 (by omega)).trans h.f2⟩
theorem IL.app5 {w wr w1:World}{u5 u6 v:Value}{sb sa:List Rn}{qr qf qt:Int}(h:IL w wr u5 u6 sb qr qf qt sa)(p:Rn)(hown:w1.ownsRow (w.heap.size+1) 79 3 v (sb.length+1) (Qas sb++[.int .i64 p.1,.int .i64 p.2.1,.int .i64 p.2.2]))
  (hg:wr.grownBy w1 u5.ownBlock) (hloc:v.ownBlock=u5.ownBlock \/v.ownBlock=some wr.heap.size):IL w w1 v u6 (sb++[p]) qr qf qt sa:=by
 have r:=h.sz;have u:=hg.size;have m:=h.box5;have q:=hg.block w.heap.size (by omega) m;refine⟨?_,World.ownsRow.kept h.a hg ?_,fun g e1 e2=> ?_,?_,h.na,h.bel.grown hg (by omega) (fun k hk=>by have:=(World.ownsRow.lt h.b k hk).1;omega),by omega,hg.cell h.c0 m,hg.cell h.c1 m,hg.cell h.c2 m,(World.frozen?_of_block q).trans h.f1,(World.frozen?_of_block q).trans h.f2⟩
 ·unfold FR;rw [Qcz,List.length_append];exact hown
 ·cases e:u6.ownBlock with
  | none=>exact .inl rfl
  | some g=>exact .inr (fun e2=>h.ne g e2.symm e)
 ·rcases hloc with j|j
  ·exact h.ne g (j ▸ e1) e2
  ·rw [j] at e1;injection e1 with e1;have:=(World.ownsRow.lt h.a g e2).2;omega
 ·rcases hloc with j|j
  ·rw [j];exact h.nb
  ·rw [j];simp
theorem IL.app6 {w wr w1:World}{u5 u6 v:Value}{sb sa:List Rn}{qr qf qt:Int}(h:IL w wr u5 u6 sb qr qf qt sa)(p:Rn)(hown:w1.ownsRow (w.heap.size+1) 79 3 v (sa.length+1) (Qas sa++[.int .i64 p.1,.int .i64 p.2.1,.int .i64 p.2.2]))
  (hg:wr.grownBy w1 u6.ownBlock) (hloc:v.ownBlock=u6.ownBlock \/v.ownBlock=some wr.heap.size):IL w w1 u5 v sb qr qf qt (sa++[p]):=by
 have k:IL w wr u6 u5 sa qr qf qt sb:=⟨h.a,h.b,fun g e1 e2=>h.ne g e2 e1,h.na,h.nb,h.bel,h.sz,h.c0,h.c1,h.c2,h.f1,h.f2⟩;have j:=k.app5 p hown hg hloc;exact⟨j.a,j.b,fun g e1 e2=>j.ne g e2 e1,j.na,j.nb,j.bel,j.sz,j.c0,j.c1,j.c2,j.f1,j.f2⟩
theorem IL.row_set {w wr:World}{v:Value}{l:List Rn}(h:FR wr (w.heap.size+1) v l)(i:Nat)(u:Value):FR (wr.setCell ⟨w.heap.size,i,none⟩ u) (w.heap.size+1) v l:=by
 refine World.ownsRow.kept h (Qbe wr ⟨w.heap.size,i,none⟩ u) ?_;cases e:v.ownBlock with
 | none=>exact .inl rfl
 | some g=>exact .inr (fun j=>by have:=(World.ownsRow.lt h g e).1;injection j with j;have j:g=w.heap.size:=j;omega)
theorem IL.set1 {w wr:World}{u5 u6:Value}{sb sa:List Rn}{qr qf qt:Int}(h:IL w wr u5 u6 sb qr qf qt sa)(z:Int):IL w (wr.setCell ⟨w.heap.size,1,none⟩ (.int .i64 z)) u5 u6 sb qr z qt sa:=
 ⟨IL.row_set h.b _ _,IL.row_set h.a _ _,h.ne,h.nb,h.na,h.bel.setCell (p:=⟨w.heap.size,1,none⟩) zL _,by simpa using h.sz,(World.cell?_setCell_other _ _ _ _ (by simp)).trans h.c0,World.cell?_setCell_same _ _ _ h.c1,(World.cell?_setCell_other _ _ _ _ (by simp)).trans h.c2,by simpa using h.f1,by simpa using h.f2⟩
theorem IL.set2 {w wr:World}{u5 u6:Value}{sb sa:List Rn}{qr qf qt:Int}(h:IL w wr u5 u6 sb qr qf qt sa)(z:Int):IL w (wr.setCell ⟨w.heap.size,2,none⟩ (.int .i64 z)) u5 u6 sb qr qf z sa:=
 ⟨IL.row_set h.b _ _,IL.row_set h.a _ _,h.ne,h.nb,h.na,h.bel.setCell (p:=⟨w.heap.size,2,none⟩) zL _,by simpa using h.sz,(World.cell?_setCell_other _ _ _ _ (by simp)).trans h.c0,(World.cell?_setCell_other _ _ _ _ (by simp)).trans h.c1,World.cell?_setCell_same _ _ _ h.c2,by simpa using h.f1,by simpa using h.f2⟩
theorem IL.drew {w wr:World}{u5 u6:Value}{sb sa:List Rn}{qr qf qt:Int}(h:IL w wr u5 u6 sb qr qf qt sa):IL w wr.drew u5 u6 sb qr qf qt sa:=h.below zI.drew
theorem Qe4 (l:List Rn):∀u∈Qas l,u.oneCell'=true:=by
 intro u j;unfold Qas at j;obtain⟨p,_,h⟩:=List.mem_flatMap.1 j;simp at h;rcases h with rfl|rfl|rfl<;>rfl
theorem QeZ (l l':List Rn):Qas (l++l')=Qas l++Qas l':=by simp [Qas]
theorem QeG (r f t r' f' t':Int)(w:World)(h0: -2000000000<=t)(h1:t<=2000000000):
  Calls Tryz.prog 93 #[.agg #[.int .i64 r,.int .i64 f,.int .i64 t],.agg #[.int .i64 r',.int .i64 f',.int .i64 t']] w fun e w'=>e=.returned (.bool (QaE r t r' f'))/\ Below w.heap.size w w':=by
 by_cases q:r<r'
 ·have j:=hid (Qbl (t:=t) (f':=f') (.inl q));go_enter Tryz.func93,Tryz.ntmps93;go_wp2_with fail;go_ret;exact⟨QbD j.symm,Qak _ _ _⟩
 ·by_cases k:r=r'
  ·subst k;by_cases m:t+1<f'
   ·have j:=hid (Qbl (r:=r) (r':=r) (.inr ⟨rfl,m⟩));go_enter Tryz.func93,Tryz.ntmps93;go_wp2_with fail;go_ret;exact⟨QbD j.symm,Qak _ _ _⟩
   ·have j:=hid (Qba (r:=r) (r':=r) (t:=t) (f':=f') (by omega));go_enter Tryz.func93,Tryz.ntmps93;go_wp2_with fail;go_ret;exact⟨QbD j.symm,Qak _ _ _⟩
  ·have m:(r==r')=false:=by simp;exact k
   have j:=hid (Qba (r:=r) (r':=r') (t:=t) (f':=f') (by omega));go_enter Tryz.func93,Tryz.ntmps93;go_wp2_with fail;go_ret;exact⟨QbD j.symm,Qak _ _ _⟩
theorem QkL (a:Option Addr)(c:Nat)(l:List Rn)(rr rf rt:Int)(w:World)(hn:l.length<=100000)(h:FS w a l)(hl:∀p∈l,Bnd p)(hr:Bnd (rr,rf,rt)):
  Calls Tryz.prog 118 #[.slice a l.length c,.agg #[.int .i64 rr,.int .i64 rf,.int .i64 rt]] w fun e w'=>∃v,e=.returned v/\ FR w' w.heap.size v (ins l (rr,rf,rt))/\ Below w.heap.size w w':=by
 obtain⟨i0,hi,Hs,Ht,Hu⟩:=info_parts Tryz.infoRun;obtain⟨s,Hj⟩:∃s,stK l (rr,rf,rt)=s:=⟨_,rfl⟩;obtain⟨n,R⟩:∃n,l.length=n:=⟨_,rfl⟩;have HI:Hid (∀k,k<=n ->Bnd (s k).2.1):=by rw [<- Hj,<- R];exact hid (QjE hl hr)
 have HS:Hid (∀k,k<n ->s (k+1)=QaI (s k) (gR l k)):=by rw [<- Hj,<- R];exact hid fun k F=>Qfx F
 have HZ:Hid (s 0=([],(rr,rf,rt),[])):=by rw [<- Hj];exact hid rfl
 have HE:Hid (ins l (rr,rf,rt)=(s n).1++[(s n).2.1]++(s n).2.2):=by rw [<- Hj,<- R,QjD];exact hid rfl
 have Hz:Hid (∀k,k<=n ->(s k).1.length+(s k).2.2.length<=k):=by rw [<- Hj,<- R];exact hid (QgW l _)
 have Gc:Hid (∀k,k<n ->Bnd (gR l k)):=by rw [<- R];exact hid fun k F=>hl _ (Qlq F)
 have Gb:Hid (n=0 \/∃g off,a=some ⟨g,off,none⟩/\ g<w.heap.size/\∀i,i<n ->w.cell? ⟨g,off+i*3,none⟩=some (.int .i64 (gR l i).1)/\ w.cell? ⟨g,off+i*3+1,none⟩=some (.int .i64 (gR l i).2.1)/\ w.cell? ⟨g,off+i*3+2,none⟩=some (.int .i64 (gR l i).2.2)):=by rw [<- R];exact hid h
 rw [R] at hn ⊢;clear Hj R h hl;obtain⟨Q,L⟩:∃Q,w.alloc (.cells #[.int .i64 rr,.int .i64 rf,.int .i64 rt] 79)=Q:=⟨_,rfl⟩;have z0:Q.heap.size=w.heap.size+1:=by rw [<- L];simp
 have H7:Hid (Below w.heap.size w Q):=by rw [<- L];exact hid (zO _ _)
 have x0:Q.cell? ⟨w.heap.size,0,none⟩=some (.int .i64 rr):=by rw [<- L];simp
 have x1:Q.cell? ⟨w.heap.size,1,none⟩=some (.int .i64 rf):=by rw [<- L];simp
 have x2:Q.cell? ⟨w.heap.size,2,none⟩=some (.int .i64 rt):=by rw [<- L];simp
 have y1:Q.frozen? ⟨w.heap.size,1,none⟩=false:=by rw [<- L];simp
 have y2:Q.frozen? ⟨w.heap.size,2,none⟩=false:=by rw [<- L];simp
 go_enter Tryz.func118,Tryz.ntmps118;go_wp2_with fail;try rw [L]
 have Hn:Hid (IL w ((Q.alloc (.cells #[] 79)).alloc (.cells #[] 79)) (.slice (some ⟨w.heap.size+1,0,none⟩) 0 0) (.slice (some ⟨w.heap.size+1+1,0,none⟩) 0 0) [] rr rf rt []):=by
  refine hid ?_;have J:Below Q.heap.size Q ((Q.alloc (.cells #[] 79)).alloc (.cells #[] 79)):=Qak _ _ _;have q1:=World.ownsRow_lit (base:=w.heap.size+1) (e:=79) (size:=3) Q #[] 0 (by omega) (by unfold maxLen;omega) rfl;have q2:=World.ownsRow_lit (base:=w.heap.size+1) (e:=79) (size:=3) (Q.alloc (.cells #[] 79)) #[] 0 (by simp;omega) (by unfold maxLen;omega) rfl;have zz:(Q.alloc (.cells #[] 79)).heap.size=w.heap.size+1+1:=by simp;omega
  rw [z0] at q1;rw [zz] at q2;refine⟨World.ownsRow.alloc q1 _,q2,fun g e1 e2=> ?_,by simp [Value.ownBlock],by simp [Value.ownBlock],H7.trans (J.mono (by omega)),by simp;omega,(J.cell (p:=⟨w.heap.size,0,none⟩) (show w.heap.size<_ by omega)).trans x0,(J.cell (p:=⟨w.heap.size,1,none⟩) (show w.heap.size<_ by omega)).trans x1,(J.cell (p:=⟨w.heap.size,2,none⟩) (show w.heap.size<_ by omega)).trans x2,((Qcs J).2 w.heap.size 1 (by omega)).trans y1,((Qcs J).2 w.heap.size 2 (by omega)).trans y2⟩;simp [Value.ownBlock] at e1 e2;omega
 clear x0 x1 x2 y1 y2 z0 L;go_loopw [5,6,7] (fun u5 u6 iv wr=>∃(k:Nat),k<=n/\ iv=.int .i64 k/\ Hid (IL w wr u5 u6 (s k).1 (s k).2.1.1 (s k).2.1.2.1 (s k).2.1.2.2 (s k).2.2)) (fun _ _ iv _=>n - (intOf iv).toNat);case atStart=>exact⟨0,Nat.zero_le _,rfl,by rw [HZ.out];exact Hn⟩
 case round=>
  clear Hn;obtain⟨k,F,rfl,E⟩:=hrel;have Hg:=HI k F;by_cases N:k<n
  ·have Hd:=HS k N;have Hw:=Hz k F;have H2:=Gc k N;have Ho:∃g off,a=some ⟨g,off,none⟩/\ g<w.heap.size/\ w.cell? ⟨g,off+k*3,none⟩=some (.int .i64 (gR l k).1)/\ w.cell? ⟨g,off+k*3+1,none⟩=some (.int .i64 (gR l k).2.1)/\ w.cell? ⟨g,off+k*3+2,none⟩=some (.int .i64 (gR l k).2.2):=by
    rcases Gb.out with h|⟨g,off,e,hg,hc⟩
    ·omega
    ·exact⟨g,off,e,hg,hc k N⟩
   obtain⟨g,off,rfl,hg,p0,p1,p2⟩:=Ho;generalize Hr:s k=sk at*;obtain⟨O,⟨t,z,q⟩,M⟩:=sk;generalize H0:gR l k=gk at*;obtain⟨U,y,m⟩:=gk;simp only at p0 p1 p2 E Hw;unfold Bnd at Hg H2;simp only at Hg H2;have Hv:=hid Hd;have HP:=hid (And.intro p0 (And.intro p1 p2));have e0:=(E.bel.cell (p:=⟨g,off+k*3,none⟩) hg).trans p0;have e1:=(E.bel.cell (p:=⟨g,off+k*3+1,none⟩) hg).trans p1;have e2:=(E.bel.cell (p:=⟨g,off+k*3+2,none⟩) hg).trans p2;have B:=E.c0;have C:=E.c1;have G:=E.c2;have zr:=E.sz;have HK:=hid Hr;have Gh:=hid H0;clear Hd Hr H0 p0 p1 p2;go_wp2_with fail;refine zR (S:=fun w'=>w'.cell? ⟨g,off+k*3,none⟩=some (.int .i64 U)/\ w'.cell? ⟨g,off+k*3+1,none⟩=some (.int .i64 y)/\ w'.cell? ⟨g,off+k*3+2,none⟩=some (.int .i64 m)/\ w'.cell? ⟨w.heap.size,0,none⟩=some (.int .i64 t)/\ w'.cell? ⟨w.heap.size,1,none⟩=some (.int .i64 z)/\ w'.cell? ⟨w.heap.size,2,none⟩=some (.int .i64 q)) ⟨e0,e1,e2,B,C,G⟩ (fun qh=> ?_);refine tZ 0 16 ?_;refine tZ 1 17 ?_;refine tZ 2 18 ?_;refine tZ 3 19 ?_;refine tZ 4 20 ?_;refine cZ 5 ?_;intro K hK;go_simp;refine(QeG U y m t z q _ (by omega) (by omega)).mono ?_;rintro e w1 ⟨rfl,b1⟩;have Hh:Below wr.heap.size wr w1:=(Below.refl _ wr).drew.trans b1;have Ha:=hid (E.below Hh);have z1:=Hh.size;have s0:=(Hh.cell (p:=⟨g,off+k*3,none⟩) (show g<wr.heap.size by omega)).trans e0;have s1:=(Hh.cell (p:=⟨g,off+k*3+1,none⟩) (show g<wr.heap.size by omega)).trans e1;have s2:=(Hh.cell (p:=⟨g,off+k*3+2,none⟩) (show g<wr.heap.size by omega)).trans e2;have t0:=Ha.c0;have t1:=Ha.c1;have t2:=Ha.c2;refine hK.out _ _ ⟨s0,s1,s2,t0,t1,t2⟩ (fun qh=> ?_);clear hK K;try simp only [zP]
   refine zD ?_;clear qh e0 e1 e2 B C G b1 Hh E;by_cases hA:Apt (U,y,m) (t,z,q)
   ·rw [show QaE U m t z=true from Qck.2 hA];have X:Hid (s (k+1)=(O++[(U,y,m)],(t,z,q),M)):=by
     refine hid ?_;rw [Hv.out];unfold QaI;simp only;rw [if_pos hA]
    clear t0 t1 t2;go_wp2_with (at_builtin;refine Qai rfl _ _ 25 rfl (w.heap.size+1) 79 i0 _ 3 24 Tryz.underlying25 hi Hs Ht Hu rfl (by decide) _ _ _ rfl (World.ownsRow.alloc Ha.b _) ⟨w1.heap.size,0,none⟩ 1 1 [.int .i64 U,.int .i64 y,.int .i64 m] rfl rfl ?n1 ?n2 ?n3 ?n4 ?n5 ?_);try (case n1=>exact Qa1 _ _ _ _ _)
    case n2=>first|exact⟨rfl,rfl,rfl⟩|(intro u W;simp at W;rcases W with rfl|rfl|rfl<;>rfl)
    case n3=>unfold maxLen;omega
    case n4=>omega
    case n5=>first|omega|(simp;omega)
    intro v7 w7 T D P;have I:=hid ((Ha.below (zO _ _)).app5 (U,y,m) T D (by simpa using P));clear T D P s0 s1 s2;go_wp2_with fail;go_roundw;case rel=>exact⟨k+1,N,by go_num,by rw [X.out];exact I⟩
    case measure=>simp [intOf];omega
   ·rw [show QaE U m t z=false from by rw [<- Bool.not_eq_true];exact fun h=>hA (Qck.1 h)];have HA:=hid hA;have v0:=t0;have v1:=t1;have v2:=t2;go_wp2_with fail;refine zR (S:=fun w'=>w'.cell? ⟨g,off+k*3,none⟩=some (.int .i64 U)/\ w'.cell? ⟨g,off+k*3+1,none⟩=some (.int .i64 y)/\ w'.cell? ⟨g,off+k*3+2,none⟩=some (.int .i64 m)/\ w'.cell? ⟨w.heap.size,0,none⟩=some (.int .i64 t)/\ w'.cell? ⟨w.heap.size,1,none⟩=some (.int .i64 z)/\ w'.cell? ⟨w.heap.size,2,none⟩=some (.int .i64 q)) ⟨s0,s1,s2,v0,v1,v2⟩ (fun qh=> ?_);refine tZ 0 29 ?_;refine tZ 1 30 ?_;refine tZ 2 31 ?_;refine tZ 3 32 ?_;refine tZ 4 33 ?_;refine cZ 5 ?_;intro K hK;go_simp;refine(QeG t z q U y m _ (by omega) (by omega)).mono ?_;rintro e w2 ⟨rfl,J⟩;have Hi:Below w1.heap.size w1 w2:=(Below.refl _ w1).drew.trans J;have H:=hid (Ha.below Hi);have z2:=Hi.size;have H3:=(Hi.cell (p:=⟨g,off+k*3,none⟩) (show g<w1.heap.size by omega)).trans s0;have Hk:=(Hi.cell (p:=⟨g,off+k*3+1,none⟩) (show g<w1.heap.size by omega)).trans s1;have Hl:=(Hi.cell (p:=⟨g,off+k*3+2,none⟩) (show g<w1.heap.size by omega)).trans s2;have H4:=H.c0;have Hm:=H.c1;have H5:=H.c2;refine hK.out _ _ ⟨H3,Hk,Hl,H4,Hm,H5⟩ (fun qh=> ?_);clear hK K;try simp only [zP]
    refine zD ?_;clear qh J Hi s0 s1 s2 t0 t1 t2 v0 v1 v2 Ha;by_cases hB:Apt (t,z,q) (U,y,m)
    ·rw [show QaE t q U y=true from Qck.2 hB];have X:Hid (s (k+1)=(O,(t,z,q),M++[(U,y,m)])):=by
      refine hid ?_;rw [Hv.out];unfold QaI;simp only;rw [if_neg HA.out,if_pos hB]
     clear H4 Hm H5;go_wp2_with (at_builtin;refine Qai rfl _ _ 25 rfl (w.heap.size+1) 79 i0 _ 3 24 Tryz.underlying25 hi Hs Ht Hu rfl (by decide) _ _ _ rfl (World.ownsRow.alloc H.a _) ⟨w2.heap.size,0,none⟩ 1 1 [.int .i64 U,.int .i64 y,.int .i64 m] rfl rfl ?m1 ?m2 ?m3 ?m4 ?m5 ?_);try (case m1=>exact Qa1 _ _ _ _ _)
     case m2=>first|exact⟨rfl,rfl,rfl⟩|(intro u W;simp at W;rcases W with rfl|rfl|rfl<;>rfl)
     case m3=>unfold maxLen;omega
     case m4=>omega
     case m5=>first|omega|(simp;omega)
     intro v7 w7 T D P;have I:=hid ((H.below (zO _ _)).app6 (U,y,m) T D (by simpa using P));clear T D P H3 Hk Hl;go_wp2_with fail;go_roundw;case rel=>exact⟨k+1,N,by go_num,by rw [X.out];exact I⟩
     case measure=>simp [intOf];omega
    ·rw [show QaE t q U y=false from by rw [<- Bool.not_eq_true];exact fun h=>hB (Qck.1 h)];have X:Hid (s (k+1)=(O,(t,min y z,max m q),M)):=by
      refine hid ?_;rw [Hv.out];unfold QaI;simp only;rw [if_neg HA.out,if_neg hB]
     have Hy:=hid H.f1;have Gg:=hid H.f2;clear hB;have H1:g≠w.heap.size:=by omega
     by_cases h1:y<z
     ·by_cases h2:q<m
      ·have d1:decide (y<z)=true:=by simp;exact h1
       have He:Hid (min y z=y):=hid (by omega);have d2:decide (q<m)=true:=by simp;exact h2
       have Hf:Hid (max m q=m):=hid (by omega);clear h1 h2;go_wp2_with fail;refine zR (S:=fun w'=>w'.cell? ⟨g,off+k*3+1,none⟩=some (.int .i64 y)/\ w'.cell? ⟨w.heap.size,1,none⟩=some (.int .i64 z)) ⟨Hk,Hm⟩ (fun qh=> ?_);refine tZ 0 42 ?_;refine tZ 1 43 ?_;refine tZ 2 44 ?_;refine tZ 3 45 ?_;refine tZ 4 46 ?_;refine tZ 5 47 ?_;refine tZ 6 48 ?_;refine tZ 7 49 ?_;refine zD ?_;clear qh;have f1:=Hy.out;obtain⟨o,A⟩:∃o,(w2.setCell ⟨w.heap.size,1,none⟩ (.int .i64 y)).drew=o:=⟨_,rfl⟩;have Z:Hid (IL w o u5 u6 O t y q M):=by rw [<- A];exact hid (H.set1 y).drew
       have r2:o.cell? ⟨g,off+k*3+2,none⟩=some (.int .i64 m):=by rw [<- A];exact(World.cell?_setCell_far w2 ⟨w.heap.size,1,none⟩ _ _ (fun e=>H1 e.symm)).trans Hl
       go_wp2_with fail;try rw [A]
       try clear f1 A
       have t3:=Z.c2;refine zR (S:=fun w'=>w'.cell? ⟨g,off+k*3+2,none⟩=some (.int .i64 m)/\ w'.cell? ⟨w.heap.size,2,none⟩=some (.int .i64 q)) ⟨r2,t3⟩ (fun qh=> ?_);refine tZ 0 56 ?_;refine tZ 1 57 ?_;refine tZ 2 58 ?_;refine tZ 3 59 ?_;refine tZ 4 60 ?_;refine tZ 5 61 ?_;refine tZ 6 62 ?_;refine tZ 7 63 ?_;refine zD ?_;clear qh;have f2:=Z.f2;obtain⟨V,Y⟩:∃V,(o.setCell ⟨w.heap.size,2,none⟩ (.int .i64 m)).drew=V:=⟨_,rfl⟩;have Hb:Hid (IL w V u5 u6 O t y m M):=by rw [<- Y];exact hid (Z.set2 m).drew
       go_wp2_with fail;try rw [Y]
       try clear f2 Y
       go_roundw;case rel=>exact⟨k+1,N,by go_num,by rw [X.out,He.out,Hf.out];exact Hb⟩
       case measure=>simp [intOf];omega
      ·have d1:decide (y<z)=true:=by simp;exact h1
       have He:Hid (min y z=y):=hid (by omega);have d2:decide (q<m)=false:=by simp;omega
       have Hf:Hid (max m q=q):=hid (by omega);clear h1 h2;go_wp2_with fail;refine zR (S:=fun w'=>w'.cell? ⟨g,off+k*3+1,none⟩=some (.int .i64 y)/\ w'.cell? ⟨w.heap.size,1,none⟩=some (.int .i64 z)) ⟨Hk,Hm⟩ (fun qh=> ?_);refine tZ 0 42 ?_;refine tZ 1 43 ?_;refine tZ 2 44 ?_;refine tZ 3 45 ?_;refine tZ 4 46 ?_;refine tZ 5 47 ?_;refine tZ 6 48 ?_;refine tZ 7 49 ?_;refine zD ?_;clear qh;have f1:=Hy.out;obtain⟨o,A⟩:∃o,(w2.setCell ⟨w.heap.size,1,none⟩ (.int .i64 y)).drew=o:=⟨_,rfl⟩;have Z:Hid (IL w o u5 u6 O t y q M):=by rw [<- A];exact hid (H.set1 y).drew
       have r2:o.cell? ⟨g,off+k*3+2,none⟩=some (.int .i64 m):=by rw [<- A];exact(World.cell?_setCell_far w2 ⟨w.heap.size,1,none⟩ _ _ (fun e=>H1 e.symm)).trans Hl
       go_wp2_with fail;try rw [A]
       try clear f1 A
       have t3:=Z.c2;refine zR (S:=fun w'=>w'.cell? ⟨g,off+k*3+2,none⟩=some (.int .i64 m)/\ w'.cell? ⟨w.heap.size,2,none⟩=some (.int .i64 q)) ⟨r2,t3⟩ (fun qh=> ?_);refine tZ 0 56 ?_;refine tZ 1 57 ?_;refine tZ 2 58 ?_;refine tZ 3 59 ?_;refine tZ 4 60 ?_;refine tZ 5 61 ?_;refine tZ 6 62 ?_;refine tZ 7 63 ?_;refine zD ?_;clear qh;obtain⟨V,Y⟩:∃V,o.drew=V:=⟨_,rfl⟩;have Hb:Hid (IL w V u5 u6 O t y q M):=by rw [<- Y];exact hid Z.drew
       go_wp2_with fail;try rw [Y]
       try clear Y
       go_roundw;case rel=>exact⟨k+1,N,by go_num,by rw [X.out,He.out,Hf.out];exact Hb⟩
       case measure=>simp [intOf];omega
     ·by_cases h2:q<m
      ·have d1:decide (y<z)=false:=by simp;omega
       have He:Hid (min y z=z):=hid (by omega);have d2:decide (q<m)=true:=by simp;exact h2
       have Hf:Hid (max m q=m):=hid (by omega);clear h1 h2;go_wp2_with fail;refine zR (S:=fun w'=>w'.cell? ⟨g,off+k*3+1,none⟩=some (.int .i64 y)/\ w'.cell? ⟨w.heap.size,1,none⟩=some (.int .i64 z)) ⟨Hk,Hm⟩ (fun qh=> ?_);refine tZ 0 42 ?_;refine tZ 1 43 ?_;refine tZ 2 44 ?_;refine tZ 3 45 ?_;refine tZ 4 46 ?_;refine tZ 5 47 ?_;refine tZ 6 48 ?_;refine tZ 7 49 ?_;refine zD ?_;clear qh;obtain⟨o,A⟩:∃o,w2.drew=o:=⟨_,rfl⟩;have Z:Hid (IL w o u5 u6 O t z q M):=by rw [<- A];exact hid H.drew
       have r2:o.cell? ⟨g,off+k*3+2,none⟩=some (.int .i64 m):=by rw [<- A];exact Hl
       go_wp2_with fail;try rw [A]
       try clear A
       have t3:=Z.c2;refine zR (S:=fun w'=>w'.cell? ⟨g,off+k*3+2,none⟩=some (.int .i64 m)/\ w'.cell? ⟨w.heap.size,2,none⟩=some (.int .i64 q)) ⟨r2,t3⟩ (fun qh=> ?_);refine tZ 0 56 ?_;refine tZ 1 57 ?_;refine tZ 2 58 ?_;refine tZ 3 59 ?_;refine tZ 4 60 ?_;refine tZ 5 61 ?_;refine tZ 6 62 ?_;refine tZ 7 63 ?_;refine zD ?_;clear qh;have f2:=Z.f2;obtain⟨V,Y⟩:∃V,(o.setCell ⟨w.heap.size,2,none⟩ (.int .i64 m)).drew=V:=⟨_,rfl⟩;have Hb:Hid (IL w V u5 u6 O t z m M):=by rw [<- Y];exact hid (Z.set2 m).drew
       go_wp2_with fail;try rw [Y]
       try clear f2 Y
       go_roundw;case rel=>exact⟨k+1,N,by go_num,by rw [X.out,He.out,Hf.out];exact Hb⟩
       case measure=>simp [intOf];omega
      ·have d1:decide (y<z)=false:=by simp;omega
       have He:Hid (min y z=z):=hid (by omega);have d2:decide (q<m)=false:=by simp;omega
       have Hf:Hid (max m q=q):=hid (by omega);clear h1 h2;go_wp2_with fail;refine zR (S:=fun w'=>w'.cell? ⟨g,off+k*3+1,none⟩=some (.int .i64 y)/\ w'.cell? ⟨w.heap.size,1,none⟩=some (.int .i64 z)) ⟨Hk,Hm⟩ (fun qh=> ?_);refine tZ 0 42 ?_;refine tZ 1 43 ?_;refine tZ 2 44 ?_;refine tZ 3 45 ?_;refine tZ 4 46 ?_;refine tZ 5 47 ?_;refine tZ 6 48 ?_;refine tZ 7 49 ?_;refine zD ?_;clear qh;obtain⟨o,A⟩:∃o,w2.drew=o:=⟨_,rfl⟩;have Z:Hid (IL w o u5 u6 O t z q M):=by rw [<- A];exact hid H.drew
       have r2:o.cell? ⟨g,off+k*3+2,none⟩=some (.int .i64 m):=by rw [<- A];exact Hl
       go_wp2_with fail;try rw [A]
       try clear A
       have t3:=Z.c2;refine zR (S:=fun w'=>w'.cell? ⟨g,off+k*3+2,none⟩=some (.int .i64 m)/\ w'.cell? ⟨w.heap.size,2,none⟩=some (.int .i64 q)) ⟨r2,t3⟩ (fun qh=> ?_);refine tZ 0 56 ?_;refine tZ 1 57 ?_;refine tZ 2 58 ?_;refine tZ 3 59 ?_;refine tZ 4 60 ?_;refine tZ 5 61 ?_;refine tZ 6 62 ?_;refine tZ 7 63 ?_;refine zD ?_;clear qh;obtain⟨V,Y⟩:∃V,o.drew=V:=⟨_,rfl⟩;have Hb:Hid (IL w V u5 u6 O t z q M):=by rw [<- Y];exact hid Z.drew
       go_wp2_with fail;try rw [Y]
       try clear Y
       go_roundw;case rel=>exact⟨k+1,N,by go_num,by rw [X.out,He.out,Hf.out];exact Hb⟩
       case measure=>simp [intOf];omega
  ·obtain rfl:k=n:=by omega
   have Hw:=Hz k zL;generalize Hr:s k=sk at*;obtain⟨O,⟨t,z,q⟩,M⟩:=sk;simp only at E Hw;have B:=E.c0;have C:=E.c1;have G:=E.c2;have zr:=E.sz;clear Hr Hg;go_wp2_with (at_builtin;refine Qai rfl _ _ 25 rfl (w.heap.size+1) 79 i0 _ 3 24 Tryz.underlying25 hi Hs Ht Hu rfl (by decide) _ _ _ rfl (World.ownsRow.alloc E.b _) ⟨wr.heap.size,0,none⟩ 1 1 [.int .i64 t,.int .i64 z,.int .i64 q] rfl rfl ?o1 ?o2 ?o3 ?o4 ?o5 ?_);try (case o1=>exact Qa1 _ _ _ _ _)
   case o2=>first|exact⟨rfl,rfl,rfl⟩|(intro u W;simp at W;rcases W with rfl|rfl|rfl<;>rfl)
   case o3=>unfold maxLen;omega
   case o4=>omega
   case o5=>first|omega|(simp;omega)
   intro v7 w7 T D P;have I:=hid ((E.below (zO _ _)).app5 (t,z,q) T D (by simpa using P));clear T D P B C G E;have Hx:=I.na;have H6:=hid I.a;have Gj:=I.sz;rcases I.a.2 with ⟨e,_⟩|⟨g6,c6,Ge,e,_,_,Gi,Gf,_,_⟩
   ·rw [e] at Hx;exact absurd rfl Hx
   subst e;unfold maxLen at Gf;have H9:Hid (∀j u,(Qas M)[j]? =some u ->w7.cell? ((⟨g6,0,none⟩:Addr).add j)=some u):=hid (World.ownsRow.cells H6.out rfl);clear Hx;go_wp2_with (at_builtin;refine Qai rfl _ _ 25 rfl (w.heap.size+1) 79 i0 _ 3 24 Tryz.underlying25 hi Hs Ht Hu rfl (by decide) v7 (O++[(t,z,q)]).length (Qas (O++[(t,z,q)])) rfl I.b ⟨g6,0,none⟩ M.length c6 (Qas M) rfl (Qe3 M) H9.out (Qe4 M) ?r3 ?r4 ?r5 ?_);case r3=>unfold maxLen;simp;omega
   case r4=>simp;omega
   case r5=>omega
   intro v8 w8 Hc Hp Hq;have H8:Hid (Below w.heap.size w w8):=hid (I.bel.grown Hp (by omega) (fun k F=>by have:=(World.ownsRow.lt I.b k F).1;omega));have Ga:Hid (FR w8 w.heap.size v8 (O++[(t,z,q)]++M)):=by
    refine hid ?_;unfold FR;rw [QeZ,List.length_append,show (O++[(t,z,q)]).length=O.length+1 from by simp];obtain⟨q1,q2⟩:=Hc;refine⟨q1,q2.imp id ?_⟩;rintro⟨g,cap,Gd,e,hg,r⟩;exact⟨g,cap,Gd,e,by omega,r⟩
   clear Hc Hp Hq;go_wp2_with fail;go_ret;exact⟨v8,rfl,by rw [HE.out];exact Ga.out,H8.out⟩
theorem Qfv (a:Option Addr)(c:Nat)(l:List Rn)(rr rf rt:Int)(w:World)(hn:l.length<=100000)(h:FS w a l)(hl:QbV l)(hr:Rok (rr,rf,rt)):
  Calls Tryz.prog 118 #[.slice a l.length c,.agg #[.int .i64 rr,.int .i64 rf,.int .i64 rt]] w fun e w'=>∃v,e=.returned v/\ FR w' w.heap.size v (ins l (rr,rf,rt))/\ Below w.heap.size w w':=QkL a c l rr rf rt w hn h (fun p hp=>(hl.2 p hp).bnd) hr.bnd
def unL (R F T:Nat ->Int)(n:Nat)(R' F' T':Nat ->Int)(n':Nat):List Rn:=unF (flat R F T n) (flat R' F' T' n')
theorem Qms (l:List Rn)(r:Rn):(ins l r).length<=l.length+1:=by
 have:=QgW l r l.length zL;rw [QjD] at this;unfold ins;simp only [List.length_append,List.length_singleton];omega
theorem Qdh:∀(b l:List Rn),(unF l b).length<=l.length+b.length
 | [],l=>by simp [unF]
 | q::b,l=>by
  have j:=Qdh b (ins l q);have k:=Qms l q;show (unF (ins l q) b).length<=_;simp only [List.length_cons];omega
theorem Qd8 (l b:List Rn)(q:Rn):unF l (b++[q])=ins (unF l b) q:=by simp [unF]
theorem Qbp (R F T:Nat ->Int)(n:Nat):(flat R F T n).length=n:=by simp [flat]
theorem Qmj (R F T:Nat ->Int)(n i:Nat)(h:i<n):gR (flat R F T n) i=(R i,F i,T i):=by simp [gR,flat,List.getD,h]
theorem QiK (l:List Rn)(j:Nat)(u:Value)(h:(Qas l)[j]? =some u):j/3<l.length/\ ((j%3=0/\ u=.int .i64 (gR l (j/3)).1) \/(j%3=1/\ u=.int .i64 (gR l (j/3)).2.1) \/(j%3=2/\ u=.int .i64 (gR l (j/3)).2.2)):=by
 induction l generalizing j with
 | nil=>simp [Qas] at h
 | cons a l ih=>
  have e:Qas (a::l)=.int .i64 a.1::.int .i64 a.2.1::.int .i64 a.2.2::Qas l:=by simp [Qas]
  rw [e] at h;match j,h with
  | 0,h=>simp at h;simp [gR,h]
  | 1,h=>simp at h;simp [gR,h]
  | 2,h=>simp at h;simp [gR,h]
  | j+3,h=>
   have h:(Qas l)[j]? =some u:=by simpa using h
   obtain⟨r,q⟩:=ih j h;have k:(j+3)/3=j/3+1:=by omega
   have m:(j+3)%3=j%3:=by omega
   rw [k,m];refine⟨by simp;omega,?_⟩;simpa [gR] using q
theorem Qik {w:World}{g off n:Nat}{R F T:Nat ->Int}(h:Qb5 w (some ⟨g,off,none⟩) n R F T):∀j u,(Qas (flat R F T n))[j]? =some u ->w.cell? ((⟨g,off,none⟩:Addr).add j)=some u:=by
 intro j u z;obtain⟨k,m⟩:=QiK _ j u z;rw [Qbp] at k;obtain⟨b,o,e,i,r,v,y⟩:=h.at k;injection e with e;injection e with e3 e4;subst e3 e4;rw [Qmj _ _ _ _ _ k] at m;have t:j=j/3*3+j%3:=by omega
 rcases m with ⟨q,rfl⟩|⟨q,rfl⟩|⟨q,rfl⟩
 ·rw [Addr.add_lit,show off+j=off+j/3*3 from by omega];exact r
 ·rw [Addr.add_lit,show off+j=off+j/3*3+1 from by omega];exact v
 ·rw [Addr.add_lit,show off+j=off+j/3*3+2 from by omega];exact y
theorem FR.weak {w:World}{B C:Nat}{v:Value}{l:List Rn}(h:FR w B v l)(hc:C<=B):FR w C v l:=by
 obtain⟨k,m⟩:=h;refine⟨k,m.imp id ?_⟩;rintro⟨g,cap,j,e,q,r⟩;exact⟨g,cap,j,e,by omega,r⟩
theorem QgU {P:Program}(w:World)(t ty e:TypeId)(i:TypeInfo)(ht:P.underlying t=some (.slice e))(hi:P.info? e=some i)(base:Option Addr)(n cap c':Nat)(h:n<=cap):
  (Builtin.append_ #[t,t] ty #[.slice base n cap,.slice none 0 c']).run P w=.ok (.slice base n cap) w:=by
 cases base<;>simp [Builtin.append_,run_underlying ht,sizeOf,typeInfo,hi,Builtin.lenOf,Builtin.firstCells,storeCells,loadCells,loadCellsFrom,h,Result.andThen]
theorem Qf4 {P:Program}{w:World}{ops:Array Oper}{rest:List Oper}{o:Oper}{a:Act}{Q:Exit ->Act ->World ->Prop}(hgd:o.guard=none)(s x:Operand)(t:TypeId)
  (ho:o.op=.call {callee:=.builtin .append,args:=#[s,x],argTypes:=#[t,t]})
  (base:Nat) (e:TypeId) (i:TypeInfo) (z:Value) (size bytes:Nat) (ht:P.underlying t=some (.slice e)) (hi:P.info? e=some i) (hz:i.zero=some z)
  (hsize:i.size=size) (hby:i.bytes=bytes) (hzs:z.cells.size=size) (hsz:0<size)
  (v:Value) (n:Nat) (xs:List Value) (hs:a.eval s=v) (hown:w.ownsRow base e size v n xs)
  (ad:Option Addr) (m c:Nat) (news:List Value) (hx:a.eval x=.slice ad m c) (hl:news.length=m*size) (hnews:m=0 \/∃b,ad=some b/\∀j u,news[j]? =some u ->w.cell? (b.add j)=some u) (h1:∀u∈news,u.oneCell'=true)
  (h63:n+m<=maxLen) (hbytes:(n+m)*bytes<=140737488355328) (hbase:base<=w.heap.size)
  (h:∀v' w',w'.ownsRow base e size v' (n+m) (xs++news) ->w.grownBy w' v.ownBlock ->(v'.ownBlock=v.ownBlock \/v'.ownBlock=some w.heap.size) ->wpList P ops Q rest (a.put o.dst v') w'):wpList P ops Q (o::rest) a w:=by
 rcases ad with _|b
 ·obtain rfl:m=0:=by
   rcases hnews with q|⟨_,e,_⟩
   ·exact q
   ·cases e
  obtain rfl:news=[]:=List.length_eq_zero_iff.1 (by omega);obtain⟨b,cap,k,A⟩:∃b cap,v=.slice b n cap/\ n<=cap:=by
   rcases hown.2 with ⟨e,r⟩|⟨g,cap,M,e,_,_,E,_⟩
   ·exact⟨none,0,by rw [e,r],by omega⟩
   ·exact⟨_,cap,e,E⟩
  refine wpList_plain hgd fun _ hK=> ?_;unfold Oper.wp execOp;rw [k] at hs;simp only [ho,resolve,invoke,builtin,Sem.run_bind,Sem.run_pure,Result.andThen_ok,List.map_toArray,List.map_cons,List.map_nil,hs,hx,QgU w _ _ _ i ht hi b n cap c A];refine hK _ _ (h _ _ ?_ ⟨rfl,rfl,rfl,Nat.le_refl _,fun _ _ _=>rfl⟩ (.inl (by rw [k])));rw [List.append_nil,<- k];exact hown
 ·refine Qai hgd s x t ho base e i z size bytes ht hi hz hsize hby hzs hsz v n xs hs hown b m c news hx hl ?_ h1 h63 hbytes hbase h;rcases hnews with q|⟨b',e,y⟩
  ·subst q;obtain rfl:news=[]:=List.length_eq_zero_iff.1 (by omega);intro j u p;simp at p
  ·injection e with e;subst e;exact y
theorem QeH (a:Option Addr)(n c:Nat)(R F T:Nat ->Int)(a':Option Addr)(n' c':Nat)(R' F' T':Nat ->Int)(w:World)(hn:n<=1000)(hn':n'<=1000)(h:Qb5 w a n R F T)(h':Qb5 w a' n' R' F' T')(ho:Qeu R F T n)(ho':Qeu R' F' T' n'):
  Calls Tryz.prog 85 #[.agg #[.slice a n c],.agg #[.slice a' n' c']] w fun e w'=>∃v,e=.returned (.agg #[v])/\ FR w' w.heap.size v (unL R F T n R' F' T' n')/\ Below w.heap.size w w':=by
 obtain⟨i0,hi,H5,H6,H7⟩:=info_parts Tryz.infoRun;obtain⟨t,Z⟩:∃t:Nat ->List Rn,(fun k=>unF (flat R F T n) (flat R' F' T' k))=t:=⟨_,rfl⟩;have Hg:Hid (t 0=flat R F T n):=by rw [<- Z];exact hid rfl
 have H2:Hid (∀k,t (k+1)=ins (t k) (R' k,F' k,T' k)):=by rw [<- Z];exact hid fun k=>by show unF _ (flat R' F' T' (k+1))=_;rw [QcC,Qd8]
 have Hz:Hid (t n'=unL R F T n R' F' T' n'):=by rw [<- Z];exact hid rfl
 have H1:Hid (∀k,(t k).length<=n+k):=by rw [<- Z];exact hid fun k=>by have:=Qdh (flat R' F' T' k) (flat R F T n);rw [Qbp,Qbp] at this;exact this
 have H0:Hid (∀k,k<=n' ->QbV (t k)):=by rw [<- Z];exact hid fun k Y=>(Qds _ _ (Qbx n ho) (Qbx k (fun i hi=>ho' i (by omega))).2).1
 have Hy:Hid (∀k,k<n' ->Rok (R' k,F' k,T' k)):=hid fun k Y=>Qbg.1 (ho' k Y).1;have D:=hid (Qbp R F T n);have B:Hid (n=0 \/∃g off,a=some ⟨g,off,none⟩/\ g<w.heap.size/\∀j u,(Qas (flat R F T n))[j]? =some u ->w.cell? ((⟨g,off,none⟩:Addr).add j)=some u):=by
  rcases Nat.eq_zero_or_pos n with H|H
  ·exact hid (.inl H)
  ·obtain⟨b,o,e,S,_⟩:=h.at H;rw [e] at h;exact hid (.inr ⟨b,o,e,S,Qik h⟩)
 clear Z ho ho';obtain⟨G,Hk⟩:∃G,flat R F T n=G:=⟨_,rfl⟩;rw [Hk] at Hg D B;clear Hk;obtain⟨r,Hi⟩:∃r,((w.alloc (.cells #[.slice a n c] 27)).alloc (.cells #[.slice a' n' c'] 27)).alloc (.cells #[.slice none 0 0] 27)=r:=⟨_,rfl⟩;obtain⟨z,U⟩:∃z,(w.alloc (.cells #[.slice a n c] 27)).alloc (.cells #[.slice a' n' c'] 27)=z:=⟨_,rfl⟩;have za:z.heap.size=w.heap.size+2:=by rw [<- U];simp
 have Hh:Below w.heap.size w z:=by rw [<- U];exact Qak _ _ _
 have Hm:z.cell? ⟨w.heap.size,0,none⟩=some (.slice a n c):=by rw [<- U];simp
 have Hn:z.cell? ⟨w.heap.size+1,0,none⟩=some (.slice a' n' c'):=by rw [<- U];simp
 have I:z.alloc (.cells #[.slice none 0 0] 27)=r:=by rw [<- U];exact Hi
 have K:Below z.heap.size z r:=by rw [<- I];exact zO _ _
 have Ho:Hid (Below w.heap.size w r):=hid (Qac Hh K);have s:Hid (r.heap.size=w.heap.size+3):=hid (by rw [<- I];simp;omega);have x0:r.cell? ⟨w.heap.size,0,none⟩=some (.slice a n c):=(K.cell (p:=⟨w.heap.size,0,none⟩) (show w.heap.size<z.heap.size by omega)).trans Hm;have x1:r.cell? ⟨w.heap.size+1,0,none⟩=some (.slice a' n' c'):=(K.cell (p:=⟨w.heap.size+1,0,none⟩) (show w.heap.size+1<z.heap.size by omega)).trans Hn;have x2:r.cell? ⟨w.heap.size+1+1,0,none⟩=some (.slice none 0 0):=by rw [<- I,show w.heap.size+1+1=z.heap.size from by omega];simp
 have y2:r.frozen? ⟨w.heap.size+1+1,0,none⟩=false:=by rw [<- I,show w.heap.size+1+1=z.heap.size from by omega];simp
 clear U Hm Hn I K Hh za;have Hw:=hid h';have Hs:Hid (∀w1,Below w.heap.size w w1 ->n=0 \/∃ad,a=some ad/\∀j u,(Qas G)[j]? =some u ->w1.cell? (ad.add j)=some u):=by
  refine hid fun w1 S=> ?_;rcases B.out with H|⟨g,off,e,hg,hc⟩
  ·exact .inl H
  ·refine .inr ⟨_,e,fun j u hj=> ?_⟩;have L:=hc j u hj;rw [Addr.add_lit] at L ⊢;exact(S.cell (p:=⟨g,off+j,none⟩) hg).trans L
 clear h h' B;obtain⟨M,P⟩:∃M,r.alloc (.cells #[] 79)=M:=⟨_,rfl⟩;have E:Below r.heap.size r M:=by rw [<- P];exact zO _ _
 have u0:=(E.cell (p:=⟨w.heap.size,0,none⟩) (show w.heap.size<r.heap.size by have:=s.out;omega)).trans x0;have u1:=(E.cell (p:=⟨w.heap.size+1,0,none⟩) (show w.heap.size+1<r.heap.size by have:=s.out;omega)).trans x1;have u2:=(E.cell (p:=⟨w.heap.size+1+1,0,none⟩) (show w.heap.size+1+1<r.heap.size by have:=s.out;omega)).trans x2;have v2:=((Qcs E).2 (w.heap.size+1+1) 0 (by have:=s.out;omega)).trans y2;have Hx:Hid (M.ownsRow (w.heap.size+3) 79 3 (.slice (some ⟨r.heap.size,0,none⟩) 0 0) 0 []):=by
  rw [<- P];exact hid (World.ownsRow_lit (base:=w.heap.size+3) (e:=79) (size:=3) r #[] 0 (by have:=s.out;omega) (by unfold maxLen;omega) rfl)
 have Hf:=hid (Qac Ho.out E);have J:Hid (w.heap.size+3<=M.heap.size):=hid (by have:=E.size;have:=s.out;omega);clear E x0 x1 x2 y2;go_enter Tryz.func85,Tryz.ntmps85;go_wp2_with (at_builtin;refine Qf4 rfl _ _ 25 rfl (w.heap.size+3) 79 i0 _ 3 24 Tryz.underlying25 hi H5 H6 H7 rfl (by decide) (.slice (some ⟨r.heap.size,0,none⟩) 0 0) 0 [] rfl Hx.out a n c (Qas G) rfl ?c1 (Hs M Hf.out) (Qe4 G) ?c4 ?c5 J.out ?_);case c1=>rw [Qe3,D.out]
 case c4=>unfold maxLen;omega
 case c5=>omega
 intro v3 X Ha V Hb;have N:∀q,q<w.heap.size+3 ->some q≠(Value.slice (some ⟨r.heap.size,0,none⟩) 0 0).ownBlock:=fun q hq e=>by
  have:=s.out;simp [Value.ownBlock] at e;omega
 have z3:w.heap.size+3<=X.heap.size:=by have:=V.size;have:=J.out;omega
 have d1:=V.cell u1 (N (w.heap.size+1) (by omega));have d2:=V.cell u2 (N (w.heap.size+1+1) (by omega));have k2:X.frozen? ⟨w.heap.size+1+1,0,none⟩=false:=(World.frozen?_of_block (V.block (w.heap.size+1+1) (by have:=J.out;omega) (N _ (by omega)))).trans v2;have Ht:Hid (FR X (w.heap.size+3) v3 (t 0)):=by
  rw [Hg.out];unfold FR;rw [D.out];have L:=Ha;exact hid L
 have Hp:Hid (Below w.heap.size w X):=hid (Hf.grown V (by have:=J.out;omega) (fun k Y=>by have:=s.out;simp [Value.ownBlock] at Y;omega));clear Ha V Hb u0 u1 u2 v2 P Hi N;go_wp2_with fail;go_loopw [5,6] (fun u5 iv wr=>∃(k:Nat),k<=n'/\ iv=.int .i64 k/\ Hid (FR wr (w.heap.size+3) u5 (t k))/\ wr.cell? ⟨w.heap.size+1,0,none⟩=some (.slice a' n' c')/\ wr.cell? ⟨w.heap.size+1+1,0,none⟩=some (.slice none 0 0)/\ wr.frozen? ⟨w.heap.size+1+1,0,none⟩=false/\ Hid (Below w.heap.size w wr)/\ w.heap.size+3<=wr.heap.size) (fun _ iv _=>n' - (intOf iv).toNat);case atStart=>exact⟨0,Nat.zero_le _,rfl,Ht,d1,d2,k2,Hp,z3⟩
 case round=>
  clear d1 d2 k2 z3;obtain⟨k,Y,rfl,Hc,e1,A,j2,W,zr⟩:=hrel;by_cases He:k<n'
  ·obtain⟨gb,ob,rfl,H8,q0,q1,q2⟩:=(Hw.below W.out).at He;obtain⟨x,cc,rfl,Hl,H3,H4⟩:=Hc.fs;have H9:=H1 k;have HC:=hid (Qfv x cc (t k) (R' k) (F' k) (T' k) wr (by omega) Hl (H0 k Y) (Hy k He));have HN:=hid (H2 k);obtain⟨ln,Hd⟩:∃ln,(t k).length=ln:=⟨_,rfl⟩;rw [Hd] at HC;clear Hl;go_wp2_with fail;try rw [Hd]
   refine HC.mono ?_;rintro e w4 ⟨v4,rfl,Hj,O⟩;have Hu:Hid (FR w4 (w.heap.size+3) v4 (t (k+1))):=by rw [HN.out];exact hid (Hj.weak zr)
   have r1:=(O.cell (p:=⟨w.heap.size+1,0,none⟩) (show w.heap.size+1<wr.heap.size by omega)).trans e1;have r2:=(O.cell (p:=⟨w.heap.size+1+1,0,none⟩) (show w.heap.size+1+1<wr.heap.size by omega)).trans A;have s2:=((Qcs O).2 (w.heap.size+1+1) 0 (by omega)).trans j2;have Hq:=hid (Qac W.out O);have z4:=O.size;clear Hj O e1 A j2 q0 q1 q2 Hd;go_wp2_with fail;go_roundw;case rel=>exact⟨k+1,He,by go_num,Hu,r1,r2,s2,Hq,by omega⟩
   case measure=>simp [intOf];omega
  ·obtain rfl:k=n':=by omega
   have C:Hid (FR wr (w.heap.size+3) u5 (unL R F T n R' F' T' k)):=by rw [<- Hz.out];exact Hc
   obtain⟨y,m,Q,rfl⟩:=QaO C.out;have Hv:Hid (FR (wr.setCell ⟨w.heap.size+1+1,0,none⟩ (.slice y m Q)) w.heap.size (.slice y m Q) (unL R F T n R' F' T' k)):=by
    refine hid ?_;refine World.ownsRow.kept (C.weak (by omega)) (Qbe wr ⟨w.heap.size+1+1,0,none⟩ _) ?_;cases e:(Value.slice y m Q).ownBlock with
    | none=>exact .inl rfl
    | some g=>exact .inr (fun A=>by have:=(World.ownsRow.lt C.out g e).1;injection A with A;have A:g=w.heap.size+1+1:=A;omega)
   have Hr:Hid (Below w.heap.size w (wr.setCell ⟨w.heap.size+1+1,0,none⟩ (.slice y m Q))):=hid (W.setCell (p:=⟨w.heap.size+1+1,0,none⟩) (by show w.heap.size<=w.heap.size+1+1;omega) _);have k6:=World.cell?_setCell_same wr ⟨w.heap.size+1+1,0,none⟩ (.slice y m Q) A;clear Hc;go_wp2_with fail;refine zF (v:=.agg #[.slice y m Q]) (by simp [results,Tryz.results85,go_sem,k6]) ⟨_,rfl,Hv.out,Hr.out⟩
open Go.Deep
theorem Qm4 (g off m c:Nat)(p:List ByteArray)(w:World)(hp:p.length=m)(hm:m<=1048576)(hg:g<w.heap.size)(h:∀t,t<m ->w.cell? ⟨g,off+t,none⟩=some (.string (gS p t))):
  Calls Tryz.prog 32 #[.slice (some ⟨g,off,none⟩) m c] w fun e w'=>∃q cap,e=.returned (.slice (some ⟨q,0,none⟩) m cap)/\ Below w.heap.size w w'/\ w.heap.size<=q/\ q<w'.heap.size/\ Wr w' q 9 m (fun t=> .string (gS p t))/\ m<=cap/\ cap<=9223372036854775807/\ w'.ownsRow w.heap.size 9 1 (.slice (some ⟨q,0,none⟩) m cap) m (Qcw p):=by
 obtain⟨H,U,Y,Z,G⟩:=info_parts QdP;have r:Below w.heap.size w (w.alloc (.cells #[] 9)):=zO _ _;have b:(w.alloc (.cells #[] 9)).ownsRow w.heap.size 9 1 (.slice (some ⟨w.heap.size,0,none⟩) 0 0) 0 []:=by
  have:=World.ownsRow_lit (base:=w.heap.size) (e:=9) (size:=1) w #[] 0 zL (by unfold maxLen;omega) rfl;simpa using this
 obtain⟨q,cap,w',o,u,i,s⟩:=QeW 49 9 H _ 1 16 Tryz.underlying49 U Y Z G rfl (by decide) (by omega) w.heap.size g off m c (fun t=> .string (gS p t)) (w.alloc (.cells #[] 9)) w.heap.size hm b (by simp) (fun j hj=>(r.cell (p:=⟨g,off+j,none⟩) hg).trans (h j (by omega))) (fun _ _=>rfl);have v:=Qed u;rw [Nat.mul_one] at v;have y:Hid (m<=cap/\ cap<=9223372036854775807):=hid (by
  rcases u.2 with ⟨O,_⟩|⟨K,I,J,V,C,B,L,Q,N,X⟩
  ·cases O
  ·injection V with e1 e2 e3;unfold maxLen at Q;omega)
 have A:Hid (Below w.heap.size w w'):=hid (r.grown i r.size (fun k e=>by injection e with e;omega));have z:=hid v;have E:Hid (w'.ownsRow w.heap.size 9 1 (.slice (some ⟨q,0,none⟩) m cap) m (Qcw p)):=hid (by unfold Qcw;rw [hp];exact u);have M:Hid (w.heap.size<=q):=hid (by rcases s with e|e<;>rw [e];exact Nat.le_refl _;simp);clear u i s v h b r;go_enter Tryz.func32,Tryz.ntmps32;go_wp2_with (at_builtin;refine Qaa rfl _ _ _ _ rfl o (by rfl) (by rfl) rfl ?_;clear o);go_ret;exact⟨q,cap,rfl,A.out,M.out,z.lt,z.out,y.1,y.2,E.out⟩
theorem Qm3 (g off m c:Nat)(y:Lf)(w:World)(hp:y.p.length=m)(hm:m<=1048576)(hg:g<w.heap.size)(h:∀t,t<m ->w.cell? ⟨g,off+t,none⟩=some (.string (gS y.p t))):
  Calls Tryz.prog 88 #[.agg #[.slice (some ⟨g,off,none⟩) m c,.bool y.fl,.int .i64 y.r,.int .i64 y.q,.string y.v]] w fun e w'=>∃q cap,e=.returned (.agg #[.slice (some ⟨q,0,none⟩) m cap,.bool y.fl,.int .i64 y.r,.int .i64 y.q,.string y.v])/\ Below w.heap.size w w'/\ w.heap.size<=q/\ q<w'.heap.size/\ Wr w' q 9 m (fun t=> .string (gS y.p t))/\ m<=cap/\ cap<=9223372036854775807/\ w'.ownsRow w.heap.size 9 1 (.slice (some ⟨q,0,none⟩) m cap) m (Qcw y.p):=by
 obtain⟨W,u⟩:∃W,(w.alloc (.cells #[.slice (some ⟨g,off,none⟩) m c,.bool y.fl,.int .i64 y.r,.int .i64 y.q,.string y.v] 77)).alloc (.cells #[.slice none 0 0,.bool false,.int .i64 0,.int .i64 0,.string ⟨#[]⟩] 77)=W:=⟨_,rfl⟩;have z:Below w.heap.size w W:=by rw [<- u];exact Qak _ _ _
 have i:Bx5 W w.heap.size (.slice (some ⟨g,off,none⟩) m c) (.bool y.fl) (.int .i64 y.r) (.int .i64 y.q) (.string y.v):=by rw [<- u];exact(Bx5.new _ _ _ _ _ _ _).up _
 have b:Bx5 W (w.heap.size+1) (.slice none 0 0) (.bool false) (.int .i64 0) (.int .i64 0) (.string ⟨#[]⟩):=by
  rw [<- u];have:=Bx5.new (w.alloc (.cells #[.slice (some ⟨g,off,none⟩) m c,.bool y.fl,.int .i64 y.r,.int .i64 y.q,.string y.v] 77)) (.slice none 0 0) (.bool false) (.int .i64 0) (.int .i64 0) (.string ⟨#[]⟩) 77;simpa using this
 have A:=hid (Qm4 g off m c y.p W hp hm (Nat.lt_of_lt_of_le hg z.size) (fun t ht=>(z.cell (p:=⟨g,off+t,none⟩) hg).trans (h t ht)));have L:=i.c0;have s:=hid i;have E:=hid b;have V:=hid z;have Ha:w.heap.size+1<W.heap.size:=b.lt;clear z i b h;go_enter Tryz.func88,Tryz.ntmps88;go_wp2_with fail;try rw [u]
 clear u;refine A.mono ?_;rintro e w1 ⟨q,cap,rfl,o,O,Q,U,I,J,M⟩;have j:=s.below o s.lt;have k:=E.below o E.lt;have C:=j.c0;have D:=j.c1;have F:=j.c2;have P:=j.c3;have R:=j.c4;have S:=j.f;have N:=k.c0;have r1:=k.c1;have r2:=k.c2;have X:=k.c3;have B:=k.c4;have T:=k.f;have H:=hid U;have Z:Hid (w1.ownsRow w.heap.size 9 1 (.slice (some ⟨q,0,none⟩) m cap) m (Qcw y.p)):=hid (QcI M (by omega));clear M;have Y:=hid (Qac V.out o);have G:Hid (W.heap.size<=q/\ q<w1.heap.size):=hid ⟨O,Q⟩;clear L A U O Q o j k;go_wp2_with fail;have K:=G.out;refine zF (v:=.agg #[.slice (some ⟨q,0,none⟩) m cap,.bool y.fl,.int .i64 y.r,.int .i64 y.q,.string y.v]) (by simp [results,Tryz.results88,go_sem,N,r1,r2,X,B]) ⟨q,cap,rfl,?_,by omega,?_,?_,I,J,?_⟩
 ·repeat (refine Below.setCell ?_ (by simp) _)
  exact Y.out
 ·simp [World.setCell];exact K.2
 ·repeat (refine Wr.same (w:=_) ?_ (zH _ _ _ _ (by simp;omega)))
  exact H.out
 ·refine QaD Z.out (fun g hg=> ?_);have e:q=g:=by simpa [Value.ownBlock] using hg
  repeat (rw [zH _ _ _ _ (by simp;omega)])
theorem Qda (g off m c:Nat)(y:Lf)(w:World)(hp:y.p.length=m)(hm:m<=1048576)(hg:g<w.heap.size)(h:∀t,t<m ->w.cell? ⟨g,off+t,none⟩=some (.string (gS y.p t))):
  Calls Tryz.prog 88 #[.agg #[.slice (some ⟨g,off,none⟩) m c,.bool y.fl,.int .i64 y.r,.int .i64 y.q,.string y.v]] w fun e w'=>∃q cap,e=.returned (.agg #[.slice (some ⟨q,0,none⟩) m cap,.bool y.fl,.int .i64 y.r,.int .i64 y.q,.string y.v])/\ Below w.heap.size w w'/\ w.heap.size<=q/\ q<w'.heap.size/\ Wr w' q 9 m (fun t=> .string (gS y.p t))/\ m<=cap/\ cap<=9223372036854775807:=
 (Qm3 g off m c y w hp hm hg h).mono fun e w' ⟨q,cap,a1,a2,a3,a4,a5,a6,a7,_⟩=>⟨q,cap,a1,a2,a3,a4,a5,a6,a7⟩
theorem Bx5.setFar {w:World}{b:Nat}{v0 v1 v2 v3 v4:Value}(h:Bx5 w b v0 v1 v2 v3 v4)(t:Nat)(u:Value)(hne:b≠t):Bx5 (w.setCell ⟨t,0,none⟩ u) b v0 v1 v2 v3 v4:=by
 have e:(w.setCell ⟨t,0,none⟩ u).heap[b]? =w.heap[b]? :=zH _ _ _ _ hne;have q:=fun o=>World.cell?_of_block (w:=w) (w':=w.setCell ⟨t,0,none⟩ u) (a:=⟨b,o,none⟩) e;exact⟨(q 0).trans h.c0,(q 1).trans h.c1,(q 2).trans h.c2,(q 3).trans h.c3,(q 4).trans h.c4,fun i=>(World.frozen?_of_block (a:=⟨b,i,none⟩) e).trans (h.f i),by simp [World.setCell];exact h.lt⟩
theorem FR.setFar {w:World}{B:Nat}{v:Value}{l:List Rn}(h:FR w B v l)(q:Addr)(u:Value)(hv:v.ownBlock≠some q.block):FR (w.setCell q u) B v l:=by
 refine World.ownsRow.kept h (w':=w.setCell q u) (row:=some q.block) ⟨rfl,rfl,rfl,by simp [World.setCell],fun k hk hne=>zH _ _ _ _ (fun e=>hne (by rw [e]))⟩ ?_;cases e:v.ownBlock with
 | none=>exact .inl rfl
 | some b=>exact .inr (fun e2=>hv (by rw [e];exact e2))
theorem LC.set {w:World}{lo:Nat}{v:Value}{l:List Lf}{P Q:Nat ->Nat}(h:LC w lo v l P Q)(q:Addr)(u:Value)(hg:v.ownBlock≠some q.block)(hP:∀i,i<l.length ->P i≠q.block):LC (w.setCell q u) lo v l P Q:=
 ⟨QaD h.row (fun g hg'=>zH _ _ _ _ (fun e=>hg (by rw [hg',e]))),fun i hi=>by
  obtain⟨k,m,r,j⟩:=h.pt i hi;exact⟨k,by simp [World.setCell];exact m,r,j.1.same (zH _ _ _ _ (hP i hi)),j.2⟩⟩
structure JS (w wr:World)(t:Nat)(va0 va1 vb0 vb1:Value)(g c:Nat)(vr:Value)(l:List Lf)(lr:List Rn)(P Q:Nat ->Nat):Prop where
 low:Below w.heap.size w wr
 a:Bx2 wr w.heap.size va0 va1
 b:Bx2 wr (w.heap.size+1) vb0 vb1
 r:Bx2 wr (w.heap.size+1+1) (.slice none 0 0) (.slice none 0 0)
 o:Bx2 wr t (.slice (some ⟨g,0,none⟩) l.length c) vr
 lc:LC wr w.heap.size (.slice (some ⟨g,0,none⟩) l.length c) l P Q
 fr:FR wr w.heap.size vr lr
 ht:w.heap.size+3<=t
 hv:vr.ownBlock≠some t
 hg:w.heap.size+3<=g
 hv2:∀b,vr.ownBlock=some b ->w.heap.size+3<=b
section
variable {w wr w1 : World} {t : Nat} {va0 va1 vb0 vb1 : Value} {g c : Nat} {vr : Value} {l : List Lf} {lr : List Rn} {P Q : Nat -> Nat}
theorem JS.below (h:JS w wr t va0 va1 vb0 vb1 g c vr l lr P Q)(hb:Below wr.heap.size wr w1):JS w w1 t va0 va1 vb0 vb1 g c vr l lr P Q:=
 ⟨h.low.trans (hb.mono h.low.size),h.a.below hb h.a.lt,h.b.below hb h.b.lt,h.r.below hb h.r.lt,h.o.below hb h.o.lt,h.lc.below hb,h.fr.below hb,h.ht,h.hv,h.hg,h.hv2⟩
theorem JS.set {g2 c2 n2:Nat}{l2:List Lf}{P2 Q2:Nat ->Nat}(h:JS w wr t va0 va1 vb0 vb1 g c vr l lr P Q)(hb:Below wr.heap.size wr w1)(h2:LC w1 w.heap.size (.slice (some ⟨g2,0,none⟩) n2 c2) l2 P2 Q2)(hn:n2=l2.length)(hg:wr.heap.size<=g2)(hp:∀i,i<l2.length ->1<=(gL l2 i).p.length):JS w (w1.setCell ⟨t,0,none⟩ (.slice (some ⟨g2,0,none⟩) n2 c2)) t va0 va1 vb0 vb1 g2 c2 vr l2 lr P2 Q2:=by
 subst hn;have j:=h.below hb;have u:=h.o.lt;have m:=h.ht;refine⟨j.low.setCell (by show w.heap.size<=t;omega) _,j.a.setAt _ _ (by show t≠w.heap.size;omega),j.b.setAt _ _ (by show t≠w.heap.size+1;omega),j.r.setAt _ _ (by show t≠w.heap.size+1+1;omega),j.o.set0 _,h2.set _ _ (fun e=>by have:=Qbt e;have:g2=t:=this;omega) (fun i hi e=> ?_),?_,h.ht,h.hv,by omega,h.hv2⟩
 ·have q:=(h2.pt i hi).2.2.2.1.cell (i:=0) (by have:=hp i hi;omega);have e:P2 i=t:=e;rw [e,j.o.c0] at q;cases q
 ·refine World.ownsRow.kept j.fr (w':=w1.setCell ⟨t,0,none⟩ _) (row:=some t) ⟨rfl,rfl,rfl,by simp [World.setCell],fun k hk hne=>zH _ _ _ _ (fun e=>hne (by rw [e]))⟩ ?_;cases e:vr.ownBlock with
  | none=>exact .inl rfl
  | some b=>exact .inr (fun e2=>h.hv (by rw [e];exact e2))
end
structure Put (C:Lf ->Prop)(ls:List Lf)(L:Nat ->List Lf)(s:Nat):Prop where
 yes:∀k,k<ls.length ->C (gL ls k) ->L (k+1)=Qc0 (gL ls k) (L k)
 no:∀k,k<ls.length ->¬C (gL ls k) ->L (k+1)=L k
 len:∀k,k<=ls.length ->(L k).length<=s+k
 pth:∀k,k<=ls.length ->∀i,i<(L k).length ->1<=(gL (L k) i).p.length/\ (gL (L k) i).p.length<=8
theorem Put.of (C:Lf ->Prop)(ls out:List Lf)(s:Nat)(ho:out.length<=s)(h1:∀i,i<ls.length ->1<=(gL ls i).p.length/\ (gL ls i).p.length<=8)(h2:∀i,i<out.length ->1<=(gL out i).p.length/\ (gL out i).p.length<=8):Put C ls (Qev C ls out) s:=
 ⟨fun k hk h=>Qfr h,fun k hk h=>QgN h,fun k hk=>by have:=Qd3 (P:=C) (ls:=ls) (out:=out) k;omega,fun k hk i hi=>by
  have m:=Qa2.2 ⟨i,hi,rfl⟩;rcases Qcq.1 m with h|⟨t,j,_,e⟩
  ·obtain⟨t,j,e⟩:=Qa2.1 h;rw [<- e];exact h2 t j
  ·rw [<- e];exact h1 t (by omega)⟩
theorem Qm2 (a b:Option Addr)(ca cb:Nat)(la lb:List Lf)(xa:Option Addr)(n d:Nat)(R F T:Nat ->Int)(x':Option Addr)(n' d':Nat)(R' F' T':Nat ->Int)(w:World)(hn:n<=1000)(hn':n'<=1000)(ho:Qeu R F T n)(ho':Qeu R' F' T' n')(Ka:la.length<=1000)(Kb:lb.length<=1000)(hpa:∀i,i<la.length ->1<=(gL la i).p.length/\ (gL la i).p.length<=8)(Hr:∀i,i<lb.length ->1<=(gL lb i).p.length/\ (gL lb i).p.length<=8)
  (h1:Qdy w a la) (h2:Qdy w b lb) (h3:Qb5 w xa n R F T) (h4:Qb5 w x' n' R' F' T'):
  Calls Tryz.prog 51 #[.agg #[.slice a la.length ca,.slice xa n d],.agg #[.slice b lb.length cb,.slice x' n' d']] w fun e w'=>(∃g c ra rc P Q,e=.returned (.agg #[.slice (some ⟨g,0,none⟩) (jn R F T n la R' F' T' n' lb).length c,.slice ra (unL R F T n R' F' T' n').length rc])/\ LC w' w.heap.size (.slice (some ⟨g,0,none⟩) (jn R F T n la R' F' T' n' lb).length c) (jn R F T n la R' F' T' n' lb) P Q/\ FR w' w.heap.size (.slice ra (unL R F T n R' F' T' n').length rc) (unL R F T n R' F' T' n'))/\ Below w.heap.size w w':=by
 obtain⟨W,hW⟩:∃W,(((w.alloc (.cells #[.slice a la.length ca,.slice xa n d] 29)).alloc (.cells #[.slice b lb.length cb,.slice x' n' d'] 29)).alloc (.cells #[.slice none 0 0,.slice none 0 0] 29)).alloc (.cells #[] 77)=W:=⟨_,rfl⟩;have b0:Below w.heap.size w W:=by rw [<- hW];exact((Qak _ _ _).alloc (by simp;omega) _).alloc (by simp;omega) _
 have zW:W.heap.size=w.heap.size+4:=by rw [<- hW];simp
 have A0:Bx2 W w.heap.size (.slice a la.length ca) (.slice xa n d):=by rw [<- hW];exact(((Bx2.made w _ _ _).allocs _).allocs _).allocs _
 have B0:Bx2 W (w.heap.size+1) (.slice b lb.length cb) (.slice x' n' d'):=by
  rw [<- hW];have:=Bx2.made (w.alloc (.cells #[.slice a la.length ca,.slice xa n d] 29)) (.slice b lb.length cb) (.slice x' n' d') 29;exact((by simpa using this:Bx2 _ (w.heap.size+1) _ _).allocs _).allocs _
 have R0:Bx2 W (w.heap.size+1+1) (.slice none 0 0) (.slice none 0 0):=by
  rw [<- hW];have:=Bx2.made ((w.alloc (.cells #[.slice a la.length ca,.slice xa n d] 29)).alloc (.cells #[.slice b lb.length cb,.slice x' n' d'] 29)) (.slice none 0 0) (.slice none 0 0) 29;exact(by simpa using this:Bx2 _ (w.heap.size+1+1) _ _).allocs _
 have L0:LC W w.heap.size (.slice (some ⟨w.heap.size+3,0,none⟩) 0 0) [] (fun _=>0) (fun _=>0):=by
  refine⟨?_,fun i hi=>by simp at hi⟩;have:=World.ownsRow_lit (base:=w.heap.size) (e:=77) (size:=5) (((w.alloc (.cells #[.slice a la.length ca,.slice xa n d] 29)).alloc (.cells #[.slice b lb.length cb,.slice x' n' d'] 29)).alloc (.cells #[.slice none 0 0,.slice none 0 0] 29)) #[] 0 (by simp;omega) (by unfold maxLen;omega) rfl;rw [hW] at this;simpa using this
 have Gh:=hid A0;have Gl:=hid B0;have Go:=hid R0;have Gw:=hid L0;have Gj:=hid b0;have G2:=hid zW;have HU:=hid (QeH xa n d R F T x' n' d' R' F' T' W hn hn' (h3.below b0) (h4.below b0) ho ho');have H1:=hid h1;have H2:=hid h2;have H3:=hid h3;have H4:=hid h4;have Gx:=hid hpa;have Gy:=hid Hr;have Gd:=hid (And.intro Ka Kb);obtain⟨s,Ge⟩:∃s,Qev (fun x=>x∈lb \/¬Qcu R' F' T' n' x) la []=s:=⟨_,rfl⟩;obtain⟨LB,Gf⟩:∃LB,Qev (fun x=>¬Qcu R F T n x) lb (s la.length)=LB:=⟨_,rfl⟩;obtain⟨J,hJ⟩:∃J,jn R F T n la R' F' T' n' lb=J:=⟨_,rfl⟩;have Hn:Hid (Put (fun x=>x∈lb \/¬Qcu R' F' T' n' x) la s 0):=hid (by rw [<- Ge];exact Put.of _ la [] 0 zL hpa (fun i hi=>by simp at hi));have H0:Hid (Put (fun x=>¬Qcu R F T n x) lb LB la.length):=hid (by rw [<- Gf];exact Put.of _ lb _ _ (by have:=Hn.len la.length zL;omega) Hr (Hn.pth la.length zL));have Gi:Hid (s 0=[]):=hid (by rw [<- Ge];rfl);have Gk:Hid (LB 0=s la.length):=hid (by rw [<- Gf];rfl);have Gv:Hid (LB lb.length=J):=hid (by rw [<- Gf,<- Ge,<- hJ];rfl);rw [hJ];have k1:=A0.c1;have k2:=B0.c1;clear A0 B0 R0 L0 b0 zW h1 h2 h3 h4 hpa Hr hJ Ge Gf;go_enter Tryz.func51,Tryz.ntmps51;go_wp2_with fail;try rw [hW]
 clear hW;refine HU.mono ?_;rintro e w1 ⟨vr,rfl,f1,b1⟩;obtain⟨ul,Gr⟩:∃ul,unL R F T n R' F' T' n'=ul:=⟨_,rfl⟩;rw [Gr] at f1;obtain⟨ra,rc,Kc,_⟩:=f1.fs;subst Kc;obtain⟨w2,Gg⟩:∃w2,w1.alloc (.cells #[.slice (some ⟨w.heap.size+1+1+1,0,none⟩) 0 0,.slice ra ul.length rc] 29)=w2:=⟨_,rfl⟩;have b2:Below w1.heap.size w1 w2:=by rw [<- Gg];exact zO _ _
 have H6:=Qac b1 b2;have Gn:Hid (JS w w2 w1.heap.size (.slice a la.length ca) (.slice xa n d) (.slice b lb.length cb) (.slice x' n' d') (w.heap.size+1+1+1) 0 (.slice ra ul.length rc) (s 0) ul (fun _=>0) (fun _=>0)):=hid (by
  have hz:=G2.out;have Ke:=b1.size;rw [Gi.out];refine⟨Gj.trans (H6.mono Gj.size),Gh.below H6 Gh.lt,Gl.below H6 Gl.lt,Go.below H6 Go.lt,by rw [<- Gg];exact Bx2.made _ _ _ _,Gw.below H6,(f1.below b2).weak (by omega),by omega,fun e=> ?_,by omega,fun b e=> ?_⟩
  ·have:=(World.ownsRow.lt f1 _ e).2;omega
  ·have:=(World.ownsRow.lt f1 _ e).1;omega)
 have G0:=hid Gr;clear f1 b1 b2 H6 k1 k2 HU Gh Gl Go Gw Gj G2 Gr;go_wp2_with fail;try rw [Gg]
 clear Gg;obtain⟨t,hT⟩:∃t,w1.heap.size=t:=⟨_,rfl⟩;rw [hT] at Gn ⊢;clear hT;go_loopw [6] (fun i wr=>∃(j g c:Nat) (P Q:Nat ->Nat),j<=la.length/\ i=.int .i64 j/\ Hid (JS w wr t (.slice a la.length ca) (.slice xa n d) (.slice b lb.length cb) (.slice x' n' d') g c (.slice ra ul.length rc) (s j) ul P Q)) (fun i _=>la.length - (intOf i).toNat);case atStart=>exact⟨0,_,_,_,_,Nat.zero_le _,rfl,Gn⟩
 case round=>
  clear Gn;obtain⟨j,g,c,P,Q,hj,rfl,HS⟩:=hrel;have a0:=HS.a.c0;by_cases Hf:j<la.length
  ·have i1:(0:Int)<=(j:Int):=Int.natCast_nonneg _;have i2:(j:Int)<(la.length:Int):=by omega
   obtain⟨ab,ao,rfl,Gq,Gb⟩:=(H1.below HS.low).resolve_left (by omega);obtain⟨pa,pc,⟨G,d0⟩,sg,B,c2,c3,c4⟩:=Gb j Hf;obtain⟨C,D,rfl,Hr,Ht⟩:=sg.resolve_left (by have:=(Gx j Hf).1;omega);have Hu:=Gx j Hf;obtain⟨y,hy⟩:∃y,gL la j=y:=⟨_,rfl⟩;rw [hy] at G B c2 c3 c4 d0 Ht Hu;have HY:=hid hy;obtain⟨m,H,Z,U,I⟩:=y;dsimp only at G B c2 c3 c4 d0 Ht Hu;obtain⟨w5,H5⟩:∃w5,wr.alloc (.cells #[.slice (some ⟨C,D,none⟩) m.length pc,.bool H,.int .i64 Z,.int .i64 U,.string I] 77)=w5:=⟨_,rfl⟩;have b5:Below wr.heap.size wr w5:=by rw [<- H5];exact zO _ _
   have X5:Bx5 w5 wr.heap.size (.slice (some ⟨C,D,none⟩) m.length pc) (.bool H) (.int .i64 Z) (.int .i64 U) (.string I):=by rw [<- H5];exact Bx5.new _ _ _ _ _ _ _
   have Hw:=hid (HS.below b5);have H9:=hid X5;have Gm:=hid d0;have Hs:=hid Hu;have H8:Hid (QaT w5 (some ⟨C,D,none⟩) m):=hid (.inr ⟨C,D,rfl,Nat.lt_of_lt_of_le Hr b5.size,fun i hi=>(b5.cell (p:=⟨C,D+i,none⟩) Hr).trans (Ht i hi)⟩);have x0:=X5.c0;have x1:=X5.c1;have x2:=X5.c2;have x3:=X5.c3;have x4:=X5.c4;clear hy Gb sg Ht Hr Gq b5 X5 d0 Hu HS;have hf:=hid (fun O (b6:Below w5.heap.size w5 O)=>Qm1 b (some ⟨C,D,none⟩) cb pc lb m H Z U I O (by have:=Gd.out;omega) Gm.1 Gm.2 ((H2.below Hw.low).below b6) (H8.below b6));have e0:=Hw.b.c0;have e1:=Hw.b.c1;go_wp2_with fail;refine(hf w5 zI).mono ?_;rintro e O ⟨⟨fi,rfl,G3⟩,b6⟩;have A:=hid (Hw.below b6);have He:=hid (H9.below b6 H9.lt);have Hz:=hid b6;have Gu:=hid G3;clear e0 e1 hf G3 b6 x0 x1 x2 x3 x4 a0 G B c2 c3 c4 H5;by_cases Hk:(⟨m,H,Z,U,I⟩:Lf)∈lb
   ·have e0:(0:Int)<=fi:=Gu.2 Hk;have Hy:Hid (Qc0 ⟨m,H,Z,U,I⟩ (s j)=s (j+1)):=hid (by rw [Hn.yes j Hf (by rw [HY.out];exact .inl Hk),HY.out]);clear Hk;have Hd:Hid (∀w',Below O.heap.size O w' ->(w'.cell? ⟨wr.heap.size,0,none⟩=some (.slice (some ⟨C,D,none⟩) m.length pc)/\ w'.cell? ⟨wr.heap.size,1,none⟩=some (.bool H)/\ w'.cell? ⟨wr.heap.size,2,none⟩=some (.int .i64 Z)/\ w'.cell? ⟨wr.heap.size,3,none⟩=some (.int .i64 U)/\ w'.cell? ⟨wr.heap.size,4,none⟩=some (.string I))):=hid (fun w' b=>by
     have X:=He.below b He.lt;exact⟨X.c0,X.c1,X.c2,X.c3,X.c4⟩)
    have Hl:Hid (∀w',Below O.heap.size O w' ->Calls Tryz.prog 88 #[.agg #[.slice (some ⟨C,D,none⟩) m.length pc,.bool H,.int .i64 Z,.int .i64 U,.string I]] w' fun e w''=>∃q cap,e=.returned (.agg #[.slice (some ⟨q,0,none⟩) m.length cap,.bool H,.int .i64 Z,.int .i64 U,.string I])/\ Below w'.heap.size w' w''/\ w'.heap.size<=q/\ q<w''.heap.size/\ Wr w'' q 9 m.length (fun t=> .string (gS m t))/\ m.length<=cap/\ cap<=9223372036854775807):=hid (fun w' b=>by
     obtain⟨G7,G8,e,Hq,Ga⟩:=((H8.below Hz.out).below b).resolve_left (by have:=Hs.1;omega);injection e with e;injection e with e1 e2;subst e1;subst e2;exact Qda C D m.length pc ⟨m,H,Z,U,I⟩ w' rfl (by have:=Hs.2;omega) Hq Ga)
    have Hm:Hid (∀z q cap,Below O.heap.size O z ->O.heap.size<=q ->q<z.heap.size ->Wr z q 9 m.length (fun t=> .string (gS m t)) ->m.length<=cap/\ cap<=9223372036854775807 ->Calls Tryz.prog 87 #[.slice (some ⟨g,0,none⟩) (s j).length c,.agg #[.slice (some ⟨q,0,none⟩) m.length cap,.bool H,.int .i64 Z,.int .i64 U,.string I]] z fun e w'=>(∃g' cap' P' Q',e=.returned (.slice (some ⟨g',0,none⟩) ((s j).length+1) cap')/\ z.heap.size<=g'/\ LC w' w.heap.size (.slice (some ⟨g',0,none⟩) ((s j).length+1) cap') (s (j+1)) P' Q')/\ Below z.heap.size z w'):=hid (fun z q cap u hq1 hq2 hw hcap=>by
     have hJ:=A.below u;have hs:=hJ.low.size;have G5:=A.low.size;rw [<- Hy.out];exact QfR g c (s j) P Q z w.heap.size q cap m H Z U I hJ.lc hs (by have h1:=Hn.len j (by omega);have h2:=Gd.out;omega) (fun i hi=>by have:=(Hn.pth j (by omega) i hi).2;omega) (by have:=Hs.2;omega) ⟨by omega,hq2⟩ hw hcap)
    have Hv:Hid ((s j).length+1=(s (j+1)).length):=hid (by rw [<- Hy.out,Qbz]);have Hx:Hid (wr.heap.size≠t):=hid (fun e=>by
     have h1:=He.c1;rw [e,A.o.c1] at h1;cases h1)
    have t0:=(A.o.below zI.drew A.o.lt).c0;go_wp2_with fail;refine zR (S:=fun w'=>w'.cell? ⟨wr.heap.size,0,none⟩=some (.slice (some ⟨C,D,none⟩) m.length pc)/\ w'.cell? ⟨wr.heap.size,1,none⟩=some (.bool H)/\ w'.cell? ⟨wr.heap.size,2,none⟩=some (.int .i64 Z)/\ w'.cell? ⟨wr.heap.size,3,none⟩=some (.int .i64 U)/\ w'.cell? ⟨wr.heap.size,4,none⟩=some (.string I)) (Hd _ zI.drew) (fun qh=> ?_);refine tZ 0 42 ?_;refine tZ 2 44 ?_;refine Qbu (i:=1) (j:=3) (d:=some 43) (d':=some 45) (by kernel_rfl) (by kernel_rfl) (by kernel_rfl) ?_ ?_
    ·
     intro o ho Gc K k;simp only [gZa,gZb,gZc,gZd] at ho;subst ho;go_simp;refine k.out _ _ (Hd _ zI.drew) (fun qh=> ?_);clear k K;try simp only [zP]
     clear t0;refine cZ 3 ?_;intro K k;go_simp;refine(Hl _ zI.drew).mono ?_;rintro e z ⟨q7,Hg,rfl,u,Hb,Hc,Hj,Ha⟩;have Y:Below O.heap.size O z:=⟨u.os,u.tape,u.output,u.size,u.block⟩;refine k.out _ _ (Hd _ Y) (fun qh=> ?_);clear k K;try simp only [zP]
     have Hh:=hid (Hm z q7 Hg Y Hb Hc Hj Ha);clear Hj Ha Hb Hc;refine cZ 4 ?_;intro K k;go_simp;refine Hh.mono ?_;rintro e N ⟨⟨M,E,P8,Q8,rfl,Hp,l8⟩,b8⟩;have L:=Qac Y b8;have Ho:=hid (A.set L l8 Hv.out (by have:=Y.size;omega) (fun i hi=>(Hn.pth (j+1) Hf i hi).1));have O8:=A.o.below L A.o.lt;refine k.out _ _ (Hd _ L) (fun qh=> ?_);clear k K;try simp only [zP]
     refine tZ 5 47 ?_;have o0:=O8.c0;have of:=O8.f 0;have V:=((He.below L He.lt).setFar t (.slice (some ⟨M,0,none⟩) ((s j).length+1) E) Hx.out);have Hi:=hid (⟨V.c0,V.c1,V.c2,V.c3,V.c4⟩:(N.setCell ⟨t,0,none⟩ (.slice (some ⟨M,0,none⟩) ((s j).length+1) E)).cell? ⟨wr.heap.size,0,none⟩=some (.slice (some ⟨C,D,none⟩) m.length pc)/\ (N.setCell ⟨t,0,none⟩ (.slice (some ⟨M,0,none⟩) ((s j).length+1) E)).cell? ⟨wr.heap.size,1,none⟩=some (.bool H)/\ (N.setCell ⟨t,0,none⟩ (.slice (some ⟨M,0,none⟩) ((s j).length+1) E)).cell? ⟨wr.heap.size,2,none⟩=some (.int .i64 Z)/\ (N.setCell ⟨t,0,none⟩ (.slice (some ⟨M,0,none⟩) ((s j).length+1) E)).cell? ⟨wr.heap.size,3,none⟩=some (.int .i64 U)/\ (N.setCell ⟨t,0,none⟩ (.slice (some ⟨M,0,none⟩) ((s j).length+1) E)).cell? ⟨wr.heap.size,4,none⟩=some (.string I));clear O8 V;refine cZ 6 ?_;intro K k;go_simp;refine k.out _ _ Hi.out (fun qh=> ?_);clear k K;try simp only [zP]
     refine zD ?_;clear qh u Y b8 L l8 Hp o0 of Hh Hm Hl Hd Hi;go_wp2_with fail;go_roundw;case rel=>exact⟨j+1,M,E,P8,Q8,Hf,by go_num,Ho⟩
     case measure=>simp [intOf];omega
    ·
     clear t0;intro o ho Gc K k;simp only [gZa,gZb,gZc,gZd] at ho;subst ho;go_simp;refine(Hl _ zI.drew).mono ?_;rintro e z ⟨q7,Hg,rfl,u,Hb,Hc,Hj,Ha⟩;have Y:Below O.heap.size O z:=⟨u.os,u.tape,u.output,u.size,u.block⟩;refine k.out _ _ (Hd _ Y) (fun qh=> ?_);clear k K;try simp only [zP]
     have t0:=(A.o.below Y A.o.lt).c0;refine cZ 1 ?_;intro K k;go_simp;refine k.out _ _ (Hd _ Y) (fun qh=> ?_);clear k K;try simp only [zP]
     clear t0;have Hh:=hid (Hm z q7 Hg Y Hb Hc Hj Ha);clear Hj Ha Hb Hc;refine cZ 4 ?_;intro K k;go_simp;refine Hh.mono ?_;rintro e N ⟨⟨M,E,P8,Q8,rfl,Hp,l8⟩,b8⟩;have L:=Qac Y b8;have Ho:=hid (A.set L l8 Hv.out (by have:=Y.size;omega) (fun i hi=>(Hn.pth (j+1) Hf i hi).1));have O8:=A.o.below L A.o.lt;refine k.out _ _ (Hd _ L) (fun qh=> ?_);clear k K;try simp only [zP]
     refine tZ 5 47 ?_;have o0:=O8.c0;have of:=O8.f 0;have V:=((He.below L He.lt).setFar t (.slice (some ⟨M,0,none⟩) ((s j).length+1) E) Hx.out);have Hi:=hid (⟨V.c0,V.c1,V.c2,V.c3,V.c4⟩:(N.setCell ⟨t,0,none⟩ (.slice (some ⟨M,0,none⟩) ((s j).length+1) E)).cell? ⟨wr.heap.size,0,none⟩=some (.slice (some ⟨C,D,none⟩) m.length pc)/\ (N.setCell ⟨t,0,none⟩ (.slice (some ⟨M,0,none⟩) ((s j).length+1) E)).cell? ⟨wr.heap.size,1,none⟩=some (.bool H)/\ (N.setCell ⟨t,0,none⟩ (.slice (some ⟨M,0,none⟩) ((s j).length+1) E)).cell? ⟨wr.heap.size,2,none⟩=some (.int .i64 Z)/\ (N.setCell ⟨t,0,none⟩ (.slice (some ⟨M,0,none⟩) ((s j).length+1) E)).cell? ⟨wr.heap.size,3,none⟩=some (.int .i64 U)/\ (N.setCell ⟨t,0,none⟩ (.slice (some ⟨M,0,none⟩) ((s j).length+1) E)).cell? ⟨wr.heap.size,4,none⟩=some (.string I));clear O8 V;refine cZ 6 ?_;intro K k;go_simp;refine k.out _ _ Hi.out (fun qh=> ?_);clear k K;try simp only [zP]
     refine zD ?_;clear qh u Y b8 L l8 Hp o0 of Hh Hm Hl Hd Hi;go_wp2_with fail;go_roundw;case rel=>exact⟨j+1,M,E,P8,Q8,Hf,by go_num,Ho⟩
     case measure=>simp [intOf];omega
   ·have e0:¬(0:Int)<=fi:=fun h=>Hk (Gu.1 h);have hh:=hid (fun z (u:Below O.heap.size O z)=>Qmz x' n' d' R' F' T' Z U z (by omega) ((H4.below A.low).below u));have y2:=He.c2;have y3:=He.c3;have z1:=A.b.c1;go_wp2_with fail;refine(hh O zI).mono ?_;rintro e z ⟨rfl,u⟩;have Gz:=hid (A.below u);have G1:=hid (He.below u He.lt);have Gt:=hid (Qac Hz.out u);clear u y2 y3 z1 hh A He Hz;have A:=Gz;have He:=G1;have Hz:=Gt;clear Gz G1 Gt;obtain⟨G9,Gs⟩:∃G9,G9=O:=⟨_,rfl⟩;subst Gs;obtain⟨O,Kd⟩:∃O,O=z:=⟨_,rfl⟩;subst Kd;cases hh:Qct R' F' T' Z U U n' with
    | false=>
     have Hy:Hid (Qc0 ⟨m,H,Z,U,I⟩ (s j)=s (j+1)):=hid (by rw [Hn.yes j Hf (by rw [HY.out];exact .inr (fun h=>by unfold Qcu at h;rw [hh] at h;cases h)),HY.out]);clear hh Hk;have Hd:Hid (∀w',Below O.heap.size O w' ->(w'.cell? ⟨wr.heap.size,0,none⟩=some (.slice (some ⟨C,D,none⟩) m.length pc)/\ w'.cell? ⟨wr.heap.size,1,none⟩=some (.bool H)/\ w'.cell? ⟨wr.heap.size,2,none⟩=some (.int .i64 Z)/\ w'.cell? ⟨wr.heap.size,3,none⟩=some (.int .i64 U)/\ w'.cell? ⟨wr.heap.size,4,none⟩=some (.string I))):=hid (fun w' b=>by
      have X:=He.below b He.lt;exact⟨X.c0,X.c1,X.c2,X.c3,X.c4⟩)
     have Hl:Hid (∀w',Below O.heap.size O w' ->Calls Tryz.prog 88 #[.agg #[.slice (some ⟨C,D,none⟩) m.length pc,.bool H,.int .i64 Z,.int .i64 U,.string I]] w' fun e w''=>∃q cap,e=.returned (.agg #[.slice (some ⟨q,0,none⟩) m.length cap,.bool H,.int .i64 Z,.int .i64 U,.string I])/\ Below w'.heap.size w' w''/\ w'.heap.size<=q/\ q<w''.heap.size/\ Wr w'' q 9 m.length (fun t=> .string (gS m t))/\ m.length<=cap/\ cap<=9223372036854775807):=hid (fun w' b=>by
      obtain⟨G7,G8,e,Hq,Ga⟩:=((H8.below Hz.out).below b).resolve_left (by have:=Hs.1;omega);injection e with e;injection e with e1 e2;subst e1;subst e2;exact Qda C D m.length pc ⟨m,H,Z,U,I⟩ w' rfl (by have:=Hs.2;omega) Hq Ga)
     have Hm:Hid (∀z q cap,Below O.heap.size O z ->O.heap.size<=q ->q<z.heap.size ->Wr z q 9 m.length (fun t=> .string (gS m t)) ->m.length<=cap/\ cap<=9223372036854775807 ->Calls Tryz.prog 87 #[.slice (some ⟨g,0,none⟩) (s j).length c,.agg #[.slice (some ⟨q,0,none⟩) m.length cap,.bool H,.int .i64 Z,.int .i64 U,.string I]] z fun e w'=>(∃g' cap' P' Q',e=.returned (.slice (some ⟨g',0,none⟩) ((s j).length+1) cap')/\ z.heap.size<=g'/\ LC w' w.heap.size (.slice (some ⟨g',0,none⟩) ((s j).length+1) cap') (s (j+1)) P' Q')/\ Below z.heap.size z w'):=hid (fun z q cap u hq1 hq2 hw hcap=>by
      have hJ:=A.below u;have hs:=hJ.low.size;have G5:=A.low.size;rw [<- Hy.out];exact QfR g c (s j) P Q z w.heap.size q cap m H Z U I hJ.lc hs (by have h1:=Hn.len j (by omega);have h2:=Gd.out;omega) (fun i hi=>by have:=(Hn.pth j (by omega) i hi).2;omega) (by have:=Hs.2;omega) ⟨by omega,hq2⟩ hw hcap)
     have Hv:Hid ((s j).length+1=(s (j+1)).length):=hid (by rw [<- Hy.out,Qbz]);have Hx:Hid (wr.heap.size≠t):=hid (fun e=>by
      have h1:=He.c1;rw [e,A.o.c1] at h1;cases h1)
     have t0:=(A.o.below zI.drew A.o.lt).c0;go_wp2_with fail;refine zR (S:=fun w'=>w'.cell? ⟨wr.heap.size,0,none⟩=some (.slice (some ⟨C,D,none⟩) m.length pc)/\ w'.cell? ⟨wr.heap.size,1,none⟩=some (.bool H)/\ w'.cell? ⟨wr.heap.size,2,none⟩=some (.int .i64 Z)/\ w'.cell? ⟨wr.heap.size,3,none⟩=some (.int .i64 U)/\ w'.cell? ⟨wr.heap.size,4,none⟩=some (.string I)) (Hd _ zI.drew) (fun qh=> ?_);refine tZ 0 42 ?_;refine tZ 2 44 ?_;refine Qbu (i:=1) (j:=3) (d:=some 43) (d':=some 45) (by kernel_rfl) (by kernel_rfl) (by kernel_rfl) ?_ ?_
     ·
      intro o ho Gc K k;simp only [gZa,gZb,gZc,gZd] at ho;subst ho;go_simp;refine k.out _ _ (Hd _ zI.drew) (fun qh=> ?_);clear k K;try simp only [zP]
      clear t0;refine cZ 3 ?_;intro K k;go_simp;refine(Hl _ zI.drew).mono ?_;rintro e z ⟨q7,Hg,rfl,u,Hb,Hc,Hj,Ha⟩;have Y:Below O.heap.size O z:=⟨u.os,u.tape,u.output,u.size,u.block⟩;refine k.out _ _ (Hd _ Y) (fun qh=> ?_);clear k K;try simp only [zP]
      have Hh:=hid (Hm z q7 Hg Y Hb Hc Hj Ha);clear Hj Ha Hb Hc;refine cZ 4 ?_;intro K k;go_simp;refine Hh.mono ?_;rintro e N ⟨⟨M,E,P8,Q8,rfl,Hp,l8⟩,b8⟩;have L:=Qac Y b8;have Ho:=hid (A.set L l8 Hv.out (by have:=Y.size;omega) (fun i hi=>(Hn.pth (j+1) Hf i hi).1));have O8:=A.o.below L A.o.lt;refine k.out _ _ (Hd _ L) (fun qh=> ?_);clear k K;try simp only [zP]
      refine tZ 5 47 ?_;have o0:=O8.c0;have of:=O8.f 0;have V:=((He.below L He.lt).setFar t (.slice (some ⟨M,0,none⟩) ((s j).length+1) E) Hx.out);have Hi:=hid (⟨V.c0,V.c1,V.c2,V.c3,V.c4⟩:(N.setCell ⟨t,0,none⟩ (.slice (some ⟨M,0,none⟩) ((s j).length+1) E)).cell? ⟨wr.heap.size,0,none⟩=some (.slice (some ⟨C,D,none⟩) m.length pc)/\ (N.setCell ⟨t,0,none⟩ (.slice (some ⟨M,0,none⟩) ((s j).length+1) E)).cell? ⟨wr.heap.size,1,none⟩=some (.bool H)/\ (N.setCell ⟨t,0,none⟩ (.slice (some ⟨M,0,none⟩) ((s j).length+1) E)).cell? ⟨wr.heap.size,2,none⟩=some (.int .i64 Z)/\ (N.setCell ⟨t,0,none⟩ (.slice (some ⟨M,0,none⟩) ((s j).length+1) E)).cell? ⟨wr.heap.size,3,none⟩=some (.int .i64 U)/\ (N.setCell ⟨t,0,none⟩ (.slice (some ⟨M,0,none⟩) ((s j).length+1) E)).cell? ⟨wr.heap.size,4,none⟩=some (.string I));clear O8 V;refine cZ 6 ?_;intro K k;go_simp;refine k.out _ _ Hi.out (fun qh=> ?_);clear k K;try simp only [zP]
      refine zD ?_;clear qh u Y b8 L l8 Hp o0 of Hh Hm Hl Hd Hi;go_wp2_with fail;go_roundw;case rel=>exact⟨j+1,M,E,P8,Q8,Hf,by go_num,Ho⟩
      case measure=>simp [intOf];omega
     ·
      clear t0;intro o ho Gc K k;simp only [gZa,gZb,gZc,gZd] at ho;subst ho;go_simp;refine(Hl _ zI.drew).mono ?_;rintro e z ⟨q7,Hg,rfl,u,Hb,Hc,Hj,Ha⟩;have Y:Below O.heap.size O z:=⟨u.os,u.tape,u.output,u.size,u.block⟩;refine k.out _ _ (Hd _ Y) (fun qh=> ?_);clear k K;try simp only [zP]
      have t0:=(A.o.below Y A.o.lt).c0;refine cZ 1 ?_;intro K k;go_simp;refine k.out _ _ (Hd _ Y) (fun qh=> ?_);clear k K;try simp only [zP]
      clear t0;have Hh:=hid (Hm z q7 Hg Y Hb Hc Hj Ha);clear Hj Ha Hb Hc;refine cZ 4 ?_;intro K k;go_simp;refine Hh.mono ?_;rintro e N ⟨⟨M,E,P8,Q8,rfl,Hp,l8⟩,b8⟩;have L:=Qac Y b8;have Ho:=hid (A.set L l8 Hv.out (by have:=Y.size;omega) (fun i hi=>(Hn.pth (j+1) Hf i hi).1));have O8:=A.o.below L A.o.lt;refine k.out _ _ (Hd _ L) (fun qh=> ?_);clear k K;try simp only [zP]
      refine tZ 5 47 ?_;have o0:=O8.c0;have of:=O8.f 0;have V:=((He.below L He.lt).setFar t (.slice (some ⟨M,0,none⟩) ((s j).length+1) E) Hx.out);have Hi:=hid (⟨V.c0,V.c1,V.c2,V.c3,V.c4⟩:(N.setCell ⟨t,0,none⟩ (.slice (some ⟨M,0,none⟩) ((s j).length+1) E)).cell? ⟨wr.heap.size,0,none⟩=some (.slice (some ⟨C,D,none⟩) m.length pc)/\ (N.setCell ⟨t,0,none⟩ (.slice (some ⟨M,0,none⟩) ((s j).length+1) E)).cell? ⟨wr.heap.size,1,none⟩=some (.bool H)/\ (N.setCell ⟨t,0,none⟩ (.slice (some ⟨M,0,none⟩) ((s j).length+1) E)).cell? ⟨wr.heap.size,2,none⟩=some (.int .i64 Z)/\ (N.setCell ⟨t,0,none⟩ (.slice (some ⟨M,0,none⟩) ((s j).length+1) E)).cell? ⟨wr.heap.size,3,none⟩=some (.int .i64 U)/\ (N.setCell ⟨t,0,none⟩ (.slice (some ⟨M,0,none⟩) ((s j).length+1) E)).cell? ⟨wr.heap.size,4,none⟩=some (.string I));clear O8 V;refine cZ 6 ?_;intro K k;go_simp;refine k.out _ _ Hi.out (fun qh=> ?_);clear k K;try simp only [zP]
      refine zD ?_;clear qh u Y b8 L l8 Hp o0 of Hh Hm Hl Hd Hi;go_wp2_with fail;go_roundw;case rel=>exact⟨j+1,M,E,P8,Q8,Hf,by go_num,Ho⟩
      case measure=>simp [intOf];omega
    | true=>
     have Gp:Hid (JS w O t (.slice (some ⟨ab,ao,none⟩) la.length ca) (.slice xa n d) (.slice b lb.length cb) (.slice x' n' d') g c (.slice ra ul.length rc) (s (j+1)) ul P Q):=hid (by
      rw [Hn.no j Hf (by rw [HY.out];exact fun h=>h.elim Hk (fun h=>h hh))];exact A.out)
     clear hh Hk;go_wp2_with fail;go_roundw;case rel=>exact⟨j+1,g,c,P,Q,Hf,by go_num,Gp⟩
     case measure=>simp [intOf];omega
  ·obtain rfl:j=la.length:=by omega
   have H7:Hid (JS w wr t (.slice a la.length ca) (.slice xa n d) (.slice b lb.length cb) (.slice x' n' d') g c (.slice ra ul.length rc) (LB 0) ul P Q):=hid (by rw [Gk.out];exact HS.out);clear HS;go_wp2_with fail;clear a0;try go_frame
   go_loopw [8] (fun i wr=>∃(j g c:Nat) (P Q:Nat ->Nat),j<=lb.length/\ i=.int .i64 j/\ Hid (JS w wr t (.slice a la.length ca) (.slice xa n d) (.slice b lb.length cb) (.slice x' n' d') g c (.slice ra ul.length rc) (LB j) ul P Q)) (fun i _=>lb.length - (intOf i).toNat);case atStart=>exact⟨0,_,_,_,_,Nat.zero_le _,rfl,H7⟩
   case round=>
    clear H7;obtain⟨j,g,c,P,Q,hj,rfl,HS⟩:=hrel;have a0:=HS.b.c0;by_cases Hf:j<lb.length
    ·have i1:(0:Int)<=(j:Int):=Int.natCast_nonneg _;have i2:(j:Int)<(lb.length:Int):=by omega
     obtain⟨ab,ao,rfl,Gq,Gb⟩:=(H2.below HS.low).resolve_left (by omega);obtain⟨pa,pc,⟨G,d0⟩,sg,B,c2,c3,c4⟩:=Gb j Hf;obtain⟨C,D,rfl,Hr,Ht⟩:=sg.resolve_left (by have:=(Gy j Hf).1;omega);have Hu:=Gy j Hf;obtain⟨y,hy⟩:∃y,gL lb j=y:=⟨_,rfl⟩;rw [hy] at G B c2 c3 c4 d0 Ht Hu;have HY:=hid hy;obtain⟨m,H,Z,U,I⟩:=y;dsimp only at G B c2 c3 c4 d0 Ht Hu;obtain⟨w5,H5⟩:∃w5,wr.alloc (.cells #[.slice (some ⟨C,D,none⟩) m.length pc,.bool H,.int .i64 Z,.int .i64 U,.string I] 77)=w5:=⟨_,rfl⟩;have b5:Below wr.heap.size wr w5:=by rw [<- H5];exact zO _ _
     have X5:Bx5 w5 wr.heap.size (.slice (some ⟨C,D,none⟩) m.length pc) (.bool H) (.int .i64 Z) (.int .i64 U) (.string I):=by rw [<- H5];exact Bx5.new _ _ _ _ _ _ _
     have Hw:=hid (HS.below b5);have H9:=hid X5;have Gm:=hid d0;have Hs:=hid Hu;have H8:Hid (QaT w5 (some ⟨C,D,none⟩) m):=hid (.inr ⟨C,D,rfl,Nat.lt_of_lt_of_le Hr b5.size,fun i hi=>(b5.cell (p:=⟨C,D+i,none⟩) Hr).trans (Ht i hi)⟩);have x0:=X5.c0;have x1:=X5.c1;have x2:=X5.c2;have x3:=X5.c3;have x4:=X5.c4;clear hy Gb sg Ht Hr Gq b5 X5 d0 Hu HS;have hh:=hid (fun z (u:Below w5.heap.size w5 z)=>Qmz xa n d R F T Z U z (by omega) ((H3.below Hw.low).below u));have z1:=Hw.a.c1;go_wp2_with fail;refine(hh w5 zI).mono ?_;rintro e O ⟨rfl,b6⟩;have A:=hid (Hw.below b6);have He:=hid (H9.below b6 H9.lt);have Hz:=hid b6;clear z1 hh b6 x0 x1 x2 x3 x4 a0 G B c2 c3 c4 H5;cases hh:Qct R F T Z U U n with
     | false=>
      have Hy:Hid (Qc0 ⟨m,H,Z,U,I⟩ (LB j)=LB (j+1)):=hid (by rw [H0.yes j Hf (by rw [HY.out];exact fun h=>by unfold Qcu at h;rw [hh] at h;cases h),HY.out]);clear hh;have Hd:Hid (∀w',Below O.heap.size O w' ->(w'.cell? ⟨wr.heap.size,0,none⟩=some (.slice (some ⟨C,D,none⟩) m.length pc)/\ w'.cell? ⟨wr.heap.size,1,none⟩=some (.bool H)/\ w'.cell? ⟨wr.heap.size,2,none⟩=some (.int .i64 Z)/\ w'.cell? ⟨wr.heap.size,3,none⟩=some (.int .i64 U)/\ w'.cell? ⟨wr.heap.size,4,none⟩=some (.string I))):=hid (fun w' b=>by
       have X:=He.below b He.lt;exact⟨X.c0,X.c1,X.c2,X.c3,X.c4⟩)
      have Hl:Hid (∀w',Below O.heap.size O w' ->Calls Tryz.prog 88 #[.agg #[.slice (some ⟨C,D,none⟩) m.length pc,.bool H,.int .i64 Z,.int .i64 U,.string I]] w' fun e w''=>∃q cap,e=.returned (.agg #[.slice (some ⟨q,0,none⟩) m.length cap,.bool H,.int .i64 Z,.int .i64 U,.string I])/\ Below w'.heap.size w' w''/\ w'.heap.size<=q/\ q<w''.heap.size/\ Wr w'' q 9 m.length (fun t=> .string (gS m t))/\ m.length<=cap/\ cap<=9223372036854775807):=hid (fun w' b=>by
       obtain⟨G7,G8,e,Hq,Ga⟩:=((H8.below Hz.out).below b).resolve_left (by have:=Hs.1;omega);injection e with e;injection e with e1 e2;subst e1;subst e2;exact Qda C D m.length pc ⟨m,H,Z,U,I⟩ w' rfl (by have:=Hs.2;omega) Hq Ga)
      have Hm:Hid (∀z q cap,Below O.heap.size O z ->O.heap.size<=q ->q<z.heap.size ->Wr z q 9 m.length (fun t=> .string (gS m t)) ->m.length<=cap/\ cap<=9223372036854775807 ->Calls Tryz.prog 87 #[.slice (some ⟨g,0,none⟩) (LB j).length c,.agg #[.slice (some ⟨q,0,none⟩) m.length cap,.bool H,.int .i64 Z,.int .i64 U,.string I]] z fun e w'=>(∃g' cap' P' Q',e=.returned (.slice (some ⟨g',0,none⟩) ((LB j).length+1) cap')/\ z.heap.size<=g'/\ LC w' w.heap.size (.slice (some ⟨g',0,none⟩) ((LB j).length+1) cap') (LB (j+1)) P' Q')/\ Below z.heap.size z w'):=hid (fun z q cap u hq1 hq2 hw hcap=>by
       have hJ:=A.below u;have hs:=hJ.low.size;have G5:=A.low.size;rw [<- Hy.out];exact QfR g c (LB j) P Q z w.heap.size q cap m H Z U I hJ.lc hs (by have h1:=H0.len j (by omega);have h2:=Gd.out;omega) (fun i hi=>by have:=(H0.pth j (by omega) i hi).2;omega) (by have:=Hs.2;omega) ⟨by omega,hq2⟩ hw hcap)
      have Hv:Hid ((LB j).length+1=(LB (j+1)).length):=hid (by rw [<- Hy.out,Qbz]);have Hx:Hid (wr.heap.size≠t):=hid (fun e=>by
       have h1:=He.c1;rw [e,A.o.c1] at h1;cases h1)
      have t0:=(A.o.below zI.drew A.o.lt).c0;go_wp2_with fail;refine zR (S:=fun w'=>w'.cell? ⟨wr.heap.size,0,none⟩=some (.slice (some ⟨C,D,none⟩) m.length pc)/\ w'.cell? ⟨wr.heap.size,1,none⟩=some (.bool H)/\ w'.cell? ⟨wr.heap.size,2,none⟩=some (.int .i64 Z)/\ w'.cell? ⟨wr.heap.size,3,none⟩=some (.int .i64 U)/\ w'.cell? ⟨wr.heap.size,4,none⟩=some (.string I)) (Hd _ zI.drew) (fun qh=> ?_);refine tZ 0 66 ?_;refine tZ 2 68 ?_;refine Qbu (i:=1) (j:=3) (d:=some 67) (d':=some 69) (by kernel_rfl) (by kernel_rfl) (by kernel_rfl) ?_ ?_
      ·
       intro o ho Gc K k;simp only [gZa,gZb,gZc,gZd] at ho;subst ho;go_simp;refine k.out _ _ (Hd _ zI.drew) (fun qh=> ?_);clear k K;try simp only [zP]
       clear t0;refine cZ 3 ?_;intro K k;go_simp;refine(Hl _ zI.drew).mono ?_;rintro e z ⟨q7,Hg,rfl,u,Hb,Hc,Hj,Ha⟩;have Y:Below O.heap.size O z:=⟨u.os,u.tape,u.output,u.size,u.block⟩;refine k.out _ _ (Hd _ Y) (fun qh=> ?_);clear k K;try simp only [zP]
       have Hh:=hid (Hm z q7 Hg Y Hb Hc Hj Ha);clear Hj Ha Hb Hc;refine cZ 4 ?_;intro K k;go_simp;refine Hh.mono ?_;rintro e N ⟨⟨M,E,P8,Q8,rfl,Hp,l8⟩,b8⟩;have L:=Qac Y b8;have Ho:=hid (A.set L l8 Hv.out (by have:=Y.size;omega) (fun i hi=>(H0.pth (j+1) Hf i hi).1));have O8:=A.o.below L A.o.lt;refine k.out _ _ (Hd _ L) (fun qh=> ?_);clear k K;try simp only [zP]
       refine tZ 5 71 ?_;have o0:=O8.c0;have of:=O8.f 0;have V:=((He.below L He.lt).setFar t (.slice (some ⟨M,0,none⟩) ((LB j).length+1) E) Hx.out);have Hi:=hid (⟨V.c0,V.c1,V.c2,V.c3,V.c4⟩:(N.setCell ⟨t,0,none⟩ (.slice (some ⟨M,0,none⟩) ((LB j).length+1) E)).cell? ⟨wr.heap.size,0,none⟩=some (.slice (some ⟨C,D,none⟩) m.length pc)/\ (N.setCell ⟨t,0,none⟩ (.slice (some ⟨M,0,none⟩) ((LB j).length+1) E)).cell? ⟨wr.heap.size,1,none⟩=some (.bool H)/\ (N.setCell ⟨t,0,none⟩ (.slice (some ⟨M,0,none⟩) ((LB j).length+1) E)).cell? ⟨wr.heap.size,2,none⟩=some (.int .i64 Z)/\ (N.setCell ⟨t,0,none⟩ (.slice (some ⟨M,0,none⟩) ((LB j).length+1) E)).cell? ⟨wr.heap.size,3,none⟩=some (.int .i64 U)/\ (N.setCell ⟨t,0,none⟩ (.slice (some ⟨M,0,none⟩) ((LB j).length+1) E)).cell? ⟨wr.heap.size,4,none⟩=some (.string I));clear O8 V;refine cZ 6 ?_;intro K k;go_simp;refine k.out _ _ Hi.out (fun qh=> ?_);clear k K;try simp only [zP]
       refine zD ?_;clear qh u Y b8 L l8 Hp o0 of Hh Hm Hl Hd Hi;go_wp2_with fail;go_roundw;case rel=>exact⟨j+1,M,E,P8,Q8,Hf,by go_num,Ho⟩
       case measure=>simp [intOf];omega
      ·
       clear t0;intro o ho Gc K k;simp only [gZa,gZb,gZc,gZd] at ho;subst ho;go_simp;refine(Hl _ zI.drew).mono ?_;rintro e z ⟨q7,Hg,rfl,u,Hb,Hc,Hj,Ha⟩;have Y:Below O.heap.size O z:=⟨u.os,u.tape,u.output,u.size,u.block⟩;refine k.out _ _ (Hd _ Y) (fun qh=> ?_);clear k K;try simp only [zP]
       have t0:=(A.o.below Y A.o.lt).c0;refine cZ 1 ?_;intro K k;go_simp;refine k.out _ _ (Hd _ Y) (fun qh=> ?_);clear k K;try simp only [zP]
       clear t0;have Hh:=hid (Hm z q7 Hg Y Hb Hc Hj Ha);clear Hj Ha Hb Hc;refine cZ 4 ?_;intro K k;go_simp;refine Hh.mono ?_;rintro e N ⟨⟨M,E,P8,Q8,rfl,Hp,l8⟩,b8⟩;have L:=Qac Y b8;have Ho:=hid (A.set L l8 Hv.out (by have:=Y.size;omega) (fun i hi=>(H0.pth (j+1) Hf i hi).1));have O8:=A.o.below L A.o.lt;refine k.out _ _ (Hd _ L) (fun qh=> ?_);clear k K;try simp only [zP]
       refine tZ 5 71 ?_;have o0:=O8.c0;have of:=O8.f 0;have V:=((He.below L He.lt).setFar t (.slice (some ⟨M,0,none⟩) ((LB j).length+1) E) Hx.out);have Hi:=hid (⟨V.c0,V.c1,V.c2,V.c3,V.c4⟩:(N.setCell ⟨t,0,none⟩ (.slice (some ⟨M,0,none⟩) ((LB j).length+1) E)).cell? ⟨wr.heap.size,0,none⟩=some (.slice (some ⟨C,D,none⟩) m.length pc)/\ (N.setCell ⟨t,0,none⟩ (.slice (some ⟨M,0,none⟩) ((LB j).length+1) E)).cell? ⟨wr.heap.size,1,none⟩=some (.bool H)/\ (N.setCell ⟨t,0,none⟩ (.slice (some ⟨M,0,none⟩) ((LB j).length+1) E)).cell? ⟨wr.heap.size,2,none⟩=some (.int .i64 Z)/\ (N.setCell ⟨t,0,none⟩ (.slice (some ⟨M,0,none⟩) ((LB j).length+1) E)).cell? ⟨wr.heap.size,3,none⟩=some (.int .i64 U)/\ (N.setCell ⟨t,0,none⟩ (.slice (some ⟨M,0,none⟩) ((LB j).length+1) E)).cell? ⟨wr.heap.size,4,none⟩=some (.string I));clear O8 V;refine cZ 6 ?_;intro K k;go_simp;refine k.out _ _ Hi.out (fun qh=> ?_);clear k K;try simp only [zP]
       refine zD ?_;clear qh u Y b8 L l8 Hp o0 of Hh Hm Hl Hd Hi;go_wp2_with fail;go_roundw;case rel=>exact⟨j+1,M,E,P8,Q8,Hf,by go_num,Ho⟩
       case measure=>simp [intOf];omega
     | true=>
      have Gp:Hid (JS w O t (.slice a la.length ca) (.slice xa n d) (.slice (some ⟨ab,ao,none⟩) lb.length cb) (.slice x' n' d') g c (.slice ra ul.length rc) (LB (j+1)) ul P Q):=hid (by
       rw [H0.no j Hf (by rw [HY.out];exact fun h=>h hh)];exact A.out)
      clear hh;go_wp2_with fail;go_roundw;case rel=>exact⟨j+1,g,c,P,Q,Hf,by go_num,Gp⟩
      case measure=>simp [intOf];omega
    ·obtain rfl:j=lb.length:=by omega
     rw [Gv.out] at HS;have o0:=HS.o.c0;have o1:=HS.o.c1;have r0:=HS.r.c0;have r1:=HS.r.c1;have f0:=HS.r.f 0;have f1:=HS.r.f 1;have HC:=hid (HS.r.set (.slice (some ⟨g,0,none⟩) J.length c) (.slice ra ul.length rc));go_wp2_with fail;have s0:=HC.c0;have s1:=HC.c1;have hP:∀i,i<J.length ->P i≠w.heap.size+1+1:=fun i hi e=>by
      have hp:=H0.pth lb.length zL;rw [Gv.out] at hp;have hw:=(HS.lc.pt i hi).2.2.2.1.cell (i:=0) (by have:=(hp i hi).1;omega);rw [e,HS.r.c0] at hw;cases hw
     have G4:(Value.slice (some ⟨g,0,none⟩) J.length c).ownBlock≠some (w.heap.size+1+1):=fun e=>by have h1:=Qbt e;have h2:=HS.hg;omega
     have G6:(Value.slice ra ul.length rc).ownBlock≠some (w.heap.size+1+1):=fun e=>by have:=HS.hv2 _ e;omega
     refine zF (v:=.agg #[.slice (some ⟨g,0,none⟩) J.length c,.slice ra ul.length rc]) (by simp [results,Tryz.results51,go_sem,s0,s1]) ⟨⟨g,c,ra,rc,P,Q,by rw [G0.out],?_,?_⟩,?_⟩
     ·exact(HS.lc.set _ _ G4 hP).set _ _ G4 hP
     ·rw [G0.out];exact(HS.fr.setFar _ _ G6).setFar _ _ G6
     ·exact(HS.low.setCell (by simp;omega) _).setCell (by simp;omega) _
def jnU (S S':Sx):List Rn:=unL S.R S.F S.T S.n S'.R S'.F S'.T S'.n
noncomputable def jnS (S S':Sx):Sx:=⟨jn S.R S.F S.T S.n S.l S'.R S'.F S'.T S'.n S'.l,(jnU S S').length,fun i=>(gR (jnU S S') i).1,fun i=>(gR (jnU S S') i).2.1,fun i=>(gR (jnU S S') i).2.2⟩
noncomputable def stB (S:Sx):Bool:=yes (QaQ S.R S.F S.T S.n S.l)
noncomputable def jnF (S S':Sx):Bool:=decide ((jnS S S').l.length<=1000) && decide ((jnS S S').n<=1000)
noncomputable def jnB (S S':Sx):Bool:=stB S && stB S' && jnF S S'
def Sx.mt:Sx:=⟨[],0,fun _=>0,fun _=>0,fun _=>0⟩
noncomputable def jnZ (S S':Sx):Sx:=if jnB S S' then jnS S S' else Sx.mt
theorem Qim {S:Sx}(h:stB S=true):QaQ S.R S.F S.T S.n S.l:=Classical.byContradiction fun hn=>by unfold stB at h;rw [Qaj hn] at h;cases h
theorem Qmy {S S':Sx}(h:jnB S S'=true):jnZ S S'=jnS S S':=by unfold jnZ;rw [if_pos h]
theorem Qmx {S S':Sx}(h:jnB S S'=false):jnZ S S'=Sx.mt:=by unfold jnZ;rw [if_neg (by rw [h];simp)]
structure SNc (w:World)(lo:Nat)(a:Option Addr)(c:Nat)(x:Option Addr)(S:Sx):Prop where
 nc:∀w':World,w.heap.size<=w'.heap.size ->(∀q,lo<=q ->q<w.heap.size ->w'.heap[q]? =w.heap[q]?) ->Qdy w' a S.l/\ Qb5 w' x S.n S.R S.F S.T
 cp:S.l.length<=c/\ c<=9223372036854775807
theorem SNc.at {w:World}{lo c:Nat}{a x:Option Addr}{S:Sx}(h:SNc w lo a c x S):Qdy w a S.l/\ Qb5 w x S.n S.R S.F S.T:=h.nc w zL (fun _ _ _=>rfl)
theorem SNc.move {w w1:World}{lo lo' c:Nat}{a x:Option Addr}{S:Sx}(h:SNc w lo a c x S)(hl:lo'<=lo)(hs:w.heap.size<=w1.heap.size)(hq:∀q,lo<=q ->q<w.heap.size ->w1.heap[q]? =w.heap[q]?):SNc w1 lo' a c x S:=
 ⟨fun w' h1 h2=>h.nc w' (Nat.le_trans hs h1) (fun q h3 h4=>(h2 q (Nat.le_trans hl h3) (Nat.lt_of_lt_of_le h4 hs)).trans (hq q h3 h4)),h.cp⟩
theorem SNc.below {w w1:World}{lo c:Nat}{a x:Option Addr}{S:Sx}(h:SNc w lo a c x S)(hb:Below w.heap.size w w1):SNc w1 lo a c x S:=h.move zL hb.size (fun q _ h2=>hb.block q h2)
theorem SNc.mt (w:World)(lo:Nat)(a x:Option Addr):SNc w lo a 0 x Sx.mt:=⟨fun w' _ _=>⟨.inl rfl,.inl rfl⟩,Nat.le_refl _,by omega⟩
theorem LC.cp {w:World}{lo g n c:Nat}{l:List Lf}{P Q:Nat ->Nat}(h:LC w lo (.slice (some ⟨g,0,none⟩) n c) l P Q)(hn:l.length=n):l.length<=c/\ c<=9223372036854775807:=by
 rcases h.row.2 with ⟨e,r⟩|⟨u,m,q,j,y,v,z,k,t,o⟩
 ·injection e with e1 e2 e3;cases e1
 ·injection j with e1 e2 e3;subst e3;unfold maxLen at k;omega
theorem LC.lcap {w:World}{lo g n c:Nat}{l:List Lf}{P Q:Nat ->Nat}(h:LC w lo (.slice (some ⟨g,0,none⟩) n c) l P Q)(hn:n=l.length):Qdy w (some ⟨g,0,none⟩) l:=by
 refine .inr ⟨g,0,rfl,(h.lt g rfl).2,fun i hi=> ?_⟩;obtain⟨j,k,m,q,r⟩:=h.cell hn hi;refine⟨some ⟨P i,0,none⟩,Q i,⟨?_,(h.pt i hi).2.2.2.2⟩,h.seg hi,?_,?_,?_,?_⟩
 ·rw [Nat.zero_add];exact j
 ·rw [Nat.zero_add];exact k
 ·rw [Nat.zero_add];exact m
 ·rw [Nat.zero_add];exact q
 ·rw [Nat.zero_add];exact r
theorem LC.lseg {w:World}{lo g n c:Nat}{l:List Lf}{P Q:Nat ->Nat}(h:LC w lo (.slice (some ⟨g,0,none⟩) n c) l P Q)(hn:n=l.length):Qew w (some ⟨g,0,none⟩) l:=by
 refine .inr ⟨g,0,rfl,(h.lt g rfl).2,fun i hi=> ?_⟩;obtain⟨j,k,m,q,r⟩:=h.cell hn hi;refine⟨some ⟨P i,0,none⟩,Q i,?_,h.seg hi,?_,?_,?_,?_⟩
 ·rw [Nat.zero_add];exact j
 ·rw [Nat.zero_add];exact k
 ·rw [Nat.zero_add];exact m
 ·rw [Nat.zero_add];exact q
 ·rw [Nat.zero_add];exact r
theorem QoC {w:World}{lo g c:Nat}{ra:Option Addr}{rc:Nat}{S S':Sx}{P Q:Nat ->Nat}(h:LC w lo (.slice (some ⟨g,0,none⟩) (jnS S S').l.length c) (jnS S S').l P Q)(hf:FR w lo (.slice ra (jnU S S').length rc) (jnU S S')):SNc w lo (some ⟨g,0,none⟩) c ra (jnS S S'):=⟨fun w' h1 h2=>by
 have k:=h.move h1 h2;have j:FR w' lo (.slice ra (jnU S S').length rc) (jnU S S'):=QaD hf (fun q hq=>h2 q (World.ownsRow.lt hf q hq).1 (World.ownsRow.lt hf q hq).2);obtain⟨a,m,e,s,_,_⟩:=j.fs;injection e with e1 e2 e3;subst e1;exact⟨k.lcap rfl,s.rseg⟩,h.cp rfl⟩
theorem Qh5 {S:Sx}(h:QaQ S.R S.F S.T S.n S.l):∀i,i<S.l.length ->1<=(gL S.l i).p.length/\ (gL S.l i).p.length<=8:=fun i hi=>by
 have:=(h.2.2.1 i hi).1;exact⟨this.1.1,this.1.2.1⟩
theorem QnD {S S':Sx}(hs:StW S.R S.F S.T S.n S.l)(hs':StW S'.R S'.F S'.T S'.n S'.l):(jnS S S').l.length<=2000/\ (jnU S S').length<=4000:=by
 have k:=hs.2.1;have m:=hs'.2.1;have q:=hs.1;have r:=hs'.1;constructor
 ·have e:(jnS S S').l=Qev (fun x=>¬Qcu S.R S.F S.T S.n x) S'.l (Qev (fun x=>x∈S'.l \/¬Qcu S'.R S'.F S'.T S'.n x) S.l [] S.l.length) S'.l.length:=rfl;rw [e];have u:=Qd3 (P:=fun x=>¬Qcu S.R S.F S.T S.n x) (ls:=S'.l) (out:=Qev (fun x=>x∈S'.l \/¬Qcu S'.R S'.F S'.T S'.n x) S.l [] S.l.length) S'.l.length;have j:=Qd3 (P:=fun x=>x∈S'.l \/¬Qcu S'.R S'.F S'.T S'.n x) (ls:=S.l) (out:=[]) S.l.length;simp at j;omega
 ·have:=Qdh (flat S'.R S'.F S'.T S'.n) (flat S.R S.F S.T S.n);rw [Qbp,Qbp] at this;show (unF (flat S.R S.F S.T S.n) (flat S'.R S'.F S'.T S'.n)).length<=4000;omega
theorem QgF (a x:Option Addr)(m n c d:Nat)(w:World)(hm:m<=1048576)(hn:n<=1048576):Calls Tryz.prog 52 #[.agg #[.slice a m c,.slice x n d]] w fun e w'=>e=.returned (.bool (decide (m<=1000) && decide (n<=1000)))/\ Below w.heap.size w w':=by
 obtain⟨W,q⟩:∃W,w.alloc (.cells #[.slice a m c,.slice x n d] 29)=W:=⟨_,rfl⟩;have v:Below w.heap.size w W:=by rw [<- q];exact zO _ _
 have u:Bx2 W w.heap.size (.slice a m c) (.slice x n d):=by rw [<- q];exact Bx2.made _ _ _ _
 have r:=hid v;have i:=u.c0;have p:=u.c1;have j:Hid (∀b:Bool,(b=true↔m<=1000/\ n<=1000) ->(decide (m<=1000) && decide (n<=1000))=b):=hid (fun b hb=>by
  cases b with
  | true=>have:=hb.1 rfl;simp [this.1,this.2]
  | false=>
   cases h:(decide (m<=1000) && decide (n<=1000)) with
   | false=>rfl
   | true=>exact absurd (hb.2 (by simpa using h)) (by simp))
 obtain⟨B,g⟩:∃B,(decide (m<=1000) && decide (n<=1000))=B:=⟨_,rfl⟩;rw [g] at j ⊢;clear v u g;by_cases y:m<=1000
 ·have t:(m:Int)<=1000:=by omega
  by_cases z:n<=1000
  ·have o:(n:Int)<=1000:=by omega
   have k:=hid (j true ⟨fun _=>⟨y,z⟩,fun _=>rfl⟩);clear j;go_enter Tryz.func52,Tryz.ntmps52;go_wp2_with fail;try rw [q]
   go_ret;exact⟨Qa8 k.symm,r.out⟩
  ·have o:¬(n:Int)<=1000:=by omega
   have k:=hid (j false ⟨fun h=>by simp at h,fun h=>absurd h.2 z⟩);clear j;go_enter Tryz.func52,Tryz.ntmps52;go_wp2_with fail;try rw [q]
   go_ret;exact⟨Qa8 k.symm,r.out⟩
 ·have t:¬(m:Int)<=1000:=by omega
  have k:=hid (j false ⟨fun h=>by simp at h,fun h=>absurd h.1 y⟩);clear j;go_enter Tryz.func52,Tryz.ntmps52;go_wp2_with fail;try rw [q]
  go_ret;exact⟨Qa8 k.symm,r.out⟩
theorem QjB (sa sx ta tx:Option Addr)(c d c' d':Nat)(S S':Sx)(w:World)(hm:S.Sm)(hm':S'.Sm)(h:SCt w sa sx S)(h':SCt w ta tx S'):
  Calls Tryz.prog 25 #[.agg #[.slice sa S.l.length c,.slice sx S.n d],.agg #[.slice ta S'.l.length c',.slice tx S'.n d']] w fun e w'=>∃a m x t,e=.returned (.tuple #[.agg #[.slice a (jnZ S S').l.length m,.slice x (jnZ S S').n t],.bool (jnB S S')])/\ SNc w' w.heap.size a m x (jnZ S S')/\ Below w.heap.size w w'/\ (jnZ S S').l.length<=m/\ m<=9223372036854775807:=by
 obtain⟨W,E⟩:∃W,((w.alloc (.cells #[.slice sa S.l.length c,.slice sx S.n d] 29)).alloc (.cells #[.slice ta S'.l.length c',.slice tx S'.n d'] 29)).alloc (.cells #[.slice none 0 0,.slice none 0 0] 29)=W:=⟨_,rfl⟩;have D:Below w.heap.size w W:=by rw [<- E];exact(Qak _ _ _).alloc (by simp;omega) _
 have K:Bx2 W w.heap.size (.slice sa S.l.length c) (.slice sx S.n d):=by rw [<- E];exact((Bx2.made w _ _ _).allocs _).allocs _
 have B0:Bx2 W (w.heap.size+1) (.slice ta S'.l.length c') (.slice tx S'.n d'):=by
  rw [<- E];have:=Bx2.made (w.alloc (.cells #[.slice sa S.l.length c,.slice sx S.n d] 29)) (.slice ta S'.l.length c') (.slice tx S'.n d') 29;exact(by simpa using this:Bx2 _ (w.heap.size+1) _ _).allocs _
 have R0:Bx2 W (w.heap.size+1+1) (.slice none 0 0) (.slice none 0 0):=by
  rw [<- E];simpa using Bx2.made ((w.alloc (.cells #[.slice sa S.l.length c,.slice sx S.n d] 29)).alloc (.cells #[.slice ta S'.l.length c',.slice tx S'.n d'] 29)) (.slice none 0 0) (.slice none 0 0) 29
 have zW:W.heap.size=w.heap.size+3:=by rw [<- E];simp
 have HS:=hid (h.below D);have Hm:=hid (h'.below D);have X:=hid (Qbv sa c S.l sx S.n d S.R S.F S.T W hm.l1 hm.p1 hm.n1 HS.lf HS.rn);have Hc:=hid (fun w1 (k:Below W.heap.size W w1)=>Qbv ta c' S'.l tx S'.n d' S'.R S'.F S'.T w1 hm'.l1 hm'.p1 hm'.n1 (Hm.below k).lf (Hm.below k).rn);have L:=hid K;have i:=hid B0;have Hy:=hid R0;have Ht:=hid D;have H7:=hid zW;have k0:=K.c0;have k1:=K.c1;change Hid (Calls _ _ _ _ fun e w'=>e=.returned (.bool (stB S))/\ _) at X;obtain⟨B,A⟩:∃B,stB S=B:=⟨_,rfl⟩;obtain⟨B',Hp⟩:∃B,stB S'=B:=⟨_,rfl⟩;have Ho:=hid A;have Hb:=hid Hp;have Hd:Hid (∀w1,Below W.heap.size W w1 ->Calls Tryz.prog 34 #[.agg #[.slice ta S'.l.length c',.slice tx S'.n d']] w1 fun e w'=>e=.returned (.bool B')/\ Below w1.heap.size w1 w'):=hid (fun w1 k=>by rw [<- Hp];exact Hc w1 k);rw [A] at X;clear D K B0 R0 zW h h' A Hp Hc;go_enter Tryz.func25,Tryz.ntmps25;go_wp2_with fail;try rw [E]
 clear E;refine X.mono ?_;rintro e w1 ⟨rfl,k⟩;have Hf:=hid (Ht.trans (k.mono Ht.size));have H0:=hid k;have b:=hid (Hy.below k Hy.lt);clear k0 k1 X;cases B with
 | false=>
  have j:Hid (jnB S S'=false/\ jnZ S S'=Sx.mt):=hid (by
   have e:jnB S S'=false:=by unfold jnB;rw [Ho.out];rfl
   exact⟨e,Qmx e⟩)
  clear k;have r0:=b.c0;have r1:=b.c1;have f0:=b.f 0;have f1:=b.f 1;have r:=hid (b.set (.slice none 0 0) (.slice none 0 0));go_wp2_with fail;have U:=r.c0;have V:=r.c1;refine zF (v:=.tuple #[.agg #[.slice none 0 0,.slice none 0 0],.bool false]) (by simp [results,Tryz.results25,go_sem,U,V]) ⟨none,0,none,0,by rw [j.1,j.2];rfl,?_,?_⟩
  ·rw [j.2];exact SNc.mt _ _ _ _
  ·exact⟨(Hf.setCell (by simp;omega) _).setCell (by simp;omega) _,by rw [j.2];exact⟨Nat.le_refl _,by omega⟩⟩
 | true=>
  have l0:=(i.below k i.lt).c0;have J:=(i.below k i.lt).c1;clear k;go_wp2_with fail;refine(Hd w1 H0.out).mono ?_;rintro e w2 ⟨rfl,b2⟩;have Hg:=hid (Hf.trans (b2.mono Hf.size));have s:=hid (Qac H0.out b2);have p:=hid (b.below b2 b.lt);clear b2 l0 J Hd;cases B' with
  | false=>
   have j:Hid (jnB S S'=false/\ jnZ S S'=Sx.mt):=hid (by
    have e:jnB S S'=false:=by unfold jnB;rw [Hb.out];simp
    exact⟨e,Qmx e⟩)
   have r0:=p.c0;have r1:=p.c1;have f0:=p.f 0;have f1:=p.f 1;have r:=hid (p.set (.slice none 0 0) (.slice none 0 0));go_wp2_with fail;have U:=r.c0;have V:=r.c1;refine zF (v:=.tuple #[.agg #[.slice none 0 0,.slice none 0 0],.bool false]) (by simp [results,Tryz.results25,go_sem,U,V]) ⟨none,0,none,0,by rw [j.1,j.2];rfl,?_,?_⟩
   ·rw [j.2];exact SNc.mt _ _ _ _
   ·exact⟨(Hg.setCell (by simp;omega) _).setCell (by simp;omega) _,by rw [j.2];exact⟨Nat.le_refl _,by omega⟩⟩
  | true=>
   have H:=Qim Ho.out;have I:=Qim Hb.out;have hc:=Qao.1 H.1;have Hs:=Qao.1 I.1;have Hn:=HS.below s.out;have Ha:=Hm.below s.out;have Hj:=hid (Qm2 sa ta c c' S.l S'.l sx S.n d S.R S.F S.T tx S'.n d' S'.R S'.F S'.T w2 hc.2 Hs.2 hc.1 Hs.1 H.2.1 I.2.1 (Qh5 H) (Qh5 I) Hn.lf Ha.lf Hn.rn Ha.rn);have Hl:Hid ((jnS S S').l.length<=2000/\ (jnU S S').length<=4000):=hid (QnD H.w I.w);have l0:=(L.below s.out L.lt).c0;have J:=(L.below s.out L.lt).c1;have l2:=(i.below s.out i.lt).c0;have l3:=(i.below s.out i.lt).c1;have Hi:Hid (jn S.R S.F S.T S.n S.l S'.R S'.F S'.T S'.n S'.l=(jnS S S').l/\ unL S.R S.F S.T S.n S'.R S'.F S'.T S'.n=jnU S S'):=hid ⟨rfl,rfl⟩;rw [Hi.1,Hi.2] at Hj;obtain⟨y,Hq⟩:∃y,(jnS S S').l.length=y:=⟨_,rfl⟩;obtain⟨z,Hr⟩:∃z,(jnU S S').length=z:=⟨_,rfl⟩;rw [Hq,Hr] at Hj Hl;have N:=hid Hq;have Hk:=hid Hr;clear H I hc Hs Hn Ha Hq Hr Hi;go_wp2_with fail;refine Hj.mono ?_;rintro e w3 ⟨⟨M,o,O,Y,P,Q,rfl,jl,jf⟩,b3⟩;obtain⟨Z,He⟩:∃Z,w3.alloc (.cells #[.slice (some ⟨M,0,none⟩) y o,.slice O z Y] 29)=Z:=⟨_,rfl⟩;have b4:Below w3.heap.size w3 Z:=by rw [<- He];exact zO _ _
   have C:Bx2 Z w3.heap.size (.slice (some ⟨M,0,none⟩) y o) (.slice O z Y):=by rw [<- He];exact Bx2.made _ _ _ _
   have H5:Hid (SNc Z w2.heap.size (some ⟨M,0,none⟩) o O (jnS S S')):=hid (SNc.below (QoC (by rw [N.out];exact jl) (by rw [Hk.out];exact jf)) b4);have Hu:=hid (Hg.trans ((Qac b3 b4).mono Hg.size));have Hz:=hid (p.below (Qac b3 b4) p.lt);have Hh:=hid (QgF (some ⟨M,0,none⟩) O y z o Y Z (by have:=Hl.out;omega) (by have:=Hl.out;omega));have H1:=hid C;have H3:Hid (w.heap.size+3<=w2.heap.size):=hid (by have h1:=H7.out;have h2:=s.size;omega);have x0:=C.c0;have x1:=C.c1;have Hw:Hid ((decide (y<=1000) && decide (z<=1000))=jnF S S'):=hid (by rw [<- N.out,<- Hk.out];rfl);rw [Hw.out] at Hh;obtain⟨B,A⟩:∃B,jnF S S'=B:=⟨_,rfl⟩;have Hx:=hid A;rw [A] at Hh;have H4:Hid (y<=o/\ o<=9223372036854775807):=hid (by
    rcases jl.row.2 with ⟨e,_⟩|⟨g,cap,Ga,e,_,_,H9,H8,_⟩
    ·cases e
    ·injection e with e1 e2 e3;rw [e3,e2];exact⟨H9,by unfold maxLen at H8;omega⟩)
   clear jl jf b3 b4 C l0 J l2 l3 A Hw;go_wp2_with fail;try rw [He]
   clear He;refine Hh.mono ?_;rintro e w5 ⟨rfl,G⟩;have Hv:=hid (Hu.trans (G.mono Hu.size));have u:=hid (Hz.below G Hz.lt);have H2:=hid (H1.below G H1.lt);have H6:=hid (H5.below G);clear x0 x1 G;cases B with
   | false=>
    have j:Hid (jnB S S'=false/\ jnZ S S'=Sx.mt):=hid (by
     have e:jnB S S'=false:=by unfold jnB;rw [Hx.out];simp
     exact⟨e,Qmx e⟩)
    have r0:=u.c0;have r1:=u.c1;have f0:=u.f 0;have f1:=u.f 1;have r:=hid (u.set (.slice none 0 0) (.slice none 0 0));go_wp2_with fail;have U:=r.c0;have V:=r.c1;refine zF (v:=.tuple #[.agg #[.slice none 0 0,.slice none 0 0],.bool false]) (by simp [results,Tryz.results25,go_sem,U,V]) ⟨none,0,none,0,by rw [j.1,j.2];rfl,?_,?_⟩
    ·rw [j.2];exact SNc.mt _ _ _ _
    ·exact⟨(Hv.setCell (by simp;omega) _).setCell (by simp;omega) _,by rw [j.2];exact⟨Nat.le_refl _,by omega⟩⟩
   | true=>
    have j:Hid (jnB S S'=true/\ jnZ S S'=jnS S S'):=hid (by
     have e:jnB S S'=true:=by unfold jnB;rw [Hx.out,Ho.out,Hb.out];rfl
     exact⟨e,Qmy e⟩)
    have r0:=u.c0;have r1:=u.c1;have f0:=u.f 0;have f1:=u.f 1;have x0:=H2.c0;have x1:=H2.c1;have r:=hid (u.set (.slice (some ⟨M,0,none⟩) y o) (.slice O z Y));go_wp2_with fail;have U:=r.c0;have V:=r.c1;refine zF (v:=.tuple #[.agg #[.slice (some ⟨M,0,none⟩) y o,.slice O z Y],.bool true]) (by simp [results,Tryz.results25,go_sem,U,V]) ⟨some ⟨M,0,none⟩,o,O,Y,by rw [j.1,j.2,N.out,show (jnS S S').n=z from Hk.out],?_,?_⟩
    ·rw [j.2];exact H6.move (by have:=H3.out;omega) (by simp [World.setCell]) (fun q h1 h2=>by
      have:=H3.out;rw [zH _ _ _ _ (by simp;omega),zH _ _ _ _ (by simp;omega)])
    ·exact⟨(Hv.setCell (by simp;omega) _).setCell (by simp;omega) _,by rw [j.2,N.out];exact H4.out⟩
theorem Qge (sa sx ta tx:Option Addr)(c d c' d':Nat)(S S':Sx)(w:World)(hm:S.Sm)(hm':S'.Sm)(h:SCt w sa sx S)(h':SCt w ta tx S'):
  Calls Tryz.prog 25 #[.agg #[.slice sa S.l.length c,.slice sx S.n d],.agg #[.slice ta S'.l.length c',.slice tx S'.n d']] w fun e w'=>∃a m x t,e=.returned (.tuple #[.agg #[.slice a (jnZ S S').l.length m,.slice x (jnZ S S').n t],.bool (jnB S S')])/\ SNc w' w.heap.size a m x (jnZ S S')/\ Below w.heap.size w w':=
 (QjB sa sx ta tx c d c' d' S S' w hm hm' h h').mono fun e w' ⟨a,m,x,t,h1,h2,h3,_⟩=>⟨a,m,x,t,h1,h2,h3⟩
def hgN (N N1:List Ky ->Option (Nat×Nat))(k:Ky):List Ky ->Option (Nat×Nat)
 | []=>N []
 | y::r=>if y=k then N1 r else N (y::r)
def hgM (M M1:List Ky ->Dt ->Option ByteArray)(k:Ky):List Ky ->Dt ->Option ByteArray
 | []=>M []
 | y::r=>if y=k then M1 r else M (y::r)
def ApN (N N1:List Ky ->Option (Nat×Nat)):Prop:=∀p q x y,N p=some x ->N1 q=some y ->x.1≠y.1/\ x.1≠y.2/\ x.2≠y.1/\ x.2≠y.2
section
variable {w w' : World} {B c : Nat} {N N1 : List Ky -> Option (Nat × Nat)} {M M1 : List Ky -> Dt -> Option ByteArray}
theorem Tre.hang {x0 x1:Nat×Nat}{k:Ky}(h:Tre w B N M c)(h1:Tre w B N1 M1 c)(hN:N []=some x0)(hN1:N1 []=some x1)(hap:ApN N N1)(hg:w.grownBy w' (some x0.1))(hm:QaZ w' 113 Qbr Qdp x0.1 (c+1) (fun y=>if y=k then some x1 else N [y])):Tre w' B (hgN N N1 k) (hgM M M1 k) (c+1):=by
 have A:∀p x,N p=some x ->p≠[] ->w'.heap[x.1]? =w.heap[x.1]? :=fun p x hx hp=>hg.block _ (h.lt hx).1 (fun e=>hp ((h.apart p [] x x0 hx hN).2.1 (by injection e)));have b:∀p x,N p=some x ->w'.heap[x.2]? =w.heap[x.2]? :=fun p x hx=>hg.block _ (h.lt hx).2 (fun e=>(h.apart [] p x0 x hN hx).1 (by injection e with e;exact e.symm));have i:∀p x,N1 p=some x ->w'.heap[x.1]? =w.heap[x.1]? /\ w'.heap[x.2]? =w.heap[x.2]? :=fun p x hx=>by
  have a:=hap [] p x0 x hN hx;exact⟨hg.block _ (h1.lt hx).1 (fun e=>a.1 (by injection e with e;exact e.symm)),hg.block _ (h1.lt hx).2 (fun e=>a.2.1 (by injection e with e;exact e.symm))⟩
 have g:∀p x,hgN N N1 k p=some x ->(p=[]/\ x=x0) \/(∃r,p=k::r/\ N1 r=some x) \/(∃y r,p=y::r/\ y≠k/\ N (y::r)=some x):=fun p x hx=>by
  cases p with
  | nil=>exact .inl ⟨rfl,by simp only [hgN] at hx;rw [hN] at hx;exact(Option.some.inj hx).symm⟩
  | cons y r=>
   simp only [hgN] at hx;by_cases e:y=k
   ·rw [if_pos e] at hx;exact .inr (.inl ⟨r,by rw [e],hx⟩)
   ·rw [if_neg e] at hx;exact .inr (.inr ⟨y,r,rfl,e,hx⟩)
 refine⟨fun p x hx=> ?_,fun p x hx=> ?_,fun p q x y hx hy=> ?_,fun p x hx=> ?_,fun p hp=> ?_,fun p y hp=> ?_⟩
 ·rcases g p x hx with ⟨rfl,rfl⟩|⟨r,rfl,j⟩|⟨y,r,rfl,t,j⟩
  ·refine hm.ext fun y=> ?_;show (if y=k then some x1 else N [y])=hgN N N1 k [y];simp only [hgN];by_cases e:y=k
   ·rw [if_pos e,if_pos e,hN1]
   ·rw [if_neg e,if_neg e]
  ·refine(((h1.kids r x j).same (i r x j).1).mono (Nat.le_succ _)).ext fun z=> ?_;show N1 (r++[z])=hgN N N1 k (k::(r++[z]));simp [hgN]
  ·refine(((h.kids _ x j).same (A _ x j (by simp))).mono (Nat.le_succ _)).ext fun z=> ?_;show N (y::r++[z])=hgN N N1 k (y::(r++[z]));simp [hgN,t]
 ·rcases g p x hx with ⟨rfl,rfl⟩|⟨r,rfl,j⟩|⟨y,r,rfl,t,j⟩
  ·exact((h.marks [] x hN).same (b [] x hN)).mono (Nat.le_succ _)
  ·refine(((h1.marks r x j).same (i r x j).2).mono (Nat.le_succ _)).ext fun d=> ?_;simp [hgM]
  ·refine(((h.marks _ x j).same (b _ x j)).mono (Nat.le_succ _)).ext fun d=> ?_;simp [hgM,t]
 ·rcases g p x hx with ⟨rfl,rfl⟩|⟨r,rfl,j⟩|⟨u,r,rfl,t,j⟩
  ·rcases g q y hy with ⟨rfl,rfl⟩|⟨s,rfl,m⟩|⟨v,s,rfl,o,m⟩
   ·exact h.apart [] [] _ _ hN hN
   ·have a:=hap [] s x y hN m;exact⟨a.2.1,fun e=>absurd e a.1,fun e=>absurd e a.2.2.2⟩
   ·exact h.apart [] _ _ _ hN m
  ·rcases g q y hy with ⟨rfl,rfl⟩|⟨s,rfl,m⟩|⟨v,s,rfl,o,m⟩
   ·have a:=hap [] r y x hN j;exact⟨fun e=>a.2.2.1 e.symm,fun e=>absurd e.symm a.1,fun e=>absurd e.symm a.2.2.2⟩
   ·have a:=h1.apart r s x y j m;exact⟨a.1,fun e=>by rw [a.2.1 e],fun e=>by rw [a.2.2 e]⟩
   ·have a:=hap _ r y x m j;exact⟨fun e=>a.2.2.1 e.symm,fun e=>absurd e.symm a.1,fun e=>absurd e.symm a.2.2.2⟩
  ·rcases g q y hy with ⟨rfl,rfl⟩|⟨s,rfl,m⟩|⟨v,s,rfl,o,m⟩
   ·exact h.apart _ [] _ _ j hN
   ·have a:=hap _ s x y j m;exact⟨a.2.1,fun e=>absurd e a.1,fun e=>absurd e a.2.2.2⟩
   ·exact h.apart _ _ _ _ j m
 ·rcases g p x hx with ⟨rfl,rfl⟩|⟨r,rfl,j⟩|⟨y,r,rfl,t,j⟩
  ·exact h.lo [] _ hN
  ·exact h1.lo r x j
  ·exact h.lo _ x j
 ·cases p with
  | nil=>simp only [hgN] at hp;rw [hN] at hp;cases hp
  | cons y r=>
   simp only [hgN] at hp;by_cases e:y=k
   ·rw [if_pos e] at hp;show hgM M M1 k (y::r)=_;simp only [hgM];rw [if_pos e];exact h1.none' r hp
   ·rw [if_neg e] at hp;show hgM M M1 k (y::r)=_;simp only [hgM];rw [if_neg e];exact h.none' _ hp
 ·cases p with
  | nil=>simp only [hgN] at hp;rw [hN] at hp;cases hp
  | cons z r=>
   simp only [hgN,List.cons_append] at hp ⊢;by_cases e:z=k
   ·rw [if_pos e] at hp ⊢;exact h1.up r y hp
   ·rw [if_neg e] at hp ⊢;exact h.up (z::r) y hp
theorem Tre.new {x0:Nat×Nat}(hk:QaZ w 113 (α:=Ky) Qbr Qdp x0.1 0 (fun _=>none))(hm:QaZ w 75 (α:=Dt) dtV QeC x0.2 0 (fun _=>none))(hne:x0.1≠x0.2)(hB:B<=x0.1/\ B<=x0.2):Tre w B (fun z=>if z=[] then some x0 else none) (fun _ _=>none) 0:=by
 have nil:∀(p:List Ky) (x:Nat×Nat),(if p=[] then some x0 else none)=some x ->p=[]/\ x=x0:=fun p x hx=>by
  by_cases e:p=[]
  ·rw [if_pos e] at hx;exact⟨e,(Option.some.inj hx).symm⟩
  ·rw [if_neg e] at hx;cases hx
 refine⟨fun p x hx=> ?_,fun p x hx=> ?_,fun p q x y hx hy=> ?_,fun p x hx=> ?_,fun p hp=>rfl,fun p y hp=>by rw [if_neg (by simp)]⟩
 ·obtain⟨rfl,rfl⟩:=nil p x hx;exact hk.ext fun y=>by simp
 ·obtain⟨rfl,rfl⟩:=nil p x hx;exact hm.ext fun d=>rfl
 ·obtain⟨rfl,rfl⟩:=nil p x hx;obtain⟨rfl,rfl⟩:=nil q y hy;exact⟨hne,fun _=>rfl,fun _=>rfl⟩
 ·obtain⟨rfl,rfl⟩:=nil p x hx;exact hB
end
noncomputable def mJ (J:List Lf)(z:List Ky)(K:Ky ->Prop):List Ky ->Dt ->Option ByteArray
 | []=>Mk J J.length z
 | y::r=>if yes (K y)=true then Mk J J.length (z++y::r) else fun _=>none
def Ah (J:List Lf)(z:List Ky):Prop:=∃x∈J,z <+:Way x
structure JT (w:World)(B:Nat)(J:List Lf)(z:List Ky)(K:Ky ->Prop)(N:List Ky ->Option (Nat×Nat))(c:Nat)(x0:Nat×Nat):Prop where
 tre:Tre w B N (mJ J z K) c
 root:N []=some x0
 there:∀y r,(N (y::r)).isSome=true↔K y/\ Ah J (z++y::r)
structure JF (w:World)(B:Nat)(J:List Lf)(z:List Ky)(N:List Ky ->Option (Nat×Nat))(c:Nat)(x0:Nat×Nat):Prop where
 tre:Tre w B N (fun r=>Mk J J.length (z++r)) c
 root:N []=some x0
 there:∀y r,(N (y::r)).isSome=true↔Ah J (z++y::r)
theorem JT.full {w:World}{B:Nat}{J:List Lf}{z:List Ky}{K:Ky ->Prop}{N:List Ky ->Option (Nat×Nat)}{c:Nat}{x0:Nat×Nat}(h:JT w B J z K N c x0)(hK:∀y,Ah J (z++[y]) ->K y):JF w B J z N c x0:=by
 have k:∀y r,Ah J (z++y::r) ->Ah J (z++[y]):=fun y r ⟨x,hx,hp⟩=>⟨x,hx,List.IsPrefix.trans (by rw [show z++y::r=(z++[y])++r by simp];exact List.prefix_append _ _) hp⟩;have m:mJ J z K=fun r=>Mk J J.length (z++r):=by
  funext r;cases r with
  | nil=>simp [mJ]
  | cons y r=>
   simp only [mJ];by_cases e:K y
   ·rw [if_pos (Qal e)]
   ·rw [if_neg (by rw [Qaj e];simp)];funext d;cases hv:Mk J J.length (z++y::r) d with
    | none=>rfl
    | some v=>
     obtain⟨j,u,q,_⟩:=QjW.1 (show Mk J J.length (z++y::r) d≠none by rw [hv];simp);exact absurd (hK y (k y r ⟨gL J j,Qa2.2 ⟨j,u,rfl⟩,by rw [q];exact List.prefix_refl _⟩)) e
 exact⟨by rw [<- m];exact h.tre,h.root,fun y r=>(h.there y r).trans ⟨fun g=>g.2,fun g=>⟨hK y (k y r g),g⟩⟩⟩
theorem JT.hang {w w':World}{B:Nat}{J:List Lf}{z:List Ky}{K:Ky ->Prop}{N N1:List Ky ->Option (Nat×Nat)}{c:Nat}{x0 x1:Nat×Nat}{y:Ky}(h:JT w B J z K N c x0)(h1:JF w B J (z++[y]) N1 c x1)(hy:¬K y)(ha:Ah J (z++[y]))(hap:ApN N N1)(hg:w.grownBy w' (some x0.1))(hm:QaZ w' 113 Qbr Qdp x0.1 (c+1) (fun u=>if u=y then some x1 else N [u])):
  JT w' B J z (fun u=>K u \/u=y) (hgN N N1 y) (c+1) x0:=by
 have k:=h.tre.hang h1.tre h.root h1.root hap hg hm;have m:hgM (mJ J z K) (fun r=>Mk J J.length ((z++[y])++r)) y=mJ J z (fun u=>K u \/u=y):=by
  funext r;cases r with
  | nil=>rfl
  | cons u r=>
   simp only [hgM,mJ];by_cases e:u=y
   ·rw [if_pos e,if_pos (Qal (.inr e)),e];simp
   ·rw [if_neg e];by_cases j:K u
    ·rw [if_pos (Qal j),if_pos (Qal (.inl j))]
    ·rw [if_neg (by rw [Qaj j];simp),if_neg (by rw [Qaj (fun hh=>hh.elim j e)];simp)]
 rw [m] at k;refine⟨k,h.root,fun u r=> ?_⟩;simp only [hgN];by_cases e:u=y
 ·rw [if_pos e];cases r with
  | nil=>rw [h1.root,e];exact⟨fun _=>⟨.inr rfl,ha⟩,fun _=>rfl⟩
  | cons v r=>
   rw [h1.there v r,e];rw [show z++[y]++v::r=z++y::v::r by simp];exact⟨fun g=>⟨.inr rfl,g⟩,fun g=>g.2⟩
 ·rw [if_neg e,h.there u r];exact⟨fun g=>⟨.inl g.1,g.2⟩,fun g=>⟨g.1.resolve_right e,g.2⟩⟩
end Go.Proofs.YtjdcfkmhmnblbaaGreatDoor
