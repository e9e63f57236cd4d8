import Derived.Test.YtjdcfkmhmnblbaaGreatDoorFqg19
import Derived.Test.YtjdcfkmhmnblbaaGreatDoorFqg17
import Derived.Test.YtjdcfkmhmnblbaaGreatDoorFqg08
import Derived.Test.YtjdcfkmhmnblbaaGreatDoorFqg09
import Derived.Test.YtjdcfkmhmnblbaaGreatDoorFqg11
import Derived.Test.YtjdcfkmhmnblbaaGreatDoorFqg16
import Derived.Test.YtjdcfkmhmnblbaaGreatDoorFqg13
import Derived.Test.YtjdcfkmhmnblbaaGreatDoorFqg14
import Derived.Test.YtjdcfkmhmnblbaaGreatDoorFqg04
import Derived.Test.YtjdcfkmhmnblbaaGreatDoorCards
import Derived.Test.YtjdcfkmhmnblbaaGreatDoorTie
import Derived.ChangeVars
import Derived.Stop.LaidTwo
import Derived.LaidHandle
import Derived.Deep.DeepHandedRow
import Derived.SevenTiedAt
set_option linter.unusedVariables false
set_option linter.unusedSimpArgs false
set_option maxRecDepth 100000
set_option maxHeartbeats 40000000
namespace Go.Proofs.YtjdcfkmhmnblbaaGreatDoor
open Go.ChangeShapes Go.WideShapes Go.ChangeAt Go.RowKit Go.Deep
theorem LC.lcapG {w:World}{lo g n c:Nat}{l:List Lf}{P Q:Nat ->Nat}(h:LC w lo (.slice (some ⟨g,0,none⟩) n c) l P Q)(hn:n=l.length):Qdy w (some ⟨g,0,none⟩) l:=by
 refine .inr ⟨g,0,rfl,(h.lt g rfl).2,fun i hi=> ?_⟩;obtain⟨j,k,m,q,r⟩:=h.cell hn hi;refine⟨some ⟨P i,0,none⟩,Q i,⟨?_,(h.pt i hi).2.2.2.2⟩,h.seg hi,?_,?_,?_,?_⟩
 ·rw [Nat.zero_add];exact j
 ·rw [Nat.zero_add];exact k
 ·rw [Nat.zero_add];exact m
 ·rw [Nat.zero_add];exact q
 ·rw [Nat.zero_add];exact r
theorem LB.caps {w:World}{lo:Nat}{a:Option Addr}{c:Nat}{l:List Lf}(h:LB w lo (.slice a l.length c) l):Qdy w a l/\ Qew w a l/\ l.length<=c/\ c<=9223372036854775807:=by
 obtain⟨P,Q,j,y⟩:=h;rcases j.row.2 with ⟨e,k⟩|⟨v,r,u,m,g,z,t,q,o,i⟩
 ·injection e with e1 e2 e3;exact⟨.inl k,.inl k,by omega,by omega⟩
 ·injection m with e1 e2 e3;subst e1 e3;unfold maxLen at q;exact⟨j.lcapG rfl,j.lseg rfl,by omega,by omega⟩
theorem QhR {w:World}{pa:Option Addr}{L:Nat}{f:Nat ->Int}(h:Seg w pa L f)(hf:Byt f)(cap:Nat):(convert 22 9 (.slice pa L cap)).run Tryz.prog w=.ok (.string (Qb2 f 0 L)) w:=by
 by_cases j:L=0
 ·subst j;have e:Qb2 f 0 0=⟨#[]⟩:=by simp [Qb2]
  cases pa with
  | none=>
   rw [e,run_convert_bytes_string _ _ _ 5 none 0 cap Tryz.underlying22 Tryz.underlying5 Tryz.underlying9];rfl
  | some ad=>exact Qer ad 0 cap f
 ·rcases h with h|⟨b,off,rfl,m,k⟩
  ·exact absurd h j
  ·exact Qeq (off:=off) (p:=0) hf (fun i hi=>by rw [Nat.zero_add];exact k i hi)
theorem Ql7 (R F T:Nat ->Int)(n:Nat)(l:List Lf):By (psZ R F T n l).1:=by
 by_cases h:QaQ R F T n l
 ·by_cases j:(psB R F T n l).length<=4000
  ·rw [Qdd h j];exact By.app (Qef h.1) (Qf0 h.2.2.1 h.lvB _ _)
  ·rw [QcJ h j];exact By.nil
 ·rw [QfZ h];exact By.nil
theorem Bx2.fill {v:World}{b:Nat}{v0 v1:Value}(h:Bx2 v b v0 v1)(u0 u1:Value):∃Z,Z=(v.setCell ⟨b,0,none⟩ u0).setCell ⟨b,1,none⟩ u1/\ Z.cell? ⟨b,0,none⟩=some u0/\ Z.cell? ⟨b,1,none⟩=some u1/\ v.grownBy Z (some b):=by
 refine⟨_,rfl,?_,?_,⟨rfl,rfl,rfl,by simp [World.setCell],fun k hk hne=> ?_⟩⟩
 ·rw [World.cell?_setCell_other _ _ _ _ (by simp)];exact World.cell?_setCell_same _ _ _ h.c0
 ·exact World.cell?_setCell_same _ _ _ (by rw [World.cell?_setCell_other _ _ _ _ (by simp)];exact h.c1)
 ·have j:k≠b:=fun e=>hne (by rw [e]);exact(zH _ _ _ _ j).trans (zH _ _ _ _ j)
open Go.Maps
theorem QcF (a:Option Addr)(n c x:Nat)(most:Int)(f:Nat ->Int)(w:World)(hn:n<=1048576)(hf:Byt f)(hs:Seg w a n f)(hx:x<=n)(hm0:0<=most)(hm1:most<=1000000000000):
  Calls Tryz.prog 30 #[.slice a n c,.int .i64 (x:Int),.int .i64 most] w fun e w'=>Below w.heap.size w w'/\
   ((∃V x':Nat,rd f n x most=some (V,x')/\ (V:Int)<=most/\ x'<=n/\ e=.returned (.tuple #[.int .i64 (V:Int),.int .i64 (x':Int),.bool true])) \/
    (rd f n x most=none/\ e=.returned (.tuple #[.int .i64 0,.int .i64 (x:Int),.bool false]))):=by
 have g:=QcU f n x;have k:=hid (Qog a n c (cN f n x) (x:Int) f w hn hf hs (by simpa using g));have z:=QcD (f:=f) (n:=n) (m:=cN f n x) (x:=(x:Int)) (by simpa using g) hf hn (by omega) (by omega);have j:Hid (rd f n x most=if (gX f n (cN f n x) (x:Int)).2.2=0/\ ((gX f n (cN f n x) (x:Int)).1:Int)<=most then some ((gX f n (cN f n x) (x:Int)).1,(gX f n (cN f n x) (x:Int)).2.1.toNat) else none):=hid rfl;obtain⟨G,o⟩:∃G,gX f n (cN f n x) (x:Int)=G:=⟨_,rfl⟩;rw [o] at k z j;obtain⟨V,A,C⟩:=G;dsimp only at k z j;obtain⟨Q,O,y,_⟩:=z;clear hs g o;have s:IntKind.u64.wrap most=most:=by rw [IntKind.wrap_u64];omega
 by_cases t:C=0
 ·subst t;obtain⟨E,M⟩:=y rfl;obtain⟨x',rfl⟩:∃x':Nat,A=(x':Int):=⟨A.toNat,by omega⟩;by_cases v:(V:Int)<=most
  ·have u:Hid (rd f n x most=some (V,x')):=by rw [j.out,if_pos ⟨rfl,v⟩];exact hid (by simp)
   have i:decide (most<(V:Int))=false:=by simpa using v
   have b:IntKind.i64.wrap (V:Int)=(V:Int):=by rw [IntKind.wrap_i64];omega
   clear y j;go_enter Tryz.func30,Tryz.ntmps30;go_wp2_with fail;refine k.mono ?_;rintro e w1 ⟨rfl,q⟩;have r:=hid q;clear q k;go_wp2_with fail;go_ret3;exact⟨r.out,.inl ⟨V,x',u.out,v,by omega,by first|rfl|rw [b]⟩⟩
  ·have u:Hid (rd f n x most=none):=by rw [j.out,if_neg (fun h=>v h.2)];exact hid rfl
   have i:decide (most<(V:Int))=true:=by simp;omega
   clear y j;go_enter Tryz.func30,Tryz.ntmps30;go_wp2_with fail;refine k.mono ?_;rintro e w1 ⟨rfl,q⟩;have r:=hid q;clear q k;go_wp2_with fail;go_ret3;exact⟨r.out,.inr ⟨u.out,rfl⟩⟩
 ·have u:Hid (rd f n x most=none):=by rw [j.out,if_neg (fun h=>t h.1)];exact hid rfl
  have p:((C:Int)==0)=false:=by simp;omega
  clear y j;go_enter Tryz.func30,Tryz.ntmps30;go_wp2_with fail;refine k.mono ?_;rintro e w1 ⟨rfl,q⟩;have r:=hid q;clear q k;go_wp2_with fail;go_ret3;exact⟨r.out,.inr ⟨u.out,rfl⟩⟩
structure St (w wr:World)(v:Value)(l:List Rn):Prop where
 c:wr.cell? ⟨w.heap.size+2,0,none⟩=some v
 r:wr.cell? ⟨w.heap.size,0,none⟩=some (.slice none 0 0)
 fc:wr.frozen? ⟨w.heap.size+2,0,none⟩=false
 fr:wr.frozen? ⟨w.heap.size,0,none⟩=false
 o:FR wr (w.heap.size+1) v l
 n:v.ownBlock≠some (w.heap.size+2)
 b:Below w.heap.size w wr
 z:w.heap.size+3<=wr.heap.size
theorem St.below {w wr w1:World}{v:Value}{l:List Rn}(h:St w wr v l)(hb:Below wr.heap.size wr w1):St w w1 v l:=by
 have j:=h.z;exact⟨(hb.cell (p:=⟨w.heap.size+2,0,none⟩) (show w.heap.size+2<wr.heap.size by omega)).trans h.c,(hb.cell (p:=⟨w.heap.size,0,none⟩) (show w.heap.size<wr.heap.size by omega)).trans h.r,
  ((Qcs hb).2 (w.heap.size+2) 0 (by omega)).trans h.fc,((Qcs hb).2 w.heap.size 0 (by omega)).trans h.fr,Qem h.o hb,h.n,h.b.trans (hb.mono (by omega)),Nat.le_trans j hb.size⟩
theorem St.mid {w W w7:World}{v:Value}{l:List Rn}{ob:Obj}(h:St w W v l)(hg:(W.alloc ob).grownBy w7 v.ownBlock):w7.cell? ⟨w.heap.size+2,0,none⟩=some v/\ w7.frozen? ⟨w.heap.size+2,0,none⟩=false:=by
 have m:Below W.heap.size W (W.alloc ob):=zO _ _;have j:=h.below m;have k:=hg.block (w.heap.size+2) (by have:=j.z;omega) (fun e=>h.n e.symm);exact⟨(World.cell?_of_block k).trans j.c,(World.frozen?_of_block k).trans j.fc⟩
theorem St.app {w W w7:World}{v v7:Value}{l:List Rn}{ob:Obj}{x y z:Int}(h:St w W v l)(hown:w7.ownsRow (w.heap.size+1) 79 3 v7 (l.length+1) (Qas l++[.int .i64 x,.int .i64 y,.int .i64 z]))
  (hg:(W.alloc ob).grownBy w7 v.ownBlock) (hloc:v7.ownBlock=v.ownBlock \/v7.ownBlock=some (W.alloc ob).heap.size):St w (w7.setCell ⟨w.heap.size+2,0,none⟩ v7) v7 (l++[(x,y,z)]):=by
 have t:Below W.heap.size W (W.alloc ob):=zO _ _;have m:=h.below t;have E:=h.z;have M:=hg.size;have O:=m.z;have u:v7.ownBlock≠some (w.heap.size+2):=by
  rcases hloc with e|e
  ·rw [e];exact h.n
  ·rw [e];intro j;injection j with j;simp at j;omega
 have i:some w.heap.size≠v.ownBlock:=fun e=>by have:=(World.ownsRow.lt h.o _ e.symm).1;omega
 have q:=hg.block w.heap.size (by omega) i;obtain⟨s,A⟩:=h.mid hg;refine⟨World.cell?_setCell_same _ _ _ s,?_,?_,?_,?_,u,?_,?_⟩
 ·rw [World.cell?_setCell_far _ _ _ _ (by simp)];exact(World.cell?_of_block q).trans m.r
 ·rw [World.frozen?_setCell];exact A
 ·rw [World.frozen?_setCell];exact(World.frozen?_of_block q).trans m.fr
 ·unfold FR;rw [Qcz,List.length_append];refine World.ownsRow.kept hown (Qbe w7 ⟨w.heap.size+2,0,none⟩ v7) ?_;cases e:v7.ownBlock with
  | none=>exact .inl rfl
  | some g=>exact .inr (fun j=>u (e.trans j))
 ·refine Below.setCell (p:=⟨w.heap.size+2,0,none⟩) (m.b.grown hg (by omega) (fun k hk=>by have:=(World.ownsRow.lt h.o k hk).1;omega)) (by show w.heap.size<=w.heap.size+2;omega) v7
 ·simp [World.setCell];omega
theorem Qcd (f:Nat ->Int)(n k:Nat)(rep last:Int)(x:Nat):Qa6 f n rep (k+1) last x=(rd f n x 1000000000).bind fun a=>(rd f n a.2 1000000000).bind fun b=>(Qa6 f n rep k (last+2+(a.1:Int)+(b.1:Int)) b.2).bind fun c=>some ((rep,last+2+(a.1:Int),last+2+(a.1:Int)+(b.1:Int))::c.1,c.2):=by rw [Qa6]
theorem QbK (f:Nat ->Int)(n k:Nat)(x:Nat):QaM f n (k+1) x=(rd f n x 8).bind fun a=>(rd f n a.2 1000).bind fun b=>(Qa6 f n (a.1:Int) b.1 (-1) b.2).bind fun c=>(QaM f n k c.2).bind fun d=>some (c.1++d.1,d.2):=by rw [QaM]
theorem Qm0 (a:Option Addr)(n c x:Nat)(f:Nat ->Int)(w:World)(hn:n<=1048576)(hf:Byt f)(hs:Seg w a n f)(hx:x<=n):
  Calls Tryz.prog 15 #[.slice a n c,.int .i64 (x:Int)] w fun e w'=>Below w.heap.size w w'/\
   ((∃(l:List Rn) (x':Nat) (v:Value),QdW f n x=some (l,x')/\ x'<=n/\ e=.returned (.tuple #[.agg #[v],.int .i64 (x':Int),.bool true])/\ FR w' w.heap.size v l/\ l.length<=8000) \/
    (QdW f n x=none/\∃(ya:Option Addr) (A i:Nat) (y:Int),e=.returned (.tuple #[.agg #[.slice ya A i],.int .i64 y,.bool false]))):=by
 obtain⟨i0,hi,Hv,Hw,Hx⟩:=info_parts Tryz.infoRun;obtain⟨W,J⟩:∃W,((w.alloc (.cells #[.slice none 0 0] 27)).alloc (.cells #[] 79)).alloc (.cells #[.slice (some ⟨w.heap.size+1,0,none⟩) 0 0] 27)=W:=⟨_,rfl⟩;have bW:Below w.heap.size w W:=by rw [<- J];exact(Qak _ _ _).alloc (by simp;omega) _
 have HZ:Hid (W.heap.size=w.heap.size+3):=by rw [<- J];exact hid (by simp)
 have Hc:Hid (St w W (.slice (some ⟨w.heap.size+1,0,none⟩) 0 0) []):=by
  have s1:W.cell? ⟨w.heap.size+2,0,none⟩=some (.slice (some ⟨w.heap.size+1,0,none⟩) 0 0):=by rw [<- J,World.cell?_alloc_at _ _ _ _ (by simp)];rfl
  have s2:W.cell? ⟨w.heap.size,0,none⟩=some (.slice none 0 0):=by rw [<- J,World.cell?_alloc_past _ _ _ (by simp;omega),World.cell?_alloc_past _ _ _ (by simp),World.cell?_alloc_at _ _ _ _ rfl];rfl
  have s3:W.frozen? ⟨w.heap.size+2,0,none⟩=false:=by rw [<- J,World.frozen?_alloc_at _ _ _ _ (by simp)]
  have s4:W.frozen? ⟨w.heap.size,0,none⟩=false:=by rw [<- J,World.frozen?_alloc_past _ _ _ (by simp;omega),World.frozen?_alloc_past _ _ _ (by simp),World.frozen?_alloc_at _ _ _ _ rfl]
  refine hid ⟨s1,s2,s3,s4,?_,by simp [Value.ownBlock],bW,by have:=HZ.out;omega⟩;have q:=World.ownsRow_lit (base:=w.heap.size+1) (e:=79) (size:=3) (w.alloc (.cells #[.slice none 0 0] 27)) #[] 0 (by simp) (by unfold maxLen;omega) rfl;have q':((w.alloc (.cells #[.slice none 0 0] 27)).alloc (.cells #[] 79)).ownsRow (w.heap.size+1) 79 3 (.slice (some ⟨w.heap.size+1,0,none⟩) 0 0) 0 []:=by simpa using q
  rw [<- J];exact World.ownsRow.alloc q' _
 have HU:=hid (QcF a n c x 8 f W hn hf (hs.below bW) hx (by omega) (by omega));have HS:=hid hs;clear hs bW;go_enter Tryz.func15,Tryz.ntmps15;go_wp2_with fail;try rw [J]
 clear J;refine HU.mono ?_;rintro e w1 ⟨b1,⟨V,K,hr,hV,H7,rfl⟩|⟨hr,rfl⟩⟩
 ·have HR:Hid (QdW f n x=QaM f n V K):=by unfold QdW;rw [hr];exact hid rfl
  have Ho:=hid (Hc.below b1);clear b1 hr HU Hc HZ;go_wp2_with fail;go_loopw [9,10,11] (fun av okv iv wr=>∃(k:Nat) (v:Value) (l:List Rn),k<=V/\ iv=.int .i64 (k:Int)/\ Hid (St w wr v l)/\ l.length<=1000*k/\
   ((okv=.bool true/\∃y:Nat,av=.int .i64 (y:Int)/\ y<=n/\ Hid (QaM f n V K=(QaM f n (V - k) y).bind fun d=>some (l++d.1,d.2))) \/(okv=.bool false/\ (∃y:Int,av=.int .i64 y)/\ Hid (QaM f n V K=none)))) (fun _ _ iv _=>V - (intOf iv).toNat)
  case atStart=>exact⟨0,_,[],Nat.zero_le _,rfl,Ho,by simp,.inl ⟨rfl,K,rfl,H7,hid (by cases h:QaM f n (V - 0) K<;>simp_all)⟩⟩
  case round=>
   obtain⟨k,v,l,hk,rfl,g,Gc,⟨rfl,y,rfl,Hm,E⟩|⟨rfl,⟨y,rfl⟩,E⟩⟩:=hrel
   ·by_cases Hl:k<V
    ·obtain⟨m,hm⟩:∃m,V - k=m+1:=⟨V - k - 1,by omega⟩;have HM:=hid hm;have Hp:=hid (QcF a n c y 8 f wr hn hf (HS.below g.b) Hm (by omega) (by omega));clear hm;go_wp2_with fail;refine Hp.mono ?_;rintro e w2 ⟨b2,⟨R,x2,Hg,hR,H8,rfl⟩|⟨Hg,rfl⟩⟩
     ·have Hn:=hid Hg;have D:=hid (g.below b2);have Hq:=hid (QcF a n c x2 1000 f w2 hn hf (HS.below D.b) H8 (by omega) (by omega));clear b2 Hg Hp;go_wp2_with fail;refine Hq.mono ?_;rintro e w3 ⟨b3,⟨C,B,Hh,hC,H9,rfl⟩|⟨Hh,rfl⟩⟩
      ·have Hy:=hid Hh;have Hd:=hid (D.below b3);clear b3 Hh Hq D;go_wp2_with fail;go_loopw [9,10,14,15] (fun av okv lv iv wq=>∃(t:Nat) (v:Value) (Q:List Rn) (j:Int),t<=C/\ iv=.int .i64 (t:Int)/\ lv=.int .i64 j/\ -1<=j/\ j<=2000000002*(t:Int)/\ Hid (St w wq v Q)/\ Q.length<=1000*k+t/\
        ((okv=.bool true/\∃(y:Nat) (P:List Rn),av=.int .i64 (y:Int)/\ y<=n/\ Hid (Q=l++P)/\ Hid (Qa6 f n (R:Int) C (-1) B=(Qa6 f n (R:Int) (C - t) j y).bind fun d=>some (P++d.1,d.2))) \/(okv=.bool false/\ (∃y:Int,av=.int .i64 y)/\ Hid (Qa6 f n (R:Int) C (-1) B=none)))) (fun _ _ _ iv _=>C - (intOf iv).toNat)
       case atStart=>exact⟨0,v,l, -1,Nat.zero_le _,rfl,rfl,by omega,by omega,Hd,by omega,.inl ⟨rfl,B,[],rfl,H9,hid (by simp),hid (by cases h:Qa6 f n (R:Int) (C - 0) (-1) B<;>simp_all)⟩⟩
       case round=>
        clear g Hd;obtain⟨t,v,Q,j,ht,rfl,rfl,H3,H4,g,H5,⟨rfl,y',P,rfl,Hk,Ht,I⟩|⟨rfl,⟨y',rfl⟩,I⟩⟩:=hrel
        ·by_cases Hu:t<C
         ·obtain⟨q,hq⟩:∃q,C - t=q+1:=⟨C - t - 1,by omega⟩;have HQ:=hid hq;have Hr:=hid (QcF a n c y' 1000000000 f wr hn hf (HS.below g.b) Hk (by omega) (by omega));clear hq;go_wp2_with fail;refine Hr.mono ?_;rintro e w4 ⟨b4,⟨G,x4,Hi,hG,Ga,rfl⟩|⟨Hi,rfl⟩⟩
          ·have Ha:=hid (g.below b4);have Hs:=hid (QcF a n c x4 1000000000 f w4 hn hf (HS.below Ha.b) Ga (by omega) (by omega));have Hz:=hid Hi;clear b4 Hi Hr g;go_wp2_with fail;refine Hs.mono ?_;rintro e w5 ⟨F,⟨Z,x5,Hj,hZ,Gb,rfl⟩|⟨Hj,rfl⟩⟩
           ·have Hf:Hid (Qa6 f n (R:Int) C (-1) B=(Qa6 f n (R:Int) (C - (t+1)) (j+2+(G:Int)+(Z:Int)) x5).bind fun d=>some (P++[((R:Int),j+2+(G:Int),j+2+(G:Int)+(Z:Int))]++d.1,d.2)):=by
             refine hid ?_;rw [I.out,HQ.out,Qcd,Hz.out,Option.bind_some];dsimp only;rw [Hj,show C - (t+1)=q from by have:=HQ.out;omega];simp only [Option.bind_some];cases Qa6 f n (R:Int) q (j+2+(G:Int)+(Z:Int)) x5 with
             | none=>rfl
             | some d=>simp
            have e1:IntKind.i64.wrap (j+2)=j+2:=Qan _ (by omega) (by omega);have S:IntKind.i64.wrap (j+2+(G:Int))=j+2+(G:Int):=Qan _ (by omega) (by omega);have e3:IntKind.i64.wrap (j+2+(G:Int)+(Z:Int))=j+2+(G:Int)+(Z:Int):=Qan _ (by omega) (by omega);have s:=Ha.below F;have U:=hid s;have c5:=s.c;have T:=s.fc;have z5:=s.z;clear F Hj Hs Ha I E s;go_wp2_with (at_builtin;refine Qai rfl _ _ 25 rfl (w.heap.size+1) 79 i0 _ 3 24 Tryz.underlying25 hi Hv Hw Hx rfl (by decide) _ _ _ rfl (World.ownsRow.alloc U.o _) ⟨w5.heap.size,0,none⟩ 1 1 [.int .i64 (R:Int),.int .i64 (j+2+(G:Int)),.int .i64 (j+2+(G:Int)+(Z:Int))] rfl rfl ?c1 ?c2 ?c3 ?c4 ?c5 ?_);case c1=>exact Qa1 _ _ _ _ _
            case c2=>intro u X;simp at X;rcases X with rfl|rfl|rfl<;>rfl
            case c3=>unfold maxLen;omega
            case c4=>omega
            case c5=>simp;omega
            intro v7 w7 H Y N;obtain⟨y7,m7,c7,rfl⟩:=QaO H;obtain⟨q1,q2⟩:=U.mid Y;have Hb:=hid (U.app H Y (by simpa using N));have L:(Q++[((R:Int),j+2+(G:Int),j+2+(G:Int)+(Z:Int))]).length=Q.length+1:=by simp
            have HW:=hid L;clear H Y N c5 T L;go_wp2_with fail;go_roundw;case rel=>exact⟨t+1,_,_,_,Hu,by go_num,rfl,by omega,by omega,Hb,by rw [HW.out];omega,.inl ⟨rfl,x5,P++[((R:Int),j+2+(G:Int),j+2+(G:Int)+(Z:Int))],rfl,Gb,hid (by rw [Ht.out,List.append_assoc]),Hf⟩⟩
            case measure=>simp [intOf];omega
           ·have Hf:Hid (Qa6 f n (R:Int) C (-1) B=none):=by
             refine hid ?_;rw [I.out,HQ.out,Qcd,Hz.out,Option.bind_some];dsimp only;rw [Hj];rfl
            have e1:IntKind.i64.wrap (j+2)=j+2:=Qan _ (by omega) (by omega);have S:IntKind.i64.wrap (j+2+(G:Int))=j+2+(G:Int):=Qan _ (by omega) (by omega);have s:=Ha.below F;have U:=hid s;have c5:=s.c;have T:=s.fc;have z5:=s.z;clear F Hj Hs Ha I E s;go_wp2_with (at_builtin;refine Qai rfl _ _ 25 rfl (w.heap.size+1) 79 i0 _ 3 24 Tryz.underlying25 hi Hv Hw Hx rfl (by decide) _ _ _ rfl (World.ownsRow.alloc U.o _) ⟨w5.heap.size,0,none⟩ 1 1 [.int .i64 (R:Int),.int .i64 (j+2+(G:Int)),.int .i64 (j+2+(G:Int))] rfl rfl ?d1 ?d2 ?d3 ?d4 ?d5 ?_);case d1=>exact Qa1 _ _ _ _ _
            case d2=>intro u X;simp at X;rcases X with rfl|rfl|rfl<;>rfl
            case d3=>unfold maxLen;omega
            case d4=>omega
            case d5=>simp;omega
            intro v7 w7 H Y N;obtain⟨y7,m7,c7,rfl⟩:=QaO H;obtain⟨q1,q2⟩:=U.mid Y;have Hb:=hid (U.app H Y (by simpa using N));have L:(Q++[((R:Int),j+2+(G:Int),j+2+(G:Int))]).length=Q.length+1:=by simp
            have HW:=hid L;clear H Y N c5 T L;go_wp2_with fail;go_roundw;case rel=>exact⟨t+1,_,_,_,Hu,by go_num,rfl,by omega,by omega,Hb,by rw [HW.out];omega,.inr ⟨rfl,⟨_,rfl⟩,Hf⟩⟩
            case measure=>simp [intOf];omega
          ·have Hf:Hid (Qa6 f n (R:Int) C (-1) B=none):=by
            refine hid ?_;rw [I.out,HQ.out,Qcd,Hi];rfl
           have e1:IntKind.i64.wrap (j+2)=j+2:=Qan _ (by omega) (by omega);have s:=g.below b4;have U:=hid s;have c5:=s.c;have T:=s.fc;have z5:=s.z;clear b4 Hi Hr g I E s;go_wp2_with (at_builtin;refine Qai rfl _ _ 25 rfl (w.heap.size+1) 79 i0 _ 3 24 Tryz.underlying25 hi Hv Hw Hx rfl (by decide) _ _ _ rfl (World.ownsRow.alloc U.o _) ⟨w4.heap.size,0,none⟩ 1 1 [.int .i64 (R:Int),.int .i64 (j+2),.int .i64 (j+2)] rfl rfl ?f1 ?f2 ?f3 ?f4 ?f5 ?_);case f1=>exact Qa1 _ _ _ _ _
           case f2=>intro u X;simp at X;rcases X with rfl|rfl|rfl<;>rfl
           case f3=>unfold maxLen;omega
           case f4=>omega
           case f5=>simp;omega
           intro v7 w7 H Y N;obtain⟨y7,m7,c7,rfl⟩:=QaO H;obtain⟨q1,q2⟩:=U.mid Y;have Hb:=hid (U.app H Y (by simpa using N));have L:(Q++[((R:Int),j+2,j+2)]).length=Q.length+1:=by simp
           have HW:=hid L;clear H Y N c5 T L;go_wp2_with fail;go_roundw;case rel=>exact⟨t+1,_,_,_,Hu,by go_num,rfl,by omega,by omega,Hb,by rw [HW.out];omega,.inr ⟨rfl,⟨_,rfl⟩,Hf⟩⟩
           case measure=>simp [intOf];omega
         ·obtain rfl:t=C:=by omega
          have M:Hid (QaM f n V K=(QaM f n (V - (k+1)) y').bind fun d=>some (Q++d.1,d.2)):=by
           refine hid ?_;have H6:Qa6 f n (R:Int) t (-1) B=some (P,y'):=by rw [I.out,Nat.sub_self];simp [Qa6]
           rw [E.out,HM.out,QbK,Hn.out,Option.bind_some];dsimp only;rw [Hy.out,Option.bind_some];dsimp only;rw [H6,show V - (k+1)=m from by have:=HM.out;omega,Ht.out];simp only [Option.bind_some];cases QaM f n m y' with
           | none=>rfl
           | some d=>simp
          clear I E Ht;go_wp2_with fail;go_roundw;case rel=>exact⟨k+1,v,Q,Hl,by go_num,g,by omega,.inl ⟨rfl,y',rfl,Hk,M⟩⟩
          case measure=>simp [intOf];omega
        ·have M:Hid (QaM f n V K=none):=by
          refine hid ?_;rw [E.out,HM.out,QbK,Hn.out,Option.bind_some];dsimp only;rw [Hy.out,Option.bind_some];dsimp only;rw [I.out];rfl
         clear I E;go_wp2_with fail;go_roundw;case rel=>exact⟨k+1,v,Q,Hl,by go_num,g,by omega,.inr ⟨rfl,⟨_,rfl⟩,M⟩⟩
         case measure=>simp [intOf];omega
      ·have M:Hid (QaM f n V K=none):=by
        refine hid ?_;rw [E.out,HM.out,QbK,Hn.out,Option.bind_some];dsimp only;rw [Hh];rfl
       have Hd:=hid (D.below b3);clear b3 Hh Hq D E g;go_wp2_with fail;refine wp_loop_rounds 1 ?_;rw [rounds_succ];go_wp2_with fail;go_roundw;case rel=>exact⟨k+1,v,l,Hl,by go_num,Hd,by omega,.inr ⟨rfl,⟨_,rfl⟩,M⟩⟩
       case measure=>simp [intOf];omega
     ·have M:Hid (QaM f n V K=none):=by
       refine hid ?_;rw [E.out,HM.out,QbK,Hg];rfl
      have D:=hid (g.below b2);clear b2 Hg Hp E g;go_wp2_with fail;refine wp_loop_rounds 1 ?_;rw [rounds_succ];go_wp2_with fail;go_roundw;case rel=>exact⟨k+1,v,l,Hl,by go_num,D,by omega,.inr ⟨rfl,⟨_,rfl⟩,M⟩⟩
      case measure=>simp [intOf];omega
    ·obtain rfl:k=V:=by omega
     have M:Hid (QdW f n x=some (l,y)):=by
      refine hid ?_;rw [HR.out,E.out,Nat.sub_self];simp [QaM]
     obtain⟨O,A,i,rfl⟩:=QaO g.o;have c5:=g.c;have r5:=g.r;have H0:=g.fr;clear E;go_wp2_with fail;have k4:=World.cell?_setCell_same wr ⟨w.heap.size,0,none⟩ (.slice O A i) r5;have HF:Hid (FR (wr.setCell ⟨w.heap.size,0,none⟩ (.slice O A i)) w.heap.size (.slice O A i) l):=by
      have h1:=g.o;have h2:FR wr w.heap.size (.slice O A i) l:=by
       obtain⟨q1,q2⟩:=h1;refine⟨q1,q2.imp id ?_⟩;rintro⟨g',cap,H2,e,hg,r⟩;exact⟨g',cap,H2,e,by omega,r⟩
      refine hid (World.ownsRow.kept h2 (Qbe wr ⟨w.heap.size,0,none⟩ (.slice O A i)) ?_);cases e:(Value.slice O A i).ownBlock with
      | none=>exact .inl rfl
      | some t=>exact .inr (fun S=>by have h3:=(World.ownsRow.lt h1 t e).1;injection S with S;have S:t=w.heap.size:=S;omega)
     have He:=hid (g.b.setCell (p:=⟨w.heap.size,0,none⟩) zL (.slice O A i));refine zF (v:=.tuple #[.agg #[.slice O A i],.int .i64 (y:Int),.bool true]) (by simp [results,Tryz.results15,go_sem,k4]) ?_;exact⟨He.out,.inl (by first|exact⟨l,y,.slice O A i,M.out,Hm,rfl,HF.out,by omega⟩|exact⟨l,y,M.out,Hm,.slice O A i,rfl,HF.out,by omega⟩|exact⟨l,y,M.out,Hm,.slice O A i,rfl,HF.out,by omega⟩)⟩
   ·have M:Hid (QdW f n x=none):=by rw [HR.out];exact E
    obtain⟨O,A,i,rfl⟩:=QaO g.o;have c5:=g.c;have r5:=g.r;have H0:=g.fr;clear E;go_wp2_with fail;have k4:=World.cell?_setCell_same wr ⟨w.heap.size,0,none⟩ (.slice O A i) r5;have He:=hid (g.b.setCell (p:=⟨w.heap.size,0,none⟩) zL (.slice O A i));refine zF (v:=.tuple #[.agg #[.slice O A i],.int .i64 y,.bool false]) (by simp [results,Tryz.results15,go_sem,k4]) ?_;exact⟨He.out,.inr ⟨M.out,_,_,_,_,rfl⟩⟩
 ·have M:Hid (QdW f n x=none):=by unfold QdW;rw [hr];exact hid rfl
  obtain⟨c5,r5,T,H0,o5,n5,F,z5⟩:=Hc.below b1;have H1:=hid F;clear b1 hr HU Hc HZ o5 n5 F;go_wp2_with fail;refine wp_loop_rounds 1 ?_;rw [rounds_succ];go_wp2_with fail;have k4:=World.cell?_setCell_same w1 ⟨w.heap.size,0,none⟩ (.slice (some ⟨w.heap.size+1,0,none⟩) 0 0) r5;have He:=hid (H1.setCell (p:=⟨w.heap.size,0,none⟩) zL (.slice (some ⟨w.heap.size+1,0,none⟩) 0 0));refine zF (v:=.tuple #[.agg #[.slice (some ⟨w.heap.size+1,0,none⟩) 0 0],.int .i64 (x:Int),.bool false]) (by simp [results,Tryz.results15,go_sem,k4]) ?_;exact⟨He.out,.inr ⟨M.out,_,_,_,_,rfl⟩⟩
theorem Seg.keptR {w w':World}{a:Option Addr}{n:Nat}{f:Nat ->Int}{row:Option Nat}(h:Seg w a n f)(g:w.grownBy w' row)(hab:∀y,a=some y ->row≠some y.block):Seg w' a n f:=by
 rcases h with h|⟨b,off,rfl,j,k⟩
 ·exact .inl h
 ·exact .inr ⟨b,off,rfl,Nat.lt_of_lt_of_le j g.size,fun i hi=>(World.cell?_of_block (a:=⟨b,off+i,none⟩) (g.block b j (fun e=>hab _ rfl e.symm))).trans (k i hi)⟩
theorem Qel {f:Nat ->Int}(hf:Byt f){n x:Nat}{most:Int}{a:Nat×Nat}(h:rd f n x most=some a):x<a.2/\ a.2<=n/\ (a.1:Int)<=most:=by
 obtain⟨V,x'⟩:=a;obtain⟨m,j,q,r,k⟩:=(Qav hf).1 h;have:=(Qah 9 V).2;exact⟨by show x<x';omega,k,j⟩
theorem Qn4 {f:Nat ->Int}(hf:Byt f){n x:Nat}(hn:n<=1048576){most:Int}(hm:0<=most):(∃s x',Qcy f n x most=some (s,x')/\ x<x'/\ x'<=n/\ (s.size:Int)<=most/\ gtX f n (cN f n x) (x:Int) most=(s,(x':Int),0)) \/(Qcy f n x most=none/\∃k,0<k/\ k<=4/\ gtX f n (cN f n x) (x:Int) most=(⟨#[]⟩,(x:Int),k)):=by
 have j:=QcD (f:=f) (n:=n) (m:=cN f n x) (x:=(x:Int)) (by simpa using QcU f n x) hf hn;unfold Qcy gtX;cases h1:rd f n x most with
 | none=>
  refine .inr ⟨rfl,?_⟩;unfold rd at h1;by_cases e:(gX f n (cN f n x) (x:Int)).2.2=0
  ·rw [if_neg (by simpa using e)];by_cases q:((gX f n (cN f n x) (x:Int)).1:Int)<=most
   ·rw [if_pos ⟨e,q⟩] at h1;cases h1
   ·rw [if_pos (.inr (by omega))];exact⟨4,by omega,by omega,rfl⟩
  ·rw [if_pos e];refine⟨_,by omega,?_,rfl⟩;by_cases y:x<n
   ·have:=(j (by omega) (by omega)).2.1;omega
   ·rw [QdJ (.inr (by omega))];show 1<=4;omega
 | some a=>
  have v:=Qel hf h1;unfold rd at h1;split at h1
  ·rename_i he;have r:=(j (by omega) (by omega)).2.2.1 he.1;generalize gX f n (cN f n x) (x:Int)=G at*;obtain⟨V,A,C⟩:=G;simp only [Option.some.injEq] at h1;subst h1;simp only at he r v ⊢;obtain⟨rfl,u⟩:=he;simp only [Option.bind_some,ne_eq,not_true_eq_false,if_false];rw [if_neg (show¬(most<0 \/most<(V:Int)) by omega)];by_cases e:A.toNat+V<=n
   ·rw [if_pos e,if_neg (by omega)];refine .inl ⟨Qb2 f A.toNat V,A.toNat+V,rfl,by omega,e,by rw [QcM];exact u,?_⟩;congr 2;omega
   ·rw [if_neg e,if_pos (by omega)];exact .inr ⟨rfl,1,by omega,by omega,rfl⟩
  ·cases h1
theorem Qhs (a:Option Addr)(n c x:Nat)(most:Int)(f:Nat ->Int)(w:World)(hn:n<=1048576)(hnc:n<=c)(hf:Byt f)(hs:Seg w a n f)(hx:x<=n)(hm0:0<=most)(hm1:most<=1000000):
  Calls Tryz.prog 31 #[.slice a n c,.int .i64 (x:Int),.int .i64 most] w fun e w'=>Below w.heap.size w w'/\
   ((∃s x',Qcy f n x most=some (s,x')/\ x<x'/\ x'<=n/\ (s.size:Int)<=most/\ e=.returned (.tuple #[.string s,.int .i64 (x':Int),.int .i64 0])) \/
    (Qcy f n x most=none/\∃k:Nat,0<k/\ k<=4/\ e=.returned (.tuple #[.string ⟨#[]⟩,.int .i64 (x:Int),.int .i64 (k:Int)]))):=by
 refine(QoY a n c (cN f n x) (x:Int) most f w hn hnc hf hs (by simpa using QcU f n x) (wfI (by omega) (by omega)) (wfI (by omega) (by omega))).mono ?_;rintro e w' ⟨rfl,b⟩;refine⟨b,?_⟩;rcases Qn4 hf hn hm0 (x:=x) with ⟨s,x',j,m,q,r,u⟩|⟨j,k,m,q,r⟩
 ·exact .inl ⟨s,x',j,m,q,r,by rw [u];rfl⟩
 ·exact .inr ⟨j,k,m,q,by rw [r]⟩
theorem Qjd (g m c:Nat)(p:List ByteArray)(w:World)(hp:p.length=m)(hm:m<=1048576)(hg:g<w.heap.size)(h:∀t,t<m ->w.cell? ⟨g,t,none⟩=some (.string (gS p t))):
  Calls Tryz.prog 32 #[.slice (some ⟨g,0,none⟩) m c] w fun e w'=>∃q cap,e=.returned (.slice (some ⟨q,0,none⟩) m cap)/\ Below w.heap.size w w'/\ w.heap.size<=q/\ w'.ownsRow w.heap.size 9 1 (.slice (some ⟨q,0,none⟩) m cap) m (Qcw p):=by
 obtain⟨Q,A,E,M,O⟩:=info_parts QdP;have r:Below w.heap.size w (w.alloc (.cells #[] 9)):=zO _ _;have y:(w.alloc (.cells #[] 9)).ownsRow w.heap.size 9 1 (.slice (some ⟨w.heap.size,0,none⟩) 0 0) 0 []:=by
  have:=World.ownsRow_lit (base:=w.heap.size) (e:=9) (size:=1) w #[] 0 zL (by unfold maxLen;omega) rfl;simpa using this
 obtain⟨q,cap,w',u,o,v,z⟩:=QeW 49 9 Q _ 1 16 Tryz.underlying49 A E M O rfl (by decide) (by omega) w.heap.size g 0 m c (fun t=> .string (gS p t)) (w.alloc (.cells #[] 9)) w.heap.size hm y (by simp) (fun j hj=>by rw [Nat.zero_add];exact(r.cell (p:=⟨g,j,none⟩) hg).trans (h j (by omega))) (fun _ _=>rfl);have i:Hid (Below w.heap.size w w'):=hid (r.grown v r.size (fun k e=>by injection e with e;omega));have s:Hid (w'.ownsRow w.heap.size 9 1 (.slice (some ⟨q,0,none⟩) m cap) m (Qcw p)):=hid (by unfold Qcw;rw [hp];exact o);have b:Hid (w.heap.size<=q):=hid (by rcases z with e|e<;>rw [e];exact Nat.le_refl _;simp);clear o v z h y r;go_enter Tryz.func32,Tryz.ntmps32;go_wp2_with (at_builtin;refine Qaa rfl _ _ _ _ rfl u (by rfl) (by rfl) rfl ?_;clear u);go_ret;exact⟨q,cap,rfl,i.out,b.out,s.out⟩
noncomputable def Qk2 (f:Nat ->Int)(n:Nat)(fl:Bool)(p:List ByteArray)(acc:List Lf)(x:Nat):Option (List Lf×Nat):=(rd f n x 1000).bind fun a=>QmA f n fl p a.1 acc a.2
def LdP (w:World)(lo:Nat)(vo:Value)(n x:Nat)(acc:List Lf)(R:Option (List Lf×Nat))(e:Ending)(w':World):Prop:=
 ∃(vo':Value) (l:List Lf) (y:Nat) (ok:Bool),e=.returned (.tuple #[vo',.int .i64 (y:Int),.bool ok])/\ Gr w w' vo vo'/\ LB w' lo vo' l/\ LBd l/\ y<=n/\
  ((ok=true/\ R=some (l,y)/\ l.length+x<=acc.length+y) \/(ok=false/\ R=none/\ l.length+x<=acc.length+n+1))
def LsI (f:Nat ->Int)(n:Nat)(fl:Bool)(p:List ByteArray)(acc:List Lf)(x V k y:Nat)(ok:Bool)(l:List Lf):Prop:=
 (ok=true/\ Qk2 f n fl p acc x=QmA f n fl p (V - k) l y/\ l.length+x<=acc.length+y) \/(ok=false/\ Qk2 f n fl p acc x=none/\ l.length+x<=acc.length+n+1)
theorem LBd.snoc {l:List Lf}{y:Lf}(h:LBd l)(hy:y.p.length<=8):LBd (l++[y]):=fun i=>by
 rcases Nat.lt_trichotomy i l.length with e|e|e
 ·rw [Qhr l y e];exact h i
 ·subst e;rw [Qhq];omega
 ·have:gL (l++[y]) i=gL [] 0:=by
   have j:¬i<(l++[y]).length:=by simp;omega
   simp [gL,List.getD,List.getElem?_eq_none (Nat.le_of_not_lt j)]
  rw [this];show ([]:List ByteArray).length<=1048576;simp
theorem QdX {wr w1 W Wz:World}{lo:Nat}{oa:Option Addr}{oc q m cap:Nat}{l:List Lf}{p:List ByteArray}(h:LB wr lo (.slice oa l.length oc) l)(hlo:lo<=wr.heap.size)(hk:l.length<=1048576)(b1:Below wr.heap.size wr w1)(hq:wr.heap.size<=q)(ho:w1.ownsRow wr.heap.size 9 1 (.slice (some ⟨q,0,none⟩) m cap) m (Qcw p))(hp:p.length=m)(ob:Obj)
  (bW:Below (w1.heap.size+1) (w1.alloc ob) W) (gz:W.grownBy Wz (some w1.heap.size)) (hsz:Wz.heap.size=W.heap.size) (fl:Bool) (r s:Int) (v:ByteArray):
  ∃z y g,(Builtin.append_ #[24,24] 24 #[.slice oa l.length oc,.slice (some ⟨W.heap.size,0,none⟩) 1 1]).run Tryz.prog (Wz.alloc (.cells #[.slice (some ⟨q,0,none⟩) m cap,.bool fl,.int .i64 r,.int .i64 s,.string v] 77))=.ok (.slice (some ⟨z,0,none⟩) (l.length+1) y) g/\
   LB g lo (.slice (some ⟨z,0,none⟩) (l.length+1) y) (l++[⟨p,fl,r,s,v⟩])/\ Gr wr g (.slice oa l.length oc) (.slice (some ⟨z,0,none⟩) (l.length+1) y):=by
 subst hp;have Q:=(World.ownsRow.lt ho q rfl).2;have Y:=(Qcf ho rfl).2;have O:p.length<=cap/\ cap<=9223372036854775807:=by
  rcases ho.2 with ⟨E,_⟩|⟨G,y,Z,U,L,K,H,M,I,J⟩
  ·cases E
  ·injection U with j u b;unfold maxLen at M;omega
 have A:=b1.size;have X:=bW.size;have o:Below w1.heap.size w1 (w1.alloc ob):=zO _ _;have i:Below wr.heap.size wr Wz:=by
  have j:=b1.trans (o.mono A);have u:=j.trans (bW.mono (Nat.le_trans A (Nat.le_succ _)));exact u.grown gz u.size (fun k e=>by injection e with e;omega)
 have N:(w1.alloc ob).heap.size=w1.heap.size+1:=by simp
 have V:Wr Wz q 9 p.length (fun t=> .string (gS p t)):=by
  have j:=Y.same (o.block q Q);have u:=j.same (bW.block q (by omega));exact u.same (gz.block q (by omega) (fun e=>by injection e with e;omega))
 obtain⟨z,y,g,j,u,b⟩:=h.app i hlo hk ⟨p,fl,r,s,v⟩ q cap hq (by omega) V O;rw [hsz] at j;exact⟨z,y,g,j,u,(Gr.of_below i).trans b⟩
theorem Qfj (a:Option Addr)(n c x:Nat)(f:Nat ->Int)(g m pc:Nat)(p:List ByteArray)(fl:Bool)(oa0:Option Addr)(oc0:Nat)(acc:List Lf)(lo:Nat)(w:World)(hn:n<=4000)(hnc:n<=c)(hf:Byt f)(hs:Seg w a n f)(hx:x<=n)(hp:p.length=m)(hm:m<=8)(hg:g<w.heap.size)(Hy:∀t,t<m ->w.cell? ⟨g,t,none⟩=some (.string (gS p t)))
  (Hz:(Value.slice oa0 acc.length oc0).ownBlock≠some g) (Hx:∀y,a=some y ->(Value.slice oa0 acc.length oc0).ownBlock≠some y.block) (hL:LB w lo (.slice oa0 acc.length oc0) acc) (hB:LBd acc) (hlo:lo<=w.heap.size) (hacc:acc.length<=10000):
  Calls Tryz.prog 33 #[.slice a n c,.int .i64 (x:Int),.slice (some ⟨g,0,none⟩) m pc,.bool fl,.slice oa0 acc.length oc0] w fun e w'=>LdP w lo (.slice oa0 acc.length oc0) n x acc (Qk2 f n fl p acc x) e w':=by
 obtain⟨P,hP⟩:∃P,LdP w lo (.slice oa0 acc.length oc0) n x acc (Qk2 f n fl p acc x)=P:=⟨_,rfl⟩;rw [hP];have HP:=hid hP;clear hP;have HU:Hid (Calls Tryz.prog 30 #[.slice a n c,.int .i64 (x:Int),.int .i64 1000] w fun e w'=>Below w.heap.size w w'/\∃(V y:Nat) (ok:Bool),e=.returned (.tuple #[.int .i64 (V:Int),.int .i64 (y:Int),.bool ok])/\ V<=1000/\ y<=n/\ LsI f n fl p acc x V 0 y ok acc):=hid (by
  refine(QcF a n c x 1000 f w (by omega) hf hs hx (by omega) (by omega)).mono ?_;rintro e w' ⟨b,⟨V,x',h1,h2,h3,rfl⟩|⟨h1,rfl⟩⟩
  ·refine⟨b,V,x',true,rfl,by omega,h3,.inl ⟨rfl,?_,?_⟩⟩
   ·unfold Qk2;rw [h1];rfl
   ·have:=(Qel hf h1).1;simp at this;omega
  ·refine⟨b,0,x,false,rfl,by omega,hx,.inr ⟨rfl,?_,by omega⟩⟩;unfold Qk2;rw [h1];rfl)
 have HL:=hid hL;have HF:=hid hf;have HS:=hid hs;have H1:=hid hB;have HG:=hid (And.intro hg Hy);have Ht:=hid (And.intro Hz Hx);clear hL hf hs hB Hy Hz Hx;go_enter Tryz.func33,Tryz.ntmps33;go_wp2_with fail;refine HU.mono ?_;clear HU;rintro e w1 ⟨b1,V,y,ok,rfl,hV,hy,W⟩;have HI:=hid W;have Hr:=hid b1;have z1:=b1.size;clear W b1;go_wp2_with fail;go_loopw [4,14,15,16] (fun ov av kv iv wr=>∃(k y:Nat) (ok:Bool) (oa:Option Addr) (oc:Nat) (l:List Lf),k<=V/\ iv=.int .i64 (k:Int)/\ av=.int .i64 (y:Int)/\ kv=.bool ok/\ ov=.slice oa l.length oc/\ y<=n/\ l.length<=20000/\ w.heap.size<=wr.heap.size/\ Hid (LB wr lo (.slice oa l.length oc) l)/\ Hid (Gr w wr (.slice oa0 acc.length oc0) (.slice oa l.length oc))/\ Hid (LBd l)/\ Hid (LsI f n fl p acc x V k y ok l)) (fun _ _ _ iv _=>V - (intOf iv).toNat);case atStart=>exact⟨0,y,ok,oa0,oc0,acc,Nat.zero_le _,rfl,rfl,rfl,rfl,hy,by omega,z1,hid (HL.below Hr.out),hid (Gr.of_below Hr.out),H1,HI⟩
 case round=>
  obtain⟨k,K,H7,oa,oc,l,Ga,rfl,rfl,rfl,rfl,Hq,Gc,Hj,B,Z,Hf,W⟩:=hrel;cases H7 with
  | false=>
   go_wp2_with fail;refine zF (v:=.tuple #[.slice oa l.length oc,.int .i64 (K:Int),.bool false]) (by simp [results,Tryz.results33,go_sem]) ?_;rw [<- HP.out];obtain⟨h,_⟩|⟨_,h1,h2⟩:=W.out
   ·cases h
   ·exact⟨_,l,K,false,rfl,Z.out,B.out,Hf.out,Hq,.inr ⟨rfl,h1,h2⟩⟩
  | true=>
   have M:Hid (Qk2 f n fl p acc x=QmA f n fl p (V - k) l K/\ l.length+x<=acc.length+K):=hid (by
    obtain⟨_,h⟩|⟨h,_⟩:=W.out
    ·exact h
    ·cases h)
   by_cases Hm:k<V
   ·obtain⟨mm,H0⟩:∃mm,V - k=mm+1:=⟨V - k - 1,by omega⟩;have N:=hid H0;clear H0;have He:Hid (∀W',Below wr.heap.size wr W' ->Seg W' a n f):=hid (fun W' b=>Seg.below (Seg.keptR HS.out Z.1 (fun y hy=>Ht.2 y hy)) b);have Hu:=hid (Qjd g m pc p wr hp (by omega) (Nat.lt_of_lt_of_le HG.1 Hj) (fun t ht=>(World.cell?_of_block (a:=⟨g,t,none⟩) (Z.1.block g HG.1 (fun e=>Ht.1 e.symm))).trans (HG.2 t ht)));go_wp2_with fail;refine Hu.mono ?_;clear Hu;rintro e r ⟨q,cap,rfl,b2,hq,ho⟩;have S:=hid ho;have D:=hid b2;have HQ:=hid hq;clear ho b2 hq;have b3:Below r.heap.size r (r.alloc (.cells #[.slice (some ⟨q,0,none⟩) m cap,.bool fl,.int .i64 0,.int .i64 0,.string ⟨#[]⟩] 77)):=zO _ _;have R:Hid (Bx5 (r.alloc (.cells #[.slice (some ⟨q,0,none⟩) m cap,.bool fl,.int .i64 0,.int .i64 0,.string ⟨#[]⟩] 77)) r.heap.size (.slice (some ⟨q,0,none⟩) m cap) (.bool fl) (.int .i64 0) (.int .i64 0) (.string ⟨#[]⟩)):=hid (Bx5.new _ _ _ _ _ _ _);have F:=hid (Qac D.out b3);have HR:=hid (QcF a n c K 8 f _ (by omega) HF.out (He _ F.out) Hq (by omega) (by omega));clear b3;go_wp2_with fail;obtain⟨L,Ho⟩:∃L,r.alloc (.cells #[.slice (some ⟨q,0,none⟩) m cap,.bool fl,.int .i64 0,.int .i64 0,.string ⟨#[]⟩] 77)=L:=⟨_,rfl⟩;have T:Hid (L.heap.size=r.heap.size+1):=hid (by rw [<- Ho];simp);have Hk:=hid Ho;rw [Ho] at R F HR ⊢;clear Ho;refine HR.mono ?_;clear HR;rintro e w4 ⟨b4,⟨u,x1,Hh,Ge,H4,rfl⟩|⟨Hh,rfl⟩⟩
    ·have Hg:=hid Hh;have H2:=Qel HF.out Hh;simp only at H2;have Hv:=hid (QcF a n c x1 1000000000 f w4 (by omega) HF.out (He w4 (F.trans (b4.mono F.size))) H4 (by omega) (by omega));have Hs:=hid b4;clear Hh b4;go_wp2_with fail;refine Hv.mono ?_;clear Hv;rintro e C ⟨b5,⟨z,x2,Hi,Gf,H5,rfl⟩|⟨Hi,rfl⟩⟩
     ·have Hl:=hid Hi;have H3:=Qel HF.out Hi;simp only at H3;have Hn:=hid (Qac Hs.out b5);clear Hi b5;cases fl with
      | true=>
       have o:Below L.heap.size L C:=Hn.out;have X:=R.below o (by have:=T.out;omega);have J:(((C.setCell ⟨r.heap.size,2,none⟩ (.int .i64 (u:Int))).setCell ⟨r.heap.size,3,none⟩ (.int .i64 (z:Int)))).heap.size=C.heap.size:=by simp [World.setCell]
       have Y:C.grownBy ((C.setCell ⟨r.heap.size,2,none⟩ (.int .i64 (u:Int))).setCell ⟨r.heap.size,3,none⟩ (.int .i64 (z:Int))) (some r.heap.size):=⟨rfl,rfl,rfl,by simp [World.setCell],fun j hj hne=>by
        have O:j≠r.heap.size:=fun e=>hne (by rw [e]);exact(zH _ _ _ _ O).trans (zH _ _ _ _ O)⟩
       obtain⟨A,i,E,I,H,G⟩:=QdX B.out (Nat.le_trans hlo Hj) (by omega) D.out HQ.out S.out hp _ (by rw [Hk.out];have:=T.out;rw [<- this];exact o) Y J true (u:Int) (z:Int) ⟨#[]⟩;have Hc:Hid (LB E lo (.slice (some ⟨A,0,none⟩) (l++[(⟨p,true,(u:Int),(z:Int),⟨#[]⟩⟩:Lf)]).length i) (l++[⟨p,true,(u:Int),(z:Int),⟨#[]⟩⟩])):=hid (by rw [List.length_append,List.length_singleton];exact H);have Q:Hid (Gr w E (.slice oa0 acc.length oc0) (.slice (some ⟨A,0,none⟩) (l++[(⟨p,true,(u:Int),(z:Int),⟨#[]⟩⟩:Lf)]).length i)):=hid (by rw [List.length_append,List.length_singleton];exact Z.trans G);have U:Hid (LsI f n true p acc x V (k+1) x2 true (l++[⟨p,true,(u:Int),(z:Int),⟨#[]⟩⟩])):=hid (by
        refine .inl ⟨rfl,?_,?_⟩
        ·rw [M.1,N.out,show V - (k+1)=mm by have:=N.out;omega];show (Qif f n true p K).bind _=_;unfold Qif;rw [Hg.out];simp only [Option.bind_some];rw [Hl.out];rfl
        ·have h2:=M.2;simp only [List.length_append,List.length_singleton];omega)
       have Ha:=hid (Hf.snoc (y:=⟨p,true,(u:Int),(z:Int),⟨#[]⟩⟩) (by show p.length<=8;omega));have Hd:w.heap.size<=E.heap.size:=Q.1.size;have Hb:(l++[(⟨p,true,(u:Int),(z:Int),⟨#[]⟩⟩:Lf)]).length<=20000:=by
        obtain⟨_,_,h⟩|⟨_,_,h⟩:=U.out<;>omega
       have c0:=X.c0;have c1:=X.c1;have c2:=X.c2;have c3:=X.c3;have c4:=X.c4;have cf:=X.f;clear X J Y H G B Z M W He S D R F N o;go_wp2_with (at_builtin;refine Qaa rfl _ _ _ _ rfl I (by rfl) (by rfl) rfl ?_;clear I);go_roundw;case rel=>exact⟨k+1,x2,true,some ⟨A,0,none⟩,i,l++[⟨p,true,(u:Int),(z:Int),⟨#[]⟩⟩],Hm,by go_num,rfl,rfl,by simp,by omega,Hb,Hd,Hc,Q,Ha,U⟩
       case measure=>simp [intOf];omega
      | false=>
       have Hw:=hid (Qhs a n c x2 200 f C (by omega) hnc HF.out (He C (F.trans (Hn.mono F.size))) H5 (by omega) (by omega));go_wp2_with fail;refine Hw.mono ?_;clear Hw;rintro e w6 ⟨b6,⟨s,x3,ht,H6,Gg,Gd,rfl⟩|⟨ht,kc,H8,H9,rfl⟩⟩
       ·have Hp:=hid ht;have o:Below L.heap.size L w6:=Qac Hn.out b6;clear ht b6;have X:=R.below o (by have:=T.out;omega);have J:((((w6.setCell ⟨r.heap.size,4,none⟩ (.string s)).setCell ⟨r.heap.size,2,none⟩ (.int .i64 (u:Int))).setCell ⟨r.heap.size,3,none⟩ (.int .i64 (z:Int)))).heap.size=w6.heap.size:=by simp [World.setCell]
        have Y:w6.grownBy (((w6.setCell ⟨r.heap.size,4,none⟩ (.string s)).setCell ⟨r.heap.size,2,none⟩ (.int .i64 (u:Int))).setCell ⟨r.heap.size,3,none⟩ (.int .i64 (z:Int))) (some r.heap.size):=⟨rfl,rfl,rfl,by simp [World.setCell],fun j hj hne=>by
         have O:j≠r.heap.size:=fun e=>hne (by rw [e]);exact(zH _ _ _ _ O).trans ((zH _ _ _ _ O).trans (zH _ _ _ _ O))⟩
        obtain⟨A,i,E,I,H,G⟩:=QdX B.out (Nat.le_trans hlo Hj) (by omega) D.out HQ.out S.out hp _ (by rw [Hk.out];have:=T.out;rw [<- this];exact o) Y J false (u:Int) (z:Int) s;have Hc:Hid (LB E lo (.slice (some ⟨A,0,none⟩) (l++[(⟨p,false,(u:Int),(z:Int),s⟩:Lf)]).length i) (l++[⟨p,false,(u:Int),(z:Int),s⟩])):=hid (by rw [List.length_append,List.length_singleton];exact H);have Q:Hid (Gr w E (.slice oa0 acc.length oc0) (.slice (some ⟨A,0,none⟩) (l++[(⟨p,false,(u:Int),(z:Int),s⟩:Lf)]).length i)):=hid (by rw [List.length_append,List.length_singleton];exact Z.trans G);have U:Hid (LsI f n false p acc x V (k+1) x3 true (l++[⟨p,false,(u:Int),(z:Int),s⟩])):=hid (by
         refine .inl ⟨rfl,?_,?_⟩
         ·rw [M.1,N.out,show V - (k+1)=mm by have:=N.out;omega];show (Qif f n false p K).bind _=_;unfold Qif;rw [Hg.out];simp only [Option.bind_some];rw [Hl.out];simp only [Option.bind_some];rw [if_neg (by simp),Hp.out];rfl
         ·have h2:=M.2;simp only [List.length_append,List.length_singleton];omega)
        have Ha:=hid (Hf.snoc (y:=⟨p,false,(u:Int),(z:Int),s⟩) (by show p.length<=8;omega));have Hd:w.heap.size<=E.heap.size:=Q.1.size;have Hb:(l++[(⟨p,false,(u:Int),(z:Int),s⟩:Lf)]).length<=20000:=by
         obtain⟨_,_,h⟩|⟨_,_,h⟩:=U.out<;>omega
        have c0:=X.c0;have c1:=X.c1;have c2:=X.c2;have c3:=X.c3;have c4:=X.c4;have cf:=X.f;clear X J Y H G B Z M W He S D R F N o;go_wp2_with (at_builtin;refine Qaa rfl _ _ _ _ rfl I (by rfl) (by rfl) rfl ?_;clear I);go_roundw;case rel=>exact⟨k+1,x3,true,some ⟨A,0,none⟩,i,l++[⟨p,false,(u:Int),(z:Int),s⟩],Hm,by go_num,rfl,rfl,by simp,by omega,Hb,Hd,Hc,Q,Ha,U⟩
        case measure=>simp [intOf];omega
       ·have Hp:=hid ht;have o:Below L.heap.size L w6:=Qac Hn.out b6;have Gb:((kc:Int)==0)=false:=by simp;omega
        clear ht b6;have X:=R.below o (by have:=T.out;omega);have J:((((w6.setCell ⟨r.heap.size,4,none⟩ (.string ⟨#[]⟩)).setCell ⟨r.heap.size,2,none⟩ (.int .i64 (u:Int))).setCell ⟨r.heap.size,3,none⟩ (.int .i64 (z:Int)))).heap.size=w6.heap.size:=by simp [World.setCell]
        have Y:w6.grownBy (((w6.setCell ⟨r.heap.size,4,none⟩ (.string ⟨#[]⟩)).setCell ⟨r.heap.size,2,none⟩ (.int .i64 (u:Int))).setCell ⟨r.heap.size,3,none⟩ (.int .i64 (z:Int))) (some r.heap.size):=⟨rfl,rfl,rfl,by simp [World.setCell],fun j hj hne=>by
         have O:j≠r.heap.size:=fun e=>hne (by rw [e]);exact(zH _ _ _ _ O).trans ((zH _ _ _ _ O).trans (zH _ _ _ _ O))⟩
        obtain⟨A,i,E,I,H,G⟩:=QdX B.out (Nat.le_trans hlo Hj) (by omega) D.out HQ.out S.out hp _ (by rw [Hk.out];have:=T.out;rw [<- this];exact o) Y J false (u:Int) (z:Int) ⟨#[]⟩;have Hc:Hid (LB E lo (.slice (some ⟨A,0,none⟩) (l++[(⟨p,false,(u:Int),(z:Int),⟨#[]⟩⟩:Lf)]).length i) (l++[⟨p,false,(u:Int),(z:Int),⟨#[]⟩⟩])):=hid (by rw [List.length_append,List.length_singleton];exact H);have Q:Hid (Gr w E (.slice oa0 acc.length oc0) (.slice (some ⟨A,0,none⟩) (l++[(⟨p,false,(u:Int),(z:Int),⟨#[]⟩⟩:Lf)]).length i)):=hid (by rw [List.length_append,List.length_singleton];exact Z.trans G);have U:Hid (LsI f n false p acc x V (k+1) x2 false (l++[⟨p,false,(u:Int),(z:Int),⟨#[]⟩⟩])):=hid (by
         refine .inr ⟨rfl,?_,?_⟩
         ·rw [M.1,N.out];show (Qif f n false p K).bind _=_;unfold Qif;rw [Hg.out];simp only [Option.bind_some];rw [Hl.out];simp only [Option.bind_some];rw [if_neg (by simp),Hp.out];rfl
         ·have h2:=M.2;simp only [List.length_append,List.length_singleton];omega)
        have Ha:=hid (Hf.snoc (y:=⟨p,false,(u:Int),(z:Int),⟨#[]⟩⟩) (by show p.length<=8;omega));have Hd:w.heap.size<=E.heap.size:=Q.1.size;have Hb:(l++[(⟨p,false,(u:Int),(z:Int),⟨#[]⟩⟩:Lf)]).length<=20000:=by
         obtain⟨_,_,h⟩|⟨_,_,h⟩:=U.out<;>omega
        have c0:=X.c0;have c1:=X.c1;have c2:=X.c2;have c3:=X.c3;have c4:=X.c4;have cf:=X.f;clear X J Y H G B Z M W He S D R F N o;go_wp2_with (at_builtin;refine Qaa rfl _ _ _ _ rfl I (by rfl) (by rfl) rfl ?_;clear I);go_roundw;case rel=>exact⟨k+1,x2,false,some ⟨A,0,none⟩,i,l++[⟨p,false,(u:Int),(z:Int),⟨#[]⟩⟩],Hm,by go_num,rfl,rfl,by simp,by omega,Hb,Hd,Hc,Q,Ha,U⟩
        case measure=>simp [intOf];omega
     ·have Hl:=hid Hi;have o:Below L.heap.size L C:=Qac Hs.out b5;clear Hi b5;have X:=R.below o (by have:=T.out;omega);have J:(((C.setCell ⟨r.heap.size,2,none⟩ (.int .i64 (u:Int))).setCell ⟨r.heap.size,3,none⟩ (.int .i64 0))).heap.size=C.heap.size:=by simp [World.setCell]
      have Y:C.grownBy ((C.setCell ⟨r.heap.size,2,none⟩ (.int .i64 (u:Int))).setCell ⟨r.heap.size,3,none⟩ (.int .i64 0)) (some r.heap.size):=⟨rfl,rfl,rfl,by simp [World.setCell],fun j hj hne=>by
       have O:j≠r.heap.size:=fun e=>hne (by rw [e]);exact(zH _ _ _ _ O).trans (zH _ _ _ _ O)⟩
      obtain⟨A,i,E,I,H,G⟩:=QdX B.out (Nat.le_trans hlo Hj) (by omega) D.out HQ.out S.out hp _ (by rw [Hk.out];have:=T.out;rw [<- this];exact o) Y J fl (u:Int) 0 ⟨#[]⟩;have Hc:Hid (LB E lo (.slice (some ⟨A,0,none⟩) (l++[(⟨p,fl,(u:Int),0,⟨#[]⟩⟩:Lf)]).length i) (l++[⟨p,fl,(u:Int),0,⟨#[]⟩⟩])):=hid (by rw [List.length_append,List.length_singleton];exact H);have Q:Hid (Gr w E (.slice oa0 acc.length oc0) (.slice (some ⟨A,0,none⟩) (l++[(⟨p,fl,(u:Int),0,⟨#[]⟩⟩:Lf)]).length i)):=hid (by rw [List.length_append,List.length_singleton];exact Z.trans G);have U:Hid (LsI f n fl p acc x V (k+1) x1 false (l++[⟨p,fl,(u:Int),0,⟨#[]⟩⟩])):=hid (by
       refine .inr ⟨rfl,?_,?_⟩
       ·rw [M.1,N.out];show (Qif f n fl p K).bind _=_;unfold Qif;rw [Hg.out];simp only [Option.bind_some];rw [Hl.out];rfl
       ·have h2:=M.2;simp only [List.length_append,List.length_singleton];omega)
      have Ha:=hid (Hf.snoc (y:=⟨p,fl,(u:Int),0,⟨#[]⟩⟩) (by show p.length<=8;omega));have Hd:w.heap.size<=E.heap.size:=Q.1.size;have Hb:(l++[(⟨p,fl,(u:Int),0,⟨#[]⟩⟩:Lf)]).length<=20000:=by
       obtain⟨_,_,h⟩|⟨_,_,h⟩:=U.out<;>omega
      have c0:=X.c0;have c1:=X.c1;have c2:=X.c2;have c3:=X.c3;have c4:=X.c4;have cf:=X.f;clear X J Y H G B Z M W He S D R F N o;go_wp2_with (at_builtin;refine Qaa rfl _ _ _ _ rfl I (by rfl) (by rfl) rfl ?_;clear I);go_roundw;case rel=>exact⟨k+1,x1,false,some ⟨A,0,none⟩,i,l++[⟨p,fl,(u:Int),0,⟨#[]⟩⟩],Hm,by go_num,rfl,rfl,by simp,by omega,Hb,Hd,Hc,Q,Ha,U⟩
      case measure=>simp [intOf];omega
    ·have Hg:=hid Hh;clear Hh;have o:Below L.heap.size L w4:=b4;clear b4;have X:=R.below o (by have:=T.out;omega);have J:(((w4.setCell ⟨r.heap.size,2,none⟩ (.int .i64 0)).setCell ⟨r.heap.size,3,none⟩ (.int .i64 0))).heap.size=w4.heap.size:=by simp [World.setCell]
     have Y:w4.grownBy ((w4.setCell ⟨r.heap.size,2,none⟩ (.int .i64 0)).setCell ⟨r.heap.size,3,none⟩ (.int .i64 0)) (some r.heap.size):=⟨rfl,rfl,rfl,by simp [World.setCell],fun j hj hne=>by
      have O:j≠r.heap.size:=fun e=>hne (by rw [e]);exact(zH _ _ _ _ O).trans (zH _ _ _ _ O)⟩
     obtain⟨A,i,E,I,H,G⟩:=QdX B.out (Nat.le_trans hlo Hj) (by omega) D.out HQ.out S.out hp _ (by rw [Hk.out];have:=T.out;rw [<- this];exact o) Y J fl 0 0 ⟨#[]⟩;have Hc:Hid (LB E lo (.slice (some ⟨A,0,none⟩) (l++[(⟨p,fl,0,0,⟨#[]⟩⟩:Lf)]).length i) (l++[⟨p,fl,0,0,⟨#[]⟩⟩])):=hid (by rw [List.length_append,List.length_singleton];exact H);have Q:Hid (Gr w E (.slice oa0 acc.length oc0) (.slice (some ⟨A,0,none⟩) (l++[(⟨p,fl,0,0,⟨#[]⟩⟩:Lf)]).length i)):=hid (by rw [List.length_append,List.length_singleton];exact Z.trans G);have U:Hid (LsI f n fl p acc x V (k+1) K false (l++[⟨p,fl,0,0,⟨#[]⟩⟩])):=hid (by
      refine .inr ⟨rfl,?_,?_⟩
      ·rw [M.1,N.out];show (Qif f n fl p K).bind _=_;unfold Qif;rw [Hg.out];rfl
      ·have h2:=M.2;simp only [List.length_append,List.length_singleton];omega)
     have Ha:=hid (Hf.snoc (y:=⟨p,fl,0,0,⟨#[]⟩⟩) (by show p.length<=8;omega));have Hd:w.heap.size<=E.heap.size:=Q.1.size;have Hb:(l++[(⟨p,fl,0,0,⟨#[]⟩⟩:Lf)]).length<=20000:=by
      obtain⟨_,_,h⟩|⟨_,_,h⟩:=U.out<;>omega
     have c0:=X.c0;have c1:=X.c1;have c2:=X.c2;have c3:=X.c3;have c4:=X.c4;have cf:=X.f;clear X J Y H G B Z M W He S D R F N o;go_wp2_with (at_builtin;refine Qaa rfl _ _ _ _ rfl I (by rfl) (by rfl) rfl ?_;clear I);go_roundw;case rel=>exact⟨k+1,K,false,some ⟨A,0,none⟩,i,l++[⟨p,fl,0,0,⟨#[]⟩⟩],Hm,by go_num,rfl,rfl,by simp,by omega,Hb,Hd,Hc,Q,Ha,U⟩
     case measure=>simp [intOf];omega
   ·obtain rfl:k=V:=by omega
    go_wp2_with fail;refine zF (v:=.tuple #[.slice oa l.length oc,.int .i64 (K:Int),.bool true]) (by simp [results,Tryz.results33,go_sem]) ?_;rw [<- HP.out];refine⟨_,l,K,true,rfl,Z.out,B.out,Hf.out,Hq,.inl ⟨rfl,?_,M.2⟩⟩;rw [M.1,Nat.sub_self];rfl
structure SpA (w:World)(a:Option Addr)(n:Nat)(f:Nat ->Int)(x g:Nat)(p:List ByteArray)(vo:Value)(acc:List Lf)(lo:Nat):Prop where
 sg:Seg w a n f
 hx:x<=n
 gl:g<w.heap.size
 gc:∀t,t<p.length ->w.cell? ⟨g,t,none⟩=some (.string (gS p t))
 go:vo.ownBlock≠some g
 ab:∀y,a=some y ->vo.ownBlock≠some y.block
 lb:LB w lo vo acc
 bd:LBd acc
 lo':lo<=w.heap.size
 ac:acc.length<=x
def TsI (R:Option (List Lf×Nat))(S:Nat ->List Lf ->Nat ->Option (List Lf×Nat))(n:Nat)(acc:List Lf)(x V k y:Nat)(ok:Bool)(l:List Lf):Prop:=
 (ok=true/\ R=S (V - k) l y/\ l.length+x<=acc.length+y) \/(ok=false/\ R=none/\ l.length+x<=acc.length+n+1)
theorem Qgj (a:Option Addr)(n c:Nat)(f:Nat ->Int)(lo d:Nat)(p:List ByteArray)(hpd:p.length+d=8)(hn:n<=4000)(hnc:n<=c)(hf:Byt f)
  (hrec:p.length<8 ->∀(s:ByteArray) (x g pc:Nat) (z:Option Addr) (o:Nat) (acc:List Lf) (W:World),SpA W a n f x g (p++[s]) (.slice z acc.length o) acc lo ->Calls Tryz.prog 16 #[.slice a n c,.int .i64 (x:Int),.slice (some ⟨g,0,none⟩) (p.length+1) pc,.slice z acc.length o] W fun e w'=>LdP W lo (.slice z acc.length o) n x acc (Qdu f n d (p++[s]) acc x) e w')
  (x g pc:Nat) (oa0:Option Addr) (oc0:Nat) (acc:List Lf) (w:World) (hA:SpA w a n f x g p (.slice oa0 acc.length oc0) acc lo):
  Calls Tryz.prog 16 #[.slice a n c,.int .i64 (x:Int),.slice (some ⟨g,0,none⟩) p.length pc,.slice oa0 acc.length oc0] w fun e w'=>LdP w lo (.slice oa0 acc.length oc0) n x acc (Qdu f n (d+1) p acc x) e w':=by
 obtain⟨P,hP⟩:∃P,LdP w lo (.slice oa0 acc.length oc0) n x acc (Qdu f n (d+1) p acc x)=P:=⟨_,rfl⟩;rw [hP];have HP:=hid hP;clear hP;obtain⟨R,hR⟩:∃R,Qdu f n (d+1) p acc x=R:=⟨_,rfl⟩;have HR:=hid hR;rw [hR] at HP;clear hR;have hx:=hA.hx;have HU:Hid (Calls Tryz.prog 30 #[.slice a n c,.int .i64 (x:Int),.int .i64 4000] w fun e w'=>Below w.heap.size w w'/\∃(V y:Nat) (S:Bool),e=.returned (.tuple #[.int .i64 (V:Int),.int .i64 (y:Int),.bool S])/\ V<=4000/\ y<=n/\ (p.length<8 ->TsI R (Qit f n (Qdu f n d) p) n acc x V 0 y S acc)):=hid (by
  refine(QcF a n c x 4000 f w (by omega) hf hA.sg hx (by omega) (by omega)).mono ?_;rintro e w' ⟨b,⟨V,x',r,N,h3,rfl⟩|⟨r,rfl⟩⟩
  ·refine⟨b,V,x',true,rfl,by omega,h3,fun Hs=> .inl ⟨rfl,?_,?_⟩⟩
   ·rw [<- HR.out];unfold Qdu;rw [r];simp only [Option.bind_some];rw [if_neg (by omega)];rfl
   ·have:=(Qel hf r).1;simp at this;omega
  ·refine⟨b,0,x,false,rfl,by omega,hx,fun Hs=> .inr ⟨rfl,?_,by omega⟩⟩;rw [<- HR.out];unfold Qdu;rw [r];rfl)
 have Gn:=hA.ac;have Hw:=hid hrec;have HF:=hid hf;have i:=hid hA;have Gk:=hid hpd;obtain⟨m,hm⟩:∃m,p.length=m:=⟨_,rfl⟩;have O:=hid hm;rw [hm] at hpd ⊢;clear hrec hf hA hm;go_enter Tryz.func16,Tryz.ntmps16;go_wp2_with fail;refine HU.mono ?_;clear HU;rintro e w1 ⟨b1,V,y,S,rfl,hV,hy,C⟩;have HI:=hid C;have Hq:=hid b1;have z1:=b1.size;clear C b1;by_cases Gu:8<=m
 ·have B:Hid (R=none):=hid (by
   have e:=O.out;rw [<- HR.out];unfold Qdu;cases rd f n x 4000 with
   | none=>rfl
   | some u=>simp only [Option.bind_some];rw [if_pos (by omega)])
  have Hy:(8:Int)<=(m:Int):=by omega
  clear HI;go_wp2_with fail;refine zF (v:=.tuple #[.slice oa0 acc.length oc0,.int .i64 (x:Int),.bool false]) (by simp [results,Tryz.results16,go_sem]) ?_;rw [<- HP.out];exact⟨_,acc,x,false,rfl,Gr.of_below Hq.out,i.lb.below Hq.out,i.bd,hx,.inr ⟨rfl,B.out,by omega⟩⟩
 ·have Hy:¬(8:Int)<=(m:Int):=by omega
  have Hs:p.length<8:=by have:=O.out;omega
  have Gc:=hid (HI Hs);clear HI;go_wp2_with fail;go_loopw [3,12,13,14] (fun ov av M iv wr=>∃(k y:Nat) (S:Bool) (z:Option Addr) (o:Nat) (l:List Lf),k<=V/\ iv=.int .i64 (k:Int)/\ av=.int .i64 (y:Int)/\ M=.bool S/\ ov=.slice z l.length o/\ y<=n/\ w.heap.size<=wr.heap.size/\ Hid (LB wr lo (.slice z l.length o) l)/\ Hid (Gr w wr (.slice oa0 acc.length oc0) (.slice z l.length o))/\ Hid (LBd l)/\ Hid (TsI R (Qit f n (Qdu f n d) p) n acc x V k y S l)) (fun _ _ _ iv _=>V - (intOf iv).toNat);case atStart=>exact⟨0,y,S,oa0,oc0,acc,Nat.zero_le _,rfl,rfl,rfl,rfl,hy,z1,hid (i.lb.below Hq.out),hid (Gr.of_below Hq.out),hid i.bd,Gc⟩
  case round=>
   obtain⟨k,Y,Gi,z,o,l,Gs,rfl,rfl,rfl,rfl,Hz,Gb,U,E,G,C⟩:=hrel;cases Gi with
   | false=>
    go_wp2_with fail;refine zF (v:=.tuple #[.slice z l.length o,.int .i64 (Y:Int),.bool false]) (by simp [results,Tryz.results16,go_sem]) ?_;rw [<- HP.out];obtain⟨h,_⟩|⟨_,r,N⟩:=C.out
    ·cases h
    ·exact⟨_,l,Y,false,rfl,E.out,U.out,G.out,Hz,.inr ⟨rfl,r,N⟩⟩
   | true=>
    have H:Hid (R=Qit f n (Qdu f n d) p (V - k) l Y):=hid (by
     obtain⟨_,h,_⟩|⟨h,_⟩:=C.out
     ·exact h
     ·cases h)
    have Hl:l.length+x<=acc.length+Y:=by
     obtain⟨_,_,h⟩|⟨h,_⟩:=C.out
     ·exact h
     ·cases h
    clear C;by_cases H9:k<V
    ·obtain⟨mm,Ga⟩:∃mm,V - k=mm+1:=⟨V - k - 1,by omega⟩;have Hv:=hid Ga;clear Ga;have L:Hid (∀W',Below wr.heap.size wr W' ->Seg W' a n f):=hid (fun W' b=>Seg.below (Seg.keptR i.sg E.1 (fun y hy=>i.ab y hy)) b);have H6:=hid (Qhs a n c Y 40 f wr (by omega) hnc HF.out (L wr zI) Hz (by omega) (by omega));have J:Hid (∀W',Below wr.heap.size wr W' ->R=none ->P (.returned (.tuple #[.slice z l.length o,.int .i64 (x:Int),.bool false])) W'):=hid (fun W' b hN=>by
      rw [<- HP.out];exact⟨_,l,x,false,rfl,E.trans (Gr.of_below b),U.below b,G.out,hx,.inr ⟨rfl,hN,by omega⟩⟩)
     go_wp2_with fail;refine H6.mono ?_;clear H6;rintro e w2 ⟨b2,⟨s,A,I,Gh,Gw,Gv,rfl⟩|⟨I,kc,Gp,Gq,rfl⟩⟩
     ·have HT:=hid I;have T:=hid b2;clear I b2;by_cases Ho:A<n
      ·obtain⟨M,Hx⟩:∃M,f A=M:=⟨_,rfl⟩;have Ha:Hid (R=(QmZ f n (Qdu f n d) p (s,M) l (A+1)).bind fun b=>Qit f n (Qdu f n d) p (V - (k+1)) b.1 b.2):=hid (by
        have e:=Hv.out;rw [H.out,e,show V - (k+1)=mm by omega];show (Qcy f n Y 40).bind _=_;rw [HT.out];simp only [Option.bind_some];rw [if_pos Ho,Hx])
       have H8:=HF A;rw [Hx] at H8;obtain⟨Gl,Gm⟩:=H8;obtain⟨ab,ao,ha,Ge,H7⟩:=(L w2 T.out).resolve_left (by omega);subst ha;have cx:=H7 A Ho;rw [Hx] at cx;have i1:(0:Int)<=(A:Int):=Int.natCast_nonneg _;have i2:(A:Int)<(n:Int):=by omega
       have i3:¬(n:Int)<=(A:Int):=by omega
       have H5:=hid (Qjd g m pc p w2 O.out (by omega) (Nat.lt_of_lt_of_le (Nat.lt_of_lt_of_le i.gl Gb) T.size) (fun t I=>(T.cell (p:=⟨g,t,none⟩) (Nat.lt_of_lt_of_le i.gl Gb)).trans ((World.cell?_of_block (a:=⟨g,t,none⟩) (E.1.block g i.gl (fun e=>i.go e.symm))).trans (i.gc t (by have:=O.out;omega)))));clear H7 Ge;go_wp2_with fail;clear cx;refine H5.mono ?_;clear H5;rintro e w3 ⟨q,cap,rfl,b3,hq,ho⟩;have H4:=hid (Qac T.out b3);have Gx:=T.size;have Gy:=b3.size;have He:(w3.alloc (.cells #[.string s] 9)).cell? ⟨w3.heap.size,0,none⟩=some (.string s):=by simp
       obtain⟨q2,Hj,w4,F,Hr,gq,Gf⟩:=Qju (p:=p) (by rw [O.out];exact World.ownsRow.alloc ho _) (by simp;omega) (by omega) s w3.heap.size He;rw [O.out] at F Hr;have Hg:Hid (Below wr.heap.size wr w4):=hid (by
        have Z:=H4.alloc H4.size (.cells #[.string s] 9);exact Z.grown gq Z.size (fun j e=>by
         have:q=j:=by simpa [Value.ownBlock] using e
         omega))
       obtain⟨Hn,_⟩:=Qcf Hr (by simp;exact O.out);have Hi:Hid (SpA w4 (some ⟨ab,ao,none⟩) n f (A+1) q2 (p++[s]) (.slice z l.length o) l lo):=hid (by
        have Gg:=World.ownsRow.lt Hr q2 rfl;refine⟨L.out w4 Hg.out,Ho,Gg.2,fun t I=> ?_,fun e=> ?_,fun y hy e=> ?_,U.below Hg.out,G.out,?_,by omega⟩
        ·rcases Hn with ⟨h,_⟩|⟨g',c',r,N,h3⟩
         ·cases h
         ·injection r with Z e2 e3;injection Z with Z;injection Z with Z;subst Z;exact h3 t I
        ·have:=(U.lt q2 e).2;omega
        ·rcases E.2 with h|⟨u,r,N⟩
         ·exact i.ab y hy (h.symm.trans e)
         ·rw [r] at e;injection e with e;have:=i.sg;rcases this with h0|⟨b',o',e',Go,_⟩
          ·omega
          ·rw [hy] at e';injection e' with e';subst e';simp at e;omega
        ·have:=i.lo';have:=Hg.size;omega)
       have Gd:=hid Hl;clear ho Hr b3 Hn gq He Gf;by_cases Hk:M=3
       ·subst Hk;have X:=hid (Hw Hs s (A+1) q2 Hj z o l w4 Hi.out);have K:Hid (R=(Qdu f n d (p++[s]) l (A+1)).bind fun b=>Qit f n (Qdu f n d) p (V - (k+1)) b.1 b.2):=hid (by rw [Ha.out];rfl);rw [O.out] at X;go_wp2_with (at_builtin;refine Qaa rfl _ _ _ _ rfl F (by rfl) (by rfl) rfl ?_;clear F);refine X.mono ?_;clear X;rintro e w5 ⟨Gj,l',y',Hp,rfl,Hc,D,Hb,H0,Hm⟩;obtain⟨H2,H3,rfl⟩:=D.form;have Hh:=hid (E.trans ((Gr.of_below Hg.out).trans Hc));have Hu:=hid D;have Hf:=hid Hb;have Ht:Hid (TsI R (Qit f n (Qdu f n d) p) n acc x V (k+1) y' Hp l'):=hid (by
         rcases Hm with ⟨rfl,r,N⟩|⟨rfl,r,N⟩
         ·exact .inl ⟨rfl,by rw [K.out,r];rfl,by omega⟩
         ·exact .inr ⟨rfl,by rw [K.out,r];rfl,by omega⟩)
        have H1:w.heap.size<=w5.heap.size:=Hh.1.size;clear Hc D Hb Hm U E G H L J Hi Ha K;go_wp2_with fail;go_roundw;case rel=>exact⟨k+1,y',Hp,H2,H3,l',H9,by go_num,rfl,rfl,rfl,H0,H1,Hu,Hh,Hf,Ht⟩
        case measure=>simp [intOf];omega
       ·by_cases Hd:M=1 \/M=2
        ·have Q:=Hi.out;have K:Hid (R=(Qk2 f n (decide (M=2)) (p++[s]) l (A+1)).bind fun b=>Qit f n (Qdu f n d) p (V - (k+1)) b.1 b.2):=hid (by
          rw [Ha.out];unfold QmZ Qk2;rw [if_neg Hk,if_pos Hd])
         have X:=hid (Qfj (some ⟨ab,ao,none⟩) n c (A+1) f q2 (m+1) Hj (p++[s]) (decide (M=2)) z o l lo w4 hn hnc HF.out Q.sg Q.hx (by have:=O.out;simp;omega) (by omega) Q.gl (fun t I=>Q.gc t (by have:=O.out;simp;omega)) Q.go Q.ab Q.lb Q.bd Q.lo' (by omega));clear Q Hk;rcases Hd with rfl|rfl;all_goals
          simp only [show decide ((1:Int)=2)=false from rfl,show decide ((2:Int)=2)=true from rfl] at X K
          go_wp2_with (at_builtin;refine Qaa rfl _ _ _ _ rfl F (by rfl) (by rfl) rfl ?_;clear F)
          refine X.mono ?_
          clear X
          rintro e w5 ⟨Gj,l',y',Hp,rfl,Hc,D,Hb,H0,Hm⟩
          obtain⟨H2,H3,rfl⟩:=D.form
          have Hh:=hid (E.trans ((Gr.of_below Hg.out).trans Hc))
          have Hu:=hid D
          have Hf:=hid Hb
          have Ht:Hid (TsI R (Qit f n (Qdu f n d) p) n acc x V (k+1) y' Hp l'):=hid (by
           rcases Hm with ⟨rfl,r,N⟩|⟨rfl,r,N⟩
           ·exact .inl ⟨rfl,by rw [K.out,r];rfl,by omega⟩
           ·exact .inr ⟨rfl,by rw [K.out,r];rfl,by omega⟩)
          have H1:w.heap.size<=w5.heap.size:=Hh.1.size
          clear Hc D Hb Hm U E G H L J Hi Ha K
          go_wp2_with fail
          go_roundw
          case rel=>exact⟨k+1,y',Hp,H2,H3,l',H9,by go_num,rfl,rfl,rfl,H0,H1,Hu,Hh,Hf,Ht⟩
          case measure=>simp [intOf];omega
        ·have B:=hid (J w4 Hg.out (by
          rw [Ha.out];unfold QmZ;rw [if_neg Hk,if_neg Hd];rfl))
         have Z:(M==1)=false:=by simp;omega
         have e2:(M==2)=false:=by simp;omega
         have e3:(M==3)=false:=by simp;omega
         clear Hk Hd U E G H L J Hi Ha;go_wp2_with (at_builtin;refine Qaa rfl _ _ _ _ rfl F (by rfl) (by rfl) rfl ?_;clear F);exact bodyPost_ret (v:=.tuple #[.slice z l.length o,.int .i64 (x:Int),.bool false]) (by simp [results,Tryz.results16,go_sem]) rfl B.out
      ·have i3:(n:Int)<=(A:Int):=by omega
       have B:=hid (J w2 T.out (by
        have e:=Hv.out;rw [H.out,e];show (Qcy f n Y 40).bind _=_;rw [HT.out];simp only [Option.bind_some];rw [if_neg Ho]))
       clear U E G H L J Ho;go_wp2_with fail;exact bodyPost_ret (v:=.tuple #[.slice z l.length o,.int .i64 (x:Int),.bool false]) (by simp [results,Tryz.results16,go_sem]) rfl B.out
     ·have Gt:((kc:Int)==0)=false:=by simp;omega
      have B:=hid (J w2 b2 (by
       have e:=Hv.out;rw [H.out,e];show (Qcy f n Y 40).bind _=_;rw [I];rfl))
      clear U E G H L J I b2;go_wp2_with fail;exact bodyPost_ret (v:=.tuple #[.slice z l.length o,.int .i64 (x:Int),.bool false]) (by simp [results,Tryz.results16,go_sem]) rfl B.out
    ·obtain rfl:k=V:=by omega
     go_wp2_with fail;refine zF (v:=.tuple #[.slice z l.length o,.int .i64 (Y:Int),.bool true]) (by simp [results,Tryz.results16,go_sem]) ?_;rw [<- HP.out];refine⟨_,l,Y,true,rfl,E.out,U.out,G.out,Hz,.inl ⟨rfl,?_,Hl⟩⟩;rw [H.out,Nat.sub_self];rfl
theorem QdV (a:Option Addr)(n c:Nat)(f:Nat ->Int)(lo:Nat)(hn:n<=4000)(hnc:n<=c)(hf:Byt f):
  ∀(d:Nat) (p:List ByteArray),p.length+d=8 ->∀(x g pc:Nat) (oa:Option Addr) (oc:Nat) (acc:List Lf) (w:World),SpA w a n f x g p (.slice oa acc.length oc) acc lo ->
  Calls Tryz.prog 16 #[.slice a n c,.int .i64 (x:Int),.slice (some ⟨g,0,none⟩) p.length pc,.slice oa acc.length oc] w fun e w'=>LdP w lo (.slice oa acc.length oc) n x acc (Qdu f n (d+1) p acc x) e w'
 | 0,p,hp,x,g,pc,oa,oc,acc,w,hA=>Qgj a n c f lo 0 p hp hn hnc hf (fun h=>absurd h (by omega)) x g pc oa oc acc w hA
 | d+1,p,hp,x,g,pc,oa,oc,acc,w,hA=>Qgj a n c f lo (d+1) p hp hn hnc hf (fun h s x' g' pc' oa' oc' acc' W hA'=>by
   have:=QdV a n c f lo hn hnc hf d (p++[s]) (by simp;omega) x' g' pc' oa' oc' acc' W hA';rw [show (p++[s]).length=p.length+1 by simp] at this;exact this) x g pc oa oc acc w hA
def SgP (f:Nat ->Int)(n:Nat)(w:World)(e:Ending)(w':World):Prop:=Below w.heap.size w w'/\
 ((∃(rl:List Rn) (l:List Lf) (va:Option Addr) (vc:Nat) (xa:Option Addr) (xc:Nat),gsS f n=some (rl,l)/\ e=.returned (.tuple #[.agg #[.slice va l.length vc,.slice xa rl.length xc],.int .i64 0])/\ LB w' (w.heap.size+1) (.slice va l.length vc) l/\ FR w' (w.heap.size+1) (.slice xa rl.length xc) rl/\ l.length<=5000/\ LBd l/\ rl.length<=8000) \/
  (gsS f n=none/\ e=.returned (.tuple #[.agg #[.slice none 0 0,.slice none 0 0],.int .i64 1])))
theorem QkK (a:Option Addr)(n c:Nat)(f:Nat ->Int)(w:World)(hn:n<=9223372036854775807)(hnc:n<=c)(hf:Byt f)(hs:Seg w a n f)(hab:∀y,a=some y ->y.block<w.heap.size):
  Calls Tryz.prog 5 #[.slice a n c] w fun e w'=>SgP f n w e w':=by
 obtain⟨P,hP⟩:∃P,SgP f n w=P:=⟨_,rfl⟩;rw [hP];have HP:=hid hP;clear hP;obtain⟨W,T⟩:∃W,w.alloc (.cells #[.slice none 0 0,.slice none 0 0] 29)=W:=⟨_,rfl⟩;have D:Below w.heap.size w W:=by rw [<- T];exact zO _ _
 have zW:W.heap.size=w.heap.size+1:=by rw [<- T];simp
 have xW:Bx2 W w.heap.size (.slice none 0 0) (.slice none 0 0):=by rw [<- T];exact Bx2.made w _ _ _
 have Ha:Hid (∀(v:World),Below w.heap.size w v ->gsS f n=none ->v.cell? ⟨w.heap.size,0,none⟩=some (.slice none 0 0) ->v.cell? ⟨w.heap.size,1,none⟩=some (.slice none 0 0) ->(∀i,v.frozen? ⟨w.heap.size,i,none⟩=false) ->∃Z,Z=(v.setCell ⟨w.heap.size,0,none⟩ (.slice none 0 0)).setCell ⟨w.heap.size,1,none⟩ (.slice none 0 0)/\ Z.cell? ⟨w.heap.size,0,none⟩=some (.slice none 0 0)/\ Z.cell? ⟨w.heap.size,1,none⟩=some (.slice none 0 0)/\ P (.returned (.tuple #[.agg #[.slice none 0 0,.slice none 0 0],.int .i64 1])) Z):=hid (fun v b hN u z cf=>by
  have Gw:w.heap.size<v.heap.size:=block_lt_of_cell u;obtain⟨Z,R,h2,h3,h4⟩:=Bx2.fill (v:=v) (b:=w.heap.size) ⟨u,z,cf,Gw⟩ (.slice none 0 0) (.slice none 0 0);refine⟨Z,R,h2,h3,?_⟩;rw [<- HP.out];exact⟨b.grown h4 b.size (fun k e=>by injection e with e;omega),.inr ⟨hN,rfl⟩⟩)
 by_cases h4:4000<n
 ·have HN:Hid (gsS f n=none):=hid (if_pos h4);have Gt:(4000:Int)<(n:Int):=by omega
  have u:=xW.c0;have z:=xW.c1;have cf:=xW.f;obtain⟨Z,r,q0,q1,A⟩:=Ha W D HN.out u z cf;have Q:=hid r;have O:=hid A;clear hs hf D zW xW Ha r A;go_enter Tryz.func5,Tryz.ntmps5;go_wp2_with fail;try rw [T]
  rw [<- Q.out];exact bodyPost_ret (v:=.tuple #[.agg #[.slice none 0 0,.slice none 0 0],.int .i64 1]) (by simp [results,Tryz.results5,go_sem,q0,q1]) rfl O.out
 ·replace hn:n<=1048576:=by omega
  have Gt:¬(4000:Int)<(n:Int):=by omega
  have H7:=hid (Qm0 a n c 0 f W hn hf (hs.below D) (Nat.zero_le _));have HF:=hid hf;have H9:=hid (hs.below D);have Hx:=hid hab;have HX:=hid xW;have Hh:=hid D;have Gc:=hid zW;clear hf hs xW D zW hab;go_enter Tryz.func5,Tryz.ntmps5;go_wp2_with fail;try rw [T]
  clear T;refine H7.mono ?_;clear H7;rintro e w1 ⟨b1,⟨rl,L,v1,G,Gz,rfl,Hk,Gx⟩|⟨G,ya,nv,cv,y,rfl⟩⟩
  ·obtain⟨E,M,rfl,_⟩:=Hk.fs;obtain⟨m,He⟩:∃m,w1.alloc (.cells #[.slice E rl.length M] 27)=m:=⟨_,rfl⟩;have B:Below w1.heap.size w1 m:=by rw [<- He];exact zO _ _
   have z2:m.heap.size=w1.heap.size+1:=by rw [<- He];simp
   have c2:m.cell? ⟨w1.heap.size,0,none⟩=some (.slice E rl.length M):=by rw [<- He];simp
   obtain⟨s,Hf⟩:∃s,(m.alloc (.cells #[] 9)).alloc (.cells #[] 77)=s:=⟨_,rfl⟩;have b3:Below m.heap.size m s:=by rw [<- Hf];exact Qak _ _ _
   have z3:s.heap.size=m.heap.size+1+1:=by rw [<- Hf];simp
   have Hd:=Qac b1 (Qac B b3);have G2:=Gc.out;have G1:=b1.size;have L3:LB s (w.heap.size+1) (.slice (some ⟨m.heap.size+1,0,none⟩) 0 0) []:=by
    refine⟨fun _=>0,fun _=>0,⟨?_,fun i hi=>by simp at hi⟩,fun i j hi=>by simp at hi⟩;have:=World.ownsRow_lit (base:=w.heap.size+1) (e:=77) (size:=5) (m.alloc (.cells #[] 9)) #[] 0 (by simp;omega) (by unfold maxLen;omega) rfl;rw [Hf] at this;simpa using this
   have Hc:Hid (SpA s a n f L m.heap.size [] (.slice (some ⟨m.heap.size+1,0,none⟩) 0 0) [] (w.heap.size+1)):=hid (by
    refine⟨H9.below Hd,Gz,by omega,fun t ht=>by simp at ht,fun e=> ?_,fun y hy e=> ?_,L3,fun i=> ?_,by omega,Nat.zero_le _⟩
    ·have e:(some (m.heap.size+1):Option Nat)=some m.heap.size:=e;injection e with e;omega
    ·have e:(some (m.heap.size+1):Option Nat)=some y.block:=e;injection e with e;have:=Hx y hy;omega
    ·simp [gL,List.getD])
   have Ga:Hid (Calls Tryz.prog 16 #[.slice a n c,.int .i64 (L:Int),.slice (some ⟨m.heap.size,0,none⟩) 0 0,.slice (some ⟨m.heap.size+1,0,none⟩) 0 0] s fun e w'=>LdP s (w.heap.size+1) (.slice (some ⟨m.heap.size+1,0,none⟩) 0 0) n L [] (Qdu f n 9 [] [] L) e w'):=
    hid (QdV a n c f (w.heap.size+1) (by omega) hnc HF.out 8 [] rfl L m.heap.size 0 (some ⟨m.heap.size+1,0,none⟩) 0 [] s Hc.out)
   have Gm:=hid G;have Hy:=hid (Hh.trans (Hd.mono Hh.size));have Hj:=hid (HX.below Hd HX.lt);have Go:=hid ((Hk.below B).below b3);have Gn:Hid (∀g,(Value.slice E rl.length M).ownBlock=some g ->w.heap.size+1<=g/\ g<w1.heap.size):=hid (fun g hg=>by have:=World.ownsRow.lt Hk g hg;omega);have Gl:=hid ((b3.cell (p:=⟨w1.heap.size,0,none⟩) (show w1.heap.size<m.heap.size by omega)).trans c2);have Gs:Hid (w.heap.size+1<=w1.heap.size/\ m.heap.size=w1.heap.size+1/\ s.heap.size=m.heap.size+1+1):=hid ⟨by omega,z2,z3⟩;have Gj:=hid Hd;clear b1 B b3 Hd Hk G L3 HX Hc z2 z3 G1 G2 c2;go_wp2_with fail;try rw [He]
   try rw [Hf]
   clear He Hf;refine Ga.mono ?_;clear Ga;rintro e Y ⟨vo,l,y,ok,rfl,S,Hq,Hp,hy,G⟩;obtain⟨va,vc,rfl⟩:=Hq.form;have G3:=Gs.out;have Ht:l.length<=5000:=by rcases G with ⟨_,_,h⟩|⟨_,_,h⟩<;>simp at h<;>omega
   have Hb:(Value.slice (some ⟨m.heap.size+1,0,none⟩) 0 0).ownBlock=some (m.heap.size+1):=rfl;have Ho:∀k,k<s.heap.size ->k≠m.heap.size+1 ->Y.heap[k]? =s.heap[k]? :=fun k R h2=>S.1.block k R (fun e=>h2 (by rw [Hb] at e;injection e));have Hz:Hid (Below w.heap.size w Y):=hid (Hy.grown S.1 Hy.size (fun k e=>by rw [Hb] at e;injection e with e;omega));obtain⟨X,Hl⟩:∃X,Y.alloc (.cells #[.slice va l.length vc,.slice E rl.length M] 29)=X:=⟨_,rfl⟩;have C:Below Y.heap.size Y X:=by rw [<- Hl];exact zO _ _
   have X5:Bx2 X Y.heap.size (.slice va l.length vc) (.slice E rl.length M):=by rw [<- Hl];exact Bx2.made Y _ _ _
   have R4:Bx2 Y w.heap.size (.slice none 0 0) (.slice none 0 0):=by
    have e:=Ho w.heap.size (by omega) (by omega);exact⟨(World.cell?_of_block (a:=⟨w.heap.size,0,none⟩) e).trans Hj.c0,(World.cell?_of_block (a:=⟨w.heap.size,1,none⟩) e).trans Hj.c1,fun i=>(World.frozen?_of_block (a:=⟨w.heap.size,i,none⟩) e).trans (Hj.f i),Nat.lt_of_lt_of_le Hj.lt S.1.size⟩
   have H6:=hid (R4.below C R4.lt);have Gu:Y.cell? ⟨w1.heap.size,0,none⟩=some (.slice E rl.length M):=(World.cell?_of_block (a:=⟨w1.heap.size,0,none⟩) (Ho w1.heap.size (by omega) (by omega))).trans Gl.out;have Ge:FR Y (w.heap.size+1) (.slice E rl.length M) rl:=by
    have R:=World.ownsRow.kept Go.out S.1 (by
     cases e:(Value.slice E rl.length M).ownBlock with
     | none=>exact .inl rfl
     | some g=>exact .inr (fun F=>by have:=(Gn g e).2;rw [Hb] at F;injection F with F;omega))
    exact FR.weak R (by have:=Gc.out;omega)
   have H1:=hid (Ge.below C);have H3:=hid (Hq.below C);have H0:=hid (Hz.trans (C.mono Hz.size));have Gr:Hid (Seg X a n f):=hid (Seg.below (Seg.keptR (row:=some (m.heap.size+1)) (H9.below Gj.out) (by rw [<- Hb];exact S.1) (fun y hy e=>by injection e with e;have:=Hx y hy;omega)) C);obtain⟨q1,q2,q3,q4⟩:=H3.caps;obtain⟨G6,G7,ex,Gd,_,_⟩:=H1.fs;have H4:=hid (Qgg va vc l E rl.length M (lR rl) (lF rl) (lT rl) X q3 q4 (by omega) Hp (by omega) q1 q2 (by injection ex with e1 F e3;subst e1;exact Gd.rseg));have Gk:=hid Hp;have H8:=hid G;have x0:=X5.c0;have Hg:=X5.c1;have Gb:=hid X5;clear G S Hq Hp Ho R4 Ge C q1 q2 q3 q4 ex Gd X5 Hb;go_wp2_with fail;try rw [Hl]
   clear Hl Gu;refine H4.mono ?_;clear H4;rintro e w6 ⟨v6,zs,k,rfl,A,ho,U⟩;obtain⟨oa,oc,rfl,os⟩:=ho.any;have o:=H6.below U H6.lt;have Hm:=hid (H0.trans (U.mono H0.size));have u:=o.c0;have z:=o.c1;have cf:=o.f;have Gq:=hid o;have Hi:Hid (gsS f n=none ->∃Z,Z=(w6.setCell ⟨w.heap.size,0,none⟩ (.slice none 0 0)).setCell ⟨w.heap.size,1,none⟩ (.slice none 0 0)/\ Z.cell? ⟨w.heap.size,0,none⟩=some (.slice none 0 0)/\ Z.cell? ⟨w.heap.size,1,none⟩=some (.slice none 0 0)/\ P (.returned (.tuple #[.agg #[.slice none 0 0,.slice none 0 0],.int .i64 1])) Z):=hid (fun h=>Ha.out w6 Hm.out h o.c0 o.c1 o.f);have H5:=hid A;have Hc:Hid (gsS f n=(Qdu f n 9 [] [] L).bind fun b=>if yes (b.2=n/\ (psZ (lR rl) (lF rl) (lT rl) rl.length b.1).2=0/\ Qb2 (fun i=>(psZ (lR rl) (lF rl) (lT rl) rl.length b.1).1.getD i 0) 0 (psZ (lR rl) (lF rl) (lT rl) rl.length b.1).1.length=Qb2 f 0 n)=true then some (rl,b.1) else none):=hid (by
    unfold gsS;rw [if_neg h4,Gm.out];rfl)
   cases ok with
   | false=>
    obtain⟨Z,r,H,I,V⟩:=Hi (by
     rw [Hc.out];rcases H8.out with ⟨h,_⟩|⟨_,h,_⟩
     ·cases h
     ·rw [h];rfl)
    have Q:=hid r;have O:=hid V;clear r V o os ho U A x0 Hg;go_wp2_with fail;rw [<- Q.out];exact bodyPost_ret (v:=.tuple #[.agg #[.slice none 0 0,.slice none 0 0],.int .i64 1]) (by simp [results,Tryz.results5,go_sem,H,I]) rfl O.out
   | true=>
    have HT:Hid (Qdu f n 9 [] [] L=some (l,y)):=hid (by
     rcases H8.out with ⟨_,h,_⟩|⟨h,_⟩
     ·exact h
     ·cases h)
    have N:Hid (gsS f n=if yes (y=n/\ k=0/\ Qb2 (fun i=>zs.getD i 0) 0 zs.length=Qb2 f 0 n)=true then some (rl,l) else none):=hid (by
     rw [Hc.out,HT.out];simp only [Option.bind_some];rw [H5.out])
    by_cases Hv:y=n
    ·have Hw:n=y:=Hv.symm;subst Hw;by_cases Gg:k=0
     ·subst Gg;have Gf:Byt (fun i=>zs.getD i 0):=by
       have:=(Ql7 (lR rl) (lF rl) (lT rl) rl.length l).byt;rw [H5.out] at this;exact this
      have Hr:=QhR os Gf oc;have Hs:=QhR (Gr.below U) HF.out c;obtain⟨J,Gh⟩:∃J,Qb2 (fun i=>zs.getD i 0) 0 zs.length=J:=⟨_,rfl⟩;obtain⟨s2,Gi⟩:∃s2,Qb2 f 0 n=s2:=⟨_,rfl⟩;rw [Gh] at Hr N;rw [Gi] at Hs N;clear Gh Gi Gf;by_cases Hu:J=s2
      ·subst Hu;have Gy:(J.toList==J.toList)=true:=by simp
       have HY:Hid (gsS f n=some (rl,l)):=hid (by rw [N.out,Qal ⟨rfl,rfl,rfl⟩];rfl);have X6:=Gb.below U Gb.lt;have G4:=X6.c0;have G5:=X6.c1;have Gp:=hid (H3.below U);have H2:=hid (H1.below U);clear o os ho U A x0 Hg X6;go_wp2_with fail;obtain⟨Z,r,H,I,gZ⟩:=Gq.fill (.slice va l.length vc) (.slice E rl.length M);rw [<- r];clear r;refine zF (v:=.tuple #[.agg #[.slice va l.length vc,.slice E rl.length M],.int .i64 0]) (by simp [results,Tryz.results5,go_sem,H,I]) ?_;rw [<- HP.out];refine⟨Hm.grown gZ Hm.size (fun k e=>by injection e with e;omega),.inl ⟨rl,l,va,vc,E,M,HY.out,rfl,Gp.move gZ.size (fun q R h2=>gZ.block q h2 (fun e=>by injection e with e;omega)),QaD H2.out (fun g hg=> ?_),Ht,Gk.out,Gx⟩⟩;have Gv:=World.ownsRow.lt H2.out g hg;exact gZ.block g Gv.2 (fun e=>by injection e with e;omega)
      ·have Gy:(J.toList==s2.toList)=false:=by
        rw [beq_eq_false_iff_ne];intro e;rw [ByteArray.toList_eq,ByteArray.toList_eq] at e;have F:J.data=s2.data:=Array.toList_inj.1 e;obtain⟨d1⟩:=J;obtain⟨d2⟩:=s2;exact Hu (by rw [show d1=d2 from F])
       obtain⟨Z,r,H,I,V⟩:=Hi (by rw [N.out,Qaj (fun h=>Hu h.2.2)];rfl);have Q:=hid r;have O:=hid V;clear r V o os ho U A x0 Hg;go_wp2_with fail;rw [<- Q.out];exact bodyPost_ret (v:=.tuple #[.agg #[.slice none 0 0,.slice none 0 0],.int .i64 1]) (by simp [results,Tryz.results5,go_sem,H,I]) rfl O.out
     ·obtain⟨Z,r,H,I,V⟩:=Hi (by rw [N.out,Qaj (fun h=>Gg h.2.1)];rfl);have Q:=hid r;have O:=hid V;clear r V o os ho U A x0 Hg;go_wp2_with fail;rw [<- Q.out];exact bodyPost_ret (v:=.tuple #[.agg #[.slice none 0 0,.slice none 0 0],.int .i64 1]) (by simp [results,Tryz.results5,go_sem,H,I]) rfl O.out
    ·have G0:¬(y:Int)=(n:Int):=by omega
     obtain⟨Z,r,H,I,V⟩:=Hi (by rw [N.out,Qaj (fun h=>Hv h.1)];rfl);have Q:=hid r;have O:=hid V;clear r V o os ho U A x0 Hg Hv;go_wp2_with fail;rw [<- Q.out];exact bodyPost_ret (v:=.tuple #[.agg #[.slice none 0 0,.slice none 0 0],.int .i64 1]) (by simp [results,Tryz.results5,go_sem,H,I]) rfl O.out
  ·have HN:Hid (gsS f n=none):=hid (by unfold gsS;rw [if_neg h4,G];rfl);have B:Below w1.heap.size w1 (w1.alloc (.cells #[.slice ya nv cv] 27)):=zO _ _;have Hn:=Qac b1 B;have K:=HX.below Hn HX.lt;obtain⟨Z,r,q0,q1,A⟩:=Ha _ (Hh.trans (Hn.mono Hh.size)) HN.out K.c0 K.c1 K.f;have u:=K.c0;have z:=K.c1;have cf:=K.f;have Q:=hid r;have O:=hid A;clear b1 B Hn K Ha r A G;go_wp2_with fail;rw [<- Q.out];exact bodyPost_ret (v:=.tuple #[.agg #[.slice none 0 0,.slice none 0 0],.int .i64 1]) (by simp [results,Tryz.results5,go_sem,q0,q1]) rfl O.out
theorem Qls {f:Nat ->Int}(hf:Byt f){n:Nat}{g:List (Int×List (Int×Int))}{J:List Lf}(h:gsR f n=some (g,J)):QaQ (lR (Qat g)) (lF (Qat g)) (lT (Qat g)) (Qat g).length J:=by
 unfold gsR at h;by_cases m:4000<n
 ·rw [if_pos m] at h;cases h
 ·rw [if_neg m] at h;obtain⟨a,q,h⟩:=Qab.1 h;obtain⟨b,j,h⟩:=Qab.1 h;split at h
  ·cases h
  ·simp only [Option.some.injEq,Prod.mk.injEq] at h;obtain⟨rfl,rfl⟩:=h;obtain⟨g,A⟩:=a;obtain⟨J,x'⟩:=b;simp only at j ⊢;rw [show ((0:Int))=((0:Nat):Int) from rfl,Qfs] at q;obtain⟨r,p,s,u⟩:=(Qcg hf (Nat.zero_le _)).1 q;obtain⟨k,t,o,i⟩:=Qcp r;rw [Qml r] at j;obtain⟨⟨v,y,z⟩,_⟩:=(Qde hf (Qmg k)).1 ⟨j,u⟩;exact⟨k,z,v,y⟩
def ImP (f:Nat ->Int)(n:Nat)(w:World)(e:Ending)(w':World):Prop:=Below w.heap.size w w'/\
 ((∃(g:List (Int×List (Int×Int))) (l:List Lf) (va:Option Addr) (vc:Nat) (xa:Option Addr) (xc:Nat),gsR f n=some (g,l)/\ e=.returned (.tuple #[.agg #[.slice va l.length vc,.slice xa (Qat g).length xc],.int .i64 0])/\ LB w' (w.heap.size+1) (.slice va l.length vc) l/\ FR w' (w.heap.size+1) (.slice xa (Qat g).length xc) (Qat g)) \/
  (gsR f n=none/\ e=.returned (.tuple #[.agg #[.slice none 0 0,.slice none 0 0],.int .i64 1])))
theorem Qkt (B:Nat)(a:Option Addr)(n c:Nat)(f:Nat ->Int)(aT aS aL aE:Addr)(w:World)(hn:n<=9223372036854775807)(hnc:n<=c)(hcc:c<=9223372036854775807)(hf:Byt f)(hs:Seg w a n f)(hE:QcQ w B aT aS aL aE)(hB:B<=w.heap.size)(hab:∀y,a=some y ->y.block<w.heap.size):
  Calls Tryz.prog 6 #[.slice a n c] w fun e w'=>ImP f n w e w':=by
 obtain⟨P,H⟩:∃P,ImP f n w=P:=⟨_,rfl⟩;rw [H];have S:=hid H;clear H;obtain⟨W,b⟩:∃W,w.alloc (.cells #[.slice none 0 0,.slice none 0 0] 29)=W:=⟨_,rfl⟩;have O:Below w.heap.size w W:=by rw [<- b];exact zO _ _
 have zW:W.heap.size=w.heap.size+1:=by rw [<- b];simp
 have A:Hid (Bx2 W w.heap.size (.slice none 0 0) (.slice none 0 0)):=hid (by rw [<- b];exact Bx2.made w _ _ _);have T:=hid (Qij B a n c f aT aS aL aE W hn hnc hcc hf (hs.below O) (hE.below (O.mono hB)) (by omega) (fun y hy=>by have:=hab y hy;omega));have s:=hid O;have Hf:=hid zW;have HF:=hid hf;clear O zW hs hE hab hf;go_enter Tryz.func6,Tryz.ntmps6;go_wp2_with fail;try rw [b]
 clear b;refine T.mono ?_;clear T;rintro e w1 ⟨M,⟨g,J,z0,bd,h,rfl,Hd,Hh⟩|⟨h,t,v,rfl⟩⟩
 ·obtain⟨s1,s2⟩:=z0;obtain⟨r,V⟩:∃r,w1.alloc (.cells #[.map (some s1),.map (some s2),.map (some bd)] 57)=r:=⟨_,rfl⟩;have u:Below w1.heap.size w1 r:=by rw [<- V];exact zO _ _
  have j:Bx3 r w1.heap.size (.map (some s1)) (.map (some s2)) (.map (some bd)):=by rw [<- V];exact Bx3.made _ _ _ _ _
  have m:=Qac M u;have I:=Qls HF.out h;have Ha:=hid (Qoi r (Hd.below u) I.2.2.1 I.lvB);have x0:=j.c0;have x1:=j.c1;have x2:=j.c2;have E:=hid (A.below m A.lt);have o:=hid (s.trans (m.mono s.size));have Y:=hid h;have Hi:w.heap.size+1<=r.heap.size:=by have:=Hf.out;have:=m.size;omega
  clear M u m j h Hd Hh I;go_wp2_with fail;try rw [V]
  clear V;refine Ha.mono ?_;clear Ha;rintro e w3 ⟨⟨N,X,C,D,rfl,Hc,Hb,Hj⟩,G⟩;have i:=E.below G E.lt;have Q:=i.c0;have U:=i.c1;have cf:=i.f;have He:=hid i;have HL:=hid Hc;have R:=hid Hb;have F:=hid (o.trans (G.mono o.size));clear i Hc Hb G x0 x1 x2;go_wp2_with fail;obtain⟨Z,p,K,L,z⟩:=He.fill (.slice N J.length X) (.slice C (Qat g).length D);rw [<- p];clear p;refine zF (v:=.tuple #[.agg #[.slice N J.length X,.slice C (Qat g).length D],.int .i64 0]) (by simp [results,Tryz.results6,go_sem,K,L]) ?_;rw [<- S.out];refine⟨F.grown z F.size (fun k e=>by injection e with e;omega),.inl ⟨g,J,N,X,C,D,Y.out,rfl,(HL.move z.size (fun q h1 h2=>z.block q h2 (fun e=>by injection e with e;omega))).low (by omega),FR.weak (QaD R.out (fun k hk=> ?_)) (by omega)⟩⟩;have Hg:=World.ownsRow.lt R.out k hk;exact z.block k Hg.2 (fun e=>by injection e with e;omega)
 ·have u:Below w1.heap.size w1 (w1.alloc (.cells #[.map none,.map none,.map none] 57)):=zO _ _;have m:=Qac M u;have j:=A.below m A.lt;have E:=hid j;have o:=hid (s.trans (m.mono s.size));have Q:=j.c0;have U:=j.c1;have cf:=j.f;have Y:=hid h;clear M u m j h;go_wp2_with fail;obtain⟨Z,p,K,L,z⟩:=E.fill (.slice none 0 0) (.slice none 0 0);rw [<- p];clear p;refine zF (v:=.tuple #[.agg #[.slice none 0 0,.slice none 0 0],.int .i64 1]) (by simp [results,Tryz.results6,go_sem,K,L]) ?_;rw [<- S.out];exact⟨o.grown z o.size (fun k e=>by injection e with e;omega),.inr ⟨Y.out,rfl⟩⟩
noncomputable def gsX (f:Nat ->Int)(n:Nat):Sx:=match gsS f n with
 | none=>⟨[],0,fun _=>0,fun _=>0,fun _=>0⟩
 | some r=>⟨r.2,r.1.length,lR r.1,lF r.1,lT r.1⟩
noncomputable def gsK (f:Nat ->Int)(n:Nat):Int:=match gsS f n with
 | none=>1
 | some _=>0
theorem Qn2 {f:Nat ->Int}(hf:Byt f)(n:Nat):(gsX f n).Sm:=by
 unfold gsX;cases h:gsS f n with
 | none=>exact⟨by simp,fun i=>by simp [gL,List.getD],by simp⟩
 | some r=>
  rw [Qmo hf] at h;cases h2:gsR f n with
  | none=>rw [h2] at h;cases h
  | some q=>
   rw [h2] at h;simp only [Option.map_some,Option.some.injEq] at h;subst h;have j:=Qls hf (g:=q.1) (J:=q.2) h2;have m:=Qao.1 j.1;refine⟨by have:=j.2.1;show q.2.length<=1048576;omega,fun i=> ?_,by have:=m.2;show (Qat q.1).length<=1048576;omega⟩;by_cases k:i<q.2.length
   ·have:=(j.2.2.1 i k).1.1.2.1;show (gL q.2 i).p.length<=1048576;omega
   ·have e:gL q.2 i=gL [] 0:=by simp [gL,List.getD,List.getElem?_eq_none (Nat.le_of_not_lt k)]
    show (gL q.2 i).p.length<=1048576;rw [e];simp [gL,List.getD]
theorem QmT (a:Option Addr)(n c:Nat)(f:Nat ->Int)(w:World)(hn:n<=9223372036854775807)(hnc:n<=c)(hf:Byt f)(hs:Seg w a n f)(hab:∀y,a=some y ->y.block<w.heap.size):
  Calls Tryz.prog 5 #[.slice a n c] w fun e w'=>Below w.heap.size w w'/\∃j r k m,e=.returned (.tuple #[.agg #[.slice j (gsX f n).l.length r,.slice k (gsX f n).n m],.int .i64 (gsK f n)])/\ SOw w' w.heap.size w'.heap.size j k m (gsX f n):=by
 refine(QkK a n c f w hn hnc hf hs hab).mono ?_;rintro e w1 ⟨b,⟨rl,l,j,r,k,m,q,rfl,v,u,_⟩|⟨q,rfl⟩⟩
 ·unfold gsX gsK;rw [q];refine⟨b,j,r,k,m,rfl,?_⟩;have h:w.heap.size+1<=w1.heap.size \/w1.heap.size<w.heap.size+1:=by omega
  have z:w.heap.size<=w1.heap.size:=b.size;exact SOw.of (S:=⟨l,rl.length,lR rl,lF rl,lT rl⟩) (v.low (Nat.le_succ _)) (FR.weak u (Nat.le_succ _)) rfl rfl rfl rfl z
 ·unfold gsX gsK;rw [q];exact⟨b,none,0,none,0,rfl,SOw.mt w1 _ rfl rfl _ _ ⟨b.size,Nat.le_refl _⟩ _ _ _⟩
theorem Qmq (B:Nat)(a:Option Addr)(n c:Nat)(f:Nat ->Int)(aT aS aL aE:Addr)(w:World)(hn:n<=9223372036854775807)(hnc:n<=c)(hcc:c<=9223372036854775807)(hf:Byt f)(hs:Seg w a n f)(hE:QcQ w B aT aS aL aE)(hB:B<=w.heap.size)(hab:∀y,a=some y ->y.block<w.heap.size):
  Calls Tryz.prog 6 #[.slice a n c] w fun e w'=>Below w.heap.size w w'/\∃j u k m,e=.returned (.tuple #[.agg #[.slice j (gsX f n).l.length u,.slice k (gsX f n).n m],.int .i64 (gsK f n)])/\ SOw w' w.heap.size w'.heap.size j k m (gsX f n):=by
 refine(Qkt B a n c f aT aS aL aE w hn hnc hcc hf hs hE hB hab).mono ?_;rintro e w1 ⟨b,⟨g,l,j,u,k,m,r,rfl,z,v⟩|⟨r,rfl⟩⟩
 ·have q:gsS f n=some (Qat g,l):=by rw [Qmo hf,r];rfl
  unfold gsX gsK;rw [q];exact⟨b,j,u,k,m,rfl,SOw.of (S:=⟨l,(Qat g).length,lR (Qat g),lF (Qat g),lT (Qat g)⟩) (z.low (Nat.le_succ _)) (FR.weak v (Nat.le_succ _)) rfl rfl rfl rfl b.size⟩
 ·have q:gsS f n=none:=by rw [Qmo hf,r];rfl
  unfold gsX gsK;rw [q];exact⟨b,none,0,none,0,rfl,SOw.mt w1 _ rfl rfl _ _ ⟨b.size,Nat.le_refl _⟩ _ _ _⟩
theorem ps0 {R F T:Nat ->Int}{m:Nat}{l:List Lf}{zs:List Int}(h:psZ R F T m l=(zs,0)):QaQ R F T m l/\ zs.length<=4000/\ psB R F T m l=zs:=by
 by_cases k:QaQ R F T m l
 ·by_cases j:(psB R F T m l).length<=4000
  ·rw [Qdd k j] at h;injection h with h1 h2;rw [h1] at j;exact⟨k,j,h1⟩
  ·rw [QcJ k j] at h;injection h with h1 h2;cases h2
 ·rw [QfZ k] at h;injection h with h1 h2;cases h2
theorem QoS {R F T:Nat ->Int}{m:Nat}{l:List Lf}{zs:List Int}{k:Int}(h:psZ R F T m l=(zs,k)):zs.length<=4000/\ Byt (fun i=>zs.getD i 0):=by
 have j:=QmL R F T m l;have q:=(Ql7 R F T m l).byt;rw [h] at j q;exact⟨j,q⟩
def PtQ (zs:List Int)(k:Int)(w:World)(e:Ending)(w':World):Prop:=∃a c,e=.returned (.tuple #[.slice a zs.length c,.int .i64 k])/\ (zs.length<=c/\ c<=9223372036854775807)/\ Seg w' a zs.length (fun i=>zs.getD i 0)/\ (∀y,a=some y ->y.block<w'.heap.size)/\ Below w.heap.size w w'
theorem Qjt {w:World}{B:Nat}{v:Value}{zs:List Int}(ho:Own w B v zs):∃a c,v=.slice a zs.length c/\ (zs.length<=c/\ c<=9223372036854775807)/\ Seg w a zs.length (fun i=>zs.getD i 0)/\∀y,a=some y ->y.block<w.heap.size:=by
 obtain⟨a,c,rfl,s⟩:=Own.any ho;refine⟨a,c,rfl,?_,s,fun y hy=> ?_⟩
 ·rcases ho.2 with ⟨j,q⟩|⟨g,cap,m,k,_,_,u,r,_⟩
  ·injection j with e1 j e3;omega
  ·injection k with e1 j e3;unfold maxLen at r;omega
 ·subst hy;rcases ho.2 with ⟨j,q⟩|⟨g,cap,m,k,_⟩
  ·injection j with e1 j e3;cases e1
  ·have h:=ho;rw [k] at h;injection k with e1 j e3;injection e1 with e1;subst e1;exact(World.ownsRow.lt h g rfl).2
theorem ptq {R F T:Nat ->Int}{n:Nat}{l:List Lf}{zs:List Int}{k:Int}{w w':World}{e:Ending}(hz:psZ R F T n l=(zs,k))(h:∃v zs k,e=.returned (.tuple #[v,.int .i64 k])/\ psZ R F T n l=(zs,k)/\ Own w' w.heap.size v zs/\ Below w.heap.size w w'):PtQ zs k w e w':=by
 obtain⟨v,g,z,rfl,j,y,u⟩:=h;rw [hz] at j;injection j with e1 e2;subst e1 e2;obtain⟨a,c,rfl,m,q,r⟩:=Qjt y;exact⟨a,c,rfl,m,q,r,u⟩
section
variable {a x : Option Addr} {c d : Nat} {S : Sx} {zs : List Int} {k : Int} {w : World}
theorem QoT (hm:S.Sm/\∀i,LfI (gL S.l i))(hz:psZ S.R S.F S.T S.n S.l=(zs,k))(h:SCt w a x S):
  Calls Tryz.prog 7 #[.agg #[.slice a S.l.length c,.slice x S.n d]] w fun e w'=>PtQ zs k w e w':=
 (QfO a c S.l x S.n d S.R S.F S.T w hm.1.l1 hm.1.p1 hm.2 hm.1.n1 h.lf.seg h.rn).mono fun _ _ h=>ptq hz h
end
theorem Qn3 {f:Nat ->Int}{n:Nat}{rl:List Rn}{l:List Lf}(h:gsS f n=some (rl,l)):∃zs,psZ (lR rl) (lF rl) (lT rl) rl.length l=(zs,0)/\ Qb2 (fun i=>zs.getD i 0) 0 zs.length=Qb2 f 0 n:=by
 unfold gsS at h;by_cases k:4000<n
 ·rw [if_pos k] at h;cases h
 ·rw [if_neg k] at h;obtain⟨a,m,h⟩:=Qab.1 h;obtain⟨b,q,h⟩:=Qab.1 h;by_cases j:b.2=n/\ (psZ (lR a.1) (lF a.1) (lT a.1) a.1.length b.1).2=0/\ Qb2 (fun i=>(psZ (lR a.1) (lF a.1) (lT a.1) a.1.length b.1).1.getD i 0) 0 (psZ (lR a.1) (lF a.1) (lT a.1) a.1.length b.1).1.length=Qb2 f 0 n
  ·rw [Qal j] at h;simp only [if_true,Option.some.injEq,Prod.mk.injEq] at h;obtain⟨rfl,rfl⟩:=h;exact⟨_,Prod.ext rfl j.2.1,j.2.2⟩
  ·rw [Qaj j] at h;cases h
theorem QoA (f:Nat ->Int)(n:Nat):(gsK f n=1/\ (gsX f n).l=[]) \/gsK f n=0/\ QaQ (gsX f n).R (gsX f n).F (gsX f n).T (gsX f n).n (gsX f n).l/\∃j,psZ (gsX f n).R (gsX f n).F (gsX f n).T (gsX f n).n (gsX f n).l=(j,0)/\ Qb2 (fun i=>j.getD i 0) 0 j.length=Qb2 f 0 n:=by
 unfold gsK gsX;cases h:gsS f n with
 | none=>exact .inl ⟨rfl,rfl⟩
 | some r=>
  obtain⟨j,k,m⟩:=Qn3 (rl:=r.1) (l:=r.2) h;exact .inr ⟨rfl,(ps0 k).1,j,k,m⟩
theorem Qpz {a x:Option Addr}{c d:Nat}{S:Sx}{w:World}(hm:S.Sm/\∀i,LfI (gL S.l i))(hok:QaQ S.R S.F S.T S.n S.l)(h:SCt w a x S):
  Calls Tryz.prog 8 #[.agg #[.slice a S.l.length c,.slice x S.n d]] w fun e w'=>e=.returned (.bool true)/\ Below w.heap.size w w':=by
 have:=Qg3 a c S.l x S.n d S.R S.F S.T w hm.1.l1 hm.1.p1 hm.2 hm.1.n1 h.lf.seg h.rn;rwa [Qal hok] at this
theorem La.own:ownKnob Tryz.prog.godebug=none:=by kernel_rfl
theorem La.laidOut:laidOutB Tryz.prog=true:=by kernel_rfl
theorem La.gT:Tryz.prog.globalNamed "loop.example/s02772/impl.errTenth" =some 11:=by kernel_rfl
theorem La.gS:Tryz.prog.globalNamed "loop.example/s02772/impl.errShorter" =some 12:=by kernel_rfl
theorem La.gE:Tryz.prog.globalNamed "loop.example/s02772/impl.errEnds" =some 10:=by kernel_rfl
theorem La.tT:(Tryz.prog.globals[11]?).map (·.type)=some 59:=by kernel_rfl
theorem La.tS:(Tryz.prog.globals[12]?).map (·.type)=some 59:=by kernel_rfl
theorem La.tE:(Tryz.prog.globals[10]?).map (·.type)=some 59:=by kernel_rfl
theorem La.cellsS:Tryz.prog.cellsOf 287=1:=by kernel_rfl
theorem La.cells9:Tryz.prog.cellsOf 9=1:=by kernel_rfl
theorem La.star: "*" ++ "errors.errorString" = "*errors.errorString" :=by decide
theorem La.row (u:TypeId)(h:Tryz.prog.typeName? 3 u=some "*errors.errorString"):u=270:=
 typeName_ptr_named (nm:= "errors.errorString") (by rw [La.star];kernel_rfl) (by kernel_rfl) (by decide) u (by rw [La.star];exact h)
theorem Qaq {P:Program}{x y:String×DataW Unit}{r:List (String×DataW Unit)}{w:World}(h:laidMet P (x::y::r) w):laidMet P (x::r) w:=by
 obtain⟨ps,M,i,E⟩:=h;obtain⟨n,d⟩:=x;obtain⟨V,d'⟩:=y;obtain⟨g,t,k,m,p,q,u,v,z,o,s,rfl⟩:=M;obtain⟨U,Z,O,Q,Y,j,_,_,_,_,A,rfl⟩:=s;refine⟨_++j,⟨g,t,k,m,p,j,u,v,z,o,A,rfl⟩,List.Nodup.sublist ?_ i,fun b off hm=>E b off ?_⟩
 ·exact(List.sublist_append_right _ j).append_left _
 ·rcases List.mem_append.1 hm with h|h
  ·exact List.mem_append_left _ h
  ·exact List.mem_append_right _ (List.mem_append_right _ h)
theorem QdN {tp:TypeId}{a b:Addr}{o:Option (Array Value)}(h1:o=some #[.iface tp (.pointer (some a))])(h2:o=some #[.iface tp (.pointer (some b))]):a=b:=by
 rw [h1] at h2;simpa using h2
theorem La.gM:Tryz.prog.globalNamed "loop.example/s02772/impl.errLimit" =some 4:=by kernel_rfl
theorem La.tM:(Tryz.prog.globals[4]?).map (·.type)=some 59:=by kernel_rfl
theorem La.gO:Tryz.prog.globalNamed "loop.example/s02772/impl.errOrder" =some 5:=by kernel_rfl
theorem La.tO:(Tryz.prog.globals[5]?).map (·.type)=some 59:=by kernel_rfl
theorem La.gN:Tryz.prog.globalNamed "loop.example/s02772/impl.errNoRuns" =some 9:=by kernel_rfl
theorem La.tN:(Tryz.prog.globals[9]?).map (·.type)=some 59:=by kernel_rfl
theorem Qir {P:Program}{W W':World}{n:String}{cs:Array Value}(h:W.var? P n=some cs)(hb:Below W.heap.size W W'):W'.var? P n=some cs:=by
 unfold World.var? at h ⊢;cases hg:P.globalNamed n with
 | none=>simp [hg] at h
 | some g=>
  simp only [hg,Option.bind_some] at h ⊢;have k:g<W.heap.size:=by
   rcases Nat.lt_or_ge g W.heap.size with j|j
   ·exact j
   ·simp [Array.getElem?_eq_none j] at h
  rw [hb.block g k];exact h
theorem openBytesC {H:Type}{enc:TypeId×Value ->H}{W:World}{r:Reach}{b0 base:Nat}{held:Bool}{v:Value}{d:DataW H}{p:List MemPlace}
  (hval:Value.okWide Tryz.prog W r b0 22 v) (h:DataW.Trod enc Tryz.prog W base (fun _=>true) held 22 v d p):
  ∃a n c f,v=.slice a n c/\ n<=9223372036854775807/\ Seg W a n f/\ Byt f/\ n<=c:=by
 obtain⟨q,y,k,rfl⟩:=okWide_slice Tryz.underlying22 hval;obtain⟨j,g⟩:∃j:List Int,(q=none/\ y=0/\ k=0/\ j=[]) \/∃x,q=some x/\ y<=k/\ k<=maxLen/\ j.length=k/\ (∀i,i<j.length ->W.cell? (x.add i)=some (.int .u8 (j.getD i 0)))/\∀n∈j,(Lit.int .u8 n).wf=true:=by
  obtain⟨Q,A⟩:=h;rcases open_ints Tryz.underlying22 Tryz.underlying5 (by kernel_rfl) A with ⟨m,_⟩|⟨x,l,c,O,m,_,u,E,z,_,b,M⟩
  ·simp [Value.cells] at m;obtain⟨rfl,rfl,rfl⟩:=m;exact⟨[],.inl ⟨rfl,rfl,rfl,rfl⟩⟩
  ·simp [Value.cells] at m;obtain⟨rfl,rfl,rfl⟩:=m;exact⟨O,.inr ⟨_,rfl,u,E,by first|exact z|simpa using z|omega,b,M⟩⟩
 obtain⟨s,o,u⟩:=QlB g;exact⟨q,y,k,_,rfl,u,s,o,by rcases g with ⟨_,t,U,_⟩|⟨_,_,t,_⟩<;>omega⟩
end Go.Proofs.YtjdcfkmhmnblbaaGreatDoor
