import Derived.Test.YtpfmeafmepgimaaGreatFkg09
import Derived.Test.YtpfmeafmepgimaaGreatFkg02
set_option linter.unusedVariables false
set_option linter.unusedSimpArgs false
set_option maxRecDepth 100000
set_option maxHeartbeats 40000000
namespace Go.Proofs.YtpfmeafmepgimaaGreat
open Go.ChangeShapes Go.WideShapes Go.ChangeAt Go.RowKit
end Go.Proofs.YtpfmeafmepgimaaGreat
namespace Go.Proofs.YtpfmeafmepgimaaGreat
open Go.ChangeShapes Go.WideShapes Go.ChangeAt Go.RowKit Go.Maps Go.Sort
def gR (l:List Rn)(i:Nat):Rn:=l.getD i (0,0,0)
def FS (w:World)(a:Option Addr)(l:List Rn):Prop:=
 l.length=0 \/∃g off,a=some ⟨g,off,none⟩/\ g<w.heap.size/\∀i,i<l.length ->w.cell? ⟨g,off+i*3,none⟩=some (.int .i64 (gR l i).1)/\ w.cell? ⟨g,off+i*3+1,none⟩=some (.int .i64 (gR l i).2.1)/\ w.cell? ⟨g,off+i*3+2,none⟩=some (.int .i64 (gR l i).2.2)
theorem fr_cells {w:World}{B n cap g:Nat}{l:List Rn}(h:w.ownsRow B 87 3 (.slice (some ⟨g,0,none⟩) n cap) n (fCells l))(hl:l.length=n):
  ∀i,i<n ->w.cell? ⟨g,i*3,none⟩=some (.int .i64 (gR l i).1)/\ w.cell? ⟨g,i*3+1,none⟩=some (.int .i64 (gR l i).2.1)/\ w.cell? ⟨g,i*3+2,none⟩=some (.int .i64 (gR l i).2.2):=by
 intro i hi;have key:∀(l:List Rn) (i:Nat),i<l.length ->(fCells l)[i*3]? =some (.int .i64 (gR l i).1)/\ (fCells l)[i*3+1]? =some (.int .i64 (gR l i).2.1)/\ (fCells l)[i*3+2]? =some (.int .i64 (gR l i).2.2):=by
  intro l;induction l with
  | nil=>intro i hi;simp at hi
  | cons a l ih=>
   intro i hi;cases i with
   | zero=>simp [fCells,gR]
   | succ i=>
    have:=ih i (by simpa using hi);have e:fCells (a::l)=.int .i64 a.1::.int .i64 a.2.1::.int .i64 a.2.2::fCells l:=by simp [fCells]
    rw [e,show (i+1)*3=i*3+1+1+1 from by omega];simpa [gR] using this
 rw [h.cellAt _ (by omega),h.cellAt _ (by omega),h.cellAt _ (by omega)];exact key l i (by omega)
theorem FR.fs {w:World}{B:Nat}{v:Value}{l:List Rn}(h:FR w B v l):∃a c,v=.slice a l.length c/\ FS w a l/\ l.length<=c/\ c<=9223372036854775807:=by
 rcases h.2 with ⟨e,e0⟩|⟨g,cap,cur,e,hb,_,hnc,hcm,_⟩
 ·exact⟨none,0,by rw [e,e0],.inl e0,by omega,by omega⟩
 ·refine⟨_,cap,e,.inr ⟨g,0,rfl,(World.ownsRow.lt h g (by rw [e];rfl)).2,fun i hi=> ?_⟩,hnc,by unfold maxLen at hcm;omega⟩;have h1:w.ownsRow B 87 3 v l.length (fCells l):=h;rw [e] at h1;rw [Nat.zero_add];exact fr_cells h1 rfl i hi
theorem fCells_len (l:List Rn):(fCells l).length=l.length*3:=by
 induction l with
 | nil=>rfl
 | cons a l ih=>simp [fCells] at*;omega
theorem FS.rseg {w:World}{a:Option Addr}{l:List Rn}(h:FS w a l):RSeg w a l.length (fun i=>(gR l i).1) (fun i=>(gR l i).2.1) (fun i=>(gR l i).2.2):=h
theorem FR.gr {w w':World}{B:Nat}{v:Value}{l:List Rn}{row:Option Nat}(h:FR w B v l)(hg:w.grownBy w' row)(hne:∀g,v.ownBlock=Option.some g ->Option.some g≠row):FR w' B v l:=
 World.ownsRow.kept h hg (by
  cases e:v.ownBlock with
  | none=>exact .inl rfl
  | some g=>exact .inr (hne g e))
theorem FR.below {w w':World}{B:Nat}{v:Value}{l:List Rn}(h:FR w B v l)(hb:Below w.heap.size w w'):FR w' B v l:=
 h.gr (row:=none) ⟨hb.os,hb.tape,hb.output,hb.size,fun k hk _=>hb.block k hk⟩ (by simp)
def stK (l:List Rn)(r:Rn)(k:Nat):List Rn×Rn×List Rn:=(l.take k).foldl insStep ([],r,[])
theorem stK_succ {l:List Rn}{r:Rn}{k:Nat}(h:k<l.length):stK l r (k+1)=insStep (stK l r k) (gR l k):=by
 unfold stK;rw [List.take_add_one,List.foldl_append];simp [gR,List.getD,h]
theorem stK_all (l:List Rn)(r:Rn):stK l r l.length=insSt l r:=by unfold stK insSt;rw [List.take_length]
theorem stK_inv {l:List Rn}{r:Rn}(hl:FSrt l)(hr:Rok r)(k:Nat):Inv (stK l r k) []:=by
 refine(Inv.fold (l.take k) _ ⟨⟨List.Pairwise.nil,(fun p hp=>by cases hp)⟩,⟨List.Pairwise.nil,(fun p hp=>by cases hp)⟩,hr,(fun p hp=>by cases hp),(fun p hp=>by cases hp),(fun p hp=>by cases hp),(fun p hp=>by cases hp),?_⟩).1;exact⟨List.Pairwise.sublist (List.take_sublist k l) hl.1,fun p hp=>hl.2 p (List.mem_of_mem_take hp)⟩
theorem insStep_len (s:List Rn×Rn×List Rn)(q:Rn):(insStep s q).1.length+(insStep s q).2.2.length<=s.1.length+s.2.2.length+1:=by
 unfold insStep;split
 ·simp;omega
 ·split
  ·simp;omega
  ·simp
theorem stK_len (l:List Rn)(r:Rn):∀k,k<=l.length ->(stK l r k).1.length+(stK l r k).2.2.length<=k
 | 0,_=>by simp [stK]
 | k+1,h=>by
  rw [stK_succ (by omega)];have:=insStep_len (stK l r k) (gR l k);have:=stK_len l r k (by omega);omega
theorem gR_mem {l:List Rn}{k:Nat}(h:k<l.length):gR l k∈l:=by simp [gR,List.getD,h]
theorem apartB_iff {r t r' f' f t':Int}:apartB r t r' f'=true↔Apt (r,f,t) (r',f',t'):=by unfold apartB Apt;simp
structure IL (w wr:World)(u5 u6:Value)(sb:List Rn)(qr qf qt:Int)(sa:List Rn):Prop where
 b:FR wr (w.heap.size+1) u5 sb
 a:FR wr (w.heap.size+1) u6 sa
 ne:∀g,u5.ownBlock=some g ->u6.ownBlock≠some g
 nb:u5.ownBlock≠none
 na:u6.ownBlock≠none
 bel:Below w.heap.size w wr
 sz:w.heap.size+1<=wr.heap.size
 c0:wr.cell? ⟨w.heap.size,0,none⟩=some (.int .i64 qr)
 c1:wr.cell? ⟨w.heap.size,1,none⟩=some (.int .i64 qf)
 c2:wr.cell? ⟨w.heap.size,2,none⟩=some (.int .i64 qt)
 f1:wr.frozen? ⟨w.heap.size,1,none⟩=false
 f2:wr.frozen? ⟨w.heap.size,2,none⟩=false
theorem IL.box5 {w wr:World}{u5 u6:Value}{sb sa:List Rn}{qr qf qt:Int}(h:IL w wr u5 u6 sb qr qf qt sa):some w.heap.size≠u5.ownBlock:=fun e=>by have:=(World.ownsRow.lt h.b _ e.symm).1;omega
theorem IL.below {w wr w1:World}{u5 u6:Value}{sb sa:List Rn}{qr qf qt:Int}(h:IL w wr u5 u6 sb qr qf qt sa)(hb:Below wr.heap.size wr w1):IL w w1 u5 u6 sb qr qf qt sa:=by
 have hs:=h.sz;have hz:=hb.size;exact⟨row_below h.b hb,row_below h.a hb,h.ne,h.nb,h.na,h.bel.trans (hb.mono (by omega)),by omega,(hb.cell (p:=⟨w.heap.size,0,none⟩) (show w.heap.size<wr.heap.size by omega)).trans h.c0,(hb.cell (p:=⟨w.heap.size,1,none⟩) (show w.heap.size<wr.heap.size by omega)).trans h.c1,(hb.cell (p:=⟨w.heap.size,2,none⟩) (show w.heap.size<wr.heap.size by omega)).trans h.c2,((bcell hb).2 w.heap.size 1 (by omega)).trans h.f1,((bcell hb).2 w.heap.size 2 (by omega)).trans h.f2⟩
theorem IL.app5 {w wr w1:World}{u5 u6 v:Value}{sb sa:List Rn}{qr qf qt:Int}(h:IL w wr u5 u6 sb qr qf qt sa)(p:Rn)(hown:w1.ownsRow (w.heap.size+1) 87 3 v (sb.length+1) (fCells sb++[.int .i64 p.1,.int .i64 p.2.1,.int .i64 p.2.2]))
  (hg:wr.grownBy w1 u5.ownBlock) (hloc:v.ownBlock=u5.ownBlock \/v.ownBlock=some wr.heap.size):IL w w1 v u6 (sb++[p]) qr qf qt sa:=by
 have hs:=h.sz;have hz:=hg.size;have hb5:=h.box5;have hbk:=hg.block w.heap.size (by omega) hb5;refine⟨?_,World.ownsRow.kept h.a hg ?_,fun g e1 e2=> ?_,?_,h.na,h.bel.grown hg (by omega) (fun k hk=>by have:=(World.ownsRow.lt h.b k hk).1;omega),by omega,hg.cell h.c0 hb5,hg.cell h.c1 hb5,hg.cell h.c2 hb5,(World.frozen?_of_block hbk).trans h.f1,(World.frozen?_of_block hbk).trans h.f2⟩
 ·unfold FR;rw [fCells_snoc,List.length_append];exact hown
 ·cases e:u6.ownBlock with
  | none=>exact .inl rfl
  | some g=>exact .inr (fun e2=>h.ne g e2.symm e)
 ·rcases hloc with hl|hl
  ·exact h.ne g (hl ▸ e1) e2
  ·rw [hl] at e1;injection e1 with e1;have:=(World.ownsRow.lt h.a g e2).2;omega
 ·rcases hloc with hl|hl
  ·rw [hl];exact h.nb
  ·rw [hl];simp
theorem IL.app6 {w wr w1:World}{u5 u6 v:Value}{sb sa:List Rn}{qr qf qt:Int}(h:IL w wr u5 u6 sb qr qf qt sa)(p:Rn)(hown:w1.ownsRow (w.heap.size+1) 87 3 v (sa.length+1) (fCells sa++[.int .i64 p.1,.int .i64 p.2.1,.int .i64 p.2.2]))
  (hg:wr.grownBy w1 u6.ownBlock) (hloc:v.ownBlock=u6.ownBlock \/v.ownBlock=some wr.heap.size):IL w w1 u5 v sb qr qf qt (sa++[p]):=by
 have h':IL w wr u6 u5 sa qr qf qt sb:=⟨h.a,h.b,fun g e1 e2=>h.ne g e2 e1,h.na,h.nb,h.bel,h.sz,h.c0,h.c1,h.c2,h.f1,h.f2⟩;have h2:=h'.app5 p hown hg hloc;exact⟨h2.a,h2.b,fun g e1 e2=>h2.ne g e2 e1,h2.na,h2.nb,h2.bel,h2.sz,h2.c0,h2.c1,h2.c2,h2.f1,h2.f2⟩
theorem IL.row_set {w wr:World}{v:Value}{l:List Rn}(h:FR wr (w.heap.size+1) v l)(i:Nat)(u:Value):FR (wr.setCell ⟨w.heap.size,i,none⟩ u) (w.heap.size+1) v l:=by
 refine World.ownsRow.kept h (grownSet wr ⟨w.heap.size,i,none⟩ u) ?_;cases e:v.ownBlock with
 | none=>exact .inl rfl
 | some g=>exact .inr (fun e2=>by have:=(World.ownsRow.lt h g e).1;injection e2 with e2;have e2:g=w.heap.size:=e2;omega)
theorem IL.set1 {w wr:World}{u5 u6:Value}{sb sa:List Rn}{qr qf qt:Int}(h:IL w wr u5 u6 sb qr qf qt sa)(z:Int):IL w (wr.setCell ⟨w.heap.size,1,none⟩ (.int .i64 z)) u5 u6 sb qr z qt sa:=
 ⟨IL.row_set h.b _ _,IL.row_set h.a _ _,h.ne,h.nb,h.na,h.bel.setCell (p:=⟨w.heap.size,1,none⟩) (Nat.le_refl _) _,by simpa using h.sz,(World.cell?_setCell_other _ _ _ _ (by simp)).trans h.c0,World.cell?_setCell_same _ _ _ h.c1,(World.cell?_setCell_other _ _ _ _ (by simp)).trans h.c2,by simpa using h.f1,by simpa using h.f2⟩
theorem IL.set2 {w wr:World}{u5 u6:Value}{sb sa:List Rn}{qr qf qt:Int}(h:IL w wr u5 u6 sb qr qf qt sa)(z:Int):IL w (wr.setCell ⟨w.heap.size,2,none⟩ (.int .i64 z)) u5 u6 sb qr qf z sa:=
 ⟨IL.row_set h.b _ _,IL.row_set h.a _ _,h.ne,h.nb,h.na,h.bel.setCell (p:=⟨w.heap.size,2,none⟩) (Nat.le_refl _) _,by simpa using h.sz,(World.cell?_setCell_other _ _ _ _ (by simp)).trans h.c0,(World.cell?_setCell_other _ _ _ _ (by simp)).trans h.c1,World.cell?_setCell_same _ _ _ h.c2,by simpa using h.f1,by simpa using h.f2⟩
theorem IL.drew {w wr:World}{u5 u6:Value}{sb sa:List Rn}{qr qf qt:Int}(h:IL w wr u5 u6 sb qr qf qt sa):IL w wr.drew u5 u6 sb qr qf qt sa:=h.below (Below.refl _ _).drew
theorem fCells_one (l:List Rn):∀u∈fCells l,u.oneCell'=true:=by
 intro u hu;unfold fCells at hu;obtain⟨p,_,h⟩:=List.mem_flatMap.1 hu;simp at h;rcases h with rfl|rfl|rfl<;>rfl
theorem fCells_append (l l':List Rn):fCells (l++l')=fCells l++fCells l':=by simp [fCells]
theorem specIns (a:Option Addr)(c:Nat)(l:List Rn)(rr rf rt:Int)(w:World)(hn:l.length<=100000)(h:FS w a l)(hl:FSrt l)(hr:Rok (rr,rf,rt)):
  Calls Tryz.prog 59 #[.slice a l.length c,.agg #[.int .i64 rr,.int .i64 rf,.int .i64 rt]] w fun e w'=>∃v,e=.returned v/\ FR w' w.heap.size v (ins l (rr,rf,rt))/\ Below w.heap.size w w':=by
 obtain⟨i0,hi,hz0,hz1,hz2⟩:=info_parts Tryz.infoRun;obtain⟨st,hst⟩:∃st,stK l (rr,rf,rt)=st:=⟨_,rfl⟩;obtain⟨n,hnn⟩:∃n,l.length=n:=⟨_,rfl⟩;have HI:Hid (∀k,Inv (st k) []):=by rw [<- hst];exact hid (stK_inv hl hr)
 have HS:Hid (∀k,k<n ->st (k+1)=insStep (st k) (gR l k)):=by rw [<- hst,<- hnn];exact hid fun k hk=>stK_succ hk
 have HZ:Hid (st 0=([],(rr,rf,rt),[])):=by rw [<- hst];exact hid rfl
 have HE:Hid (ins l (rr,rf,rt)=(st n).1++[(st n).2.1]++(st n).2.2):=by rw [<- hst,<- hnn,stK_all];exact hid rfl
 have HLn:Hid (∀k,k<=n ->(st k).1.length+(st k).2.2.length<=k):=by rw [<- hst,<- hnn];exact hid (stK_len l _)
 have HOK:Hid (∀k,k<n ->Rok (gR l k)):=by rw [<- hnn];exact hid fun k hk=>hl.2 _ (gR_mem hk)
 have HFS:Hid (n=0 \/∃g off,a=some ⟨g,off,none⟩/\ g<w.heap.size/\∀i,i<n ->w.cell? ⟨g,off+i*3,none⟩=some (.int .i64 (gR l i).1)/\ w.cell? ⟨g,off+i*3+1,none⟩=some (.int .i64 (gR l i).2.1)/\ w.cell? ⟨g,off+i*3+2,none⟩=some (.int .i64 (gR l i).2.2)):=by rw [<- hnn];exact hid h
 rw [hnn] at hn ⊢;clear hst hnn h hl;obtain⟨W0,hW0⟩:∃W0,w.alloc (.cells #[.int .i64 rr,.int .i64 rf,.int .i64 rt] 87)=W0:=⟨_,rfl⟩;have z0:W0.heap.size=w.heap.size+1:=by rw [<- hW0];simp
 have HB0:Hid (Below w.heap.size w W0):=by rw [<- hW0];exact hid ((Below.refl _ _).alloc (Nat.le_refl _) _)
 have x0:W0.cell? ⟨w.heap.size,0,none⟩=some (.int .i64 rr):=by rw [<- hW0];simp
 have x1:W0.cell? ⟨w.heap.size,1,none⟩=some (.int .i64 rf):=by rw [<- hW0];simp
 have x2:W0.cell? ⟨w.heap.size,2,none⟩=some (.int .i64 rt):=by rw [<- hW0];simp
 have y1:W0.frozen? ⟨w.heap.size,1,none⟩=false:=by rw [<- hW0];simp
 have y2:W0.frozen? ⟨w.heap.size,2,none⟩=false:=by rw [<- hW0];simp
 go_enter Tryz.func59,Tryz.ntmps59;go_wp2_with fail;try rw [hW0]
 have HIL0:Hid (IL w ((W0.alloc (.cells #[] 87)).alloc (.cells #[] 87)) (.slice (some ⟨w.heap.size+1,0,none⟩) 0 0) (.slice (some ⟨w.heap.size+1+1,0,none⟩) 0 0) [] rr rf rt []):=by
  refine hid ?_;have b2:Below W0.heap.size W0 ((W0.alloc (.cells #[] 87)).alloc (.cells #[] 87)):=below2 _ _ _;have q1:=World.ownsRow_lit (base:=w.heap.size+1) (e:=87) (size:=3) W0 #[] 0 (by omega) (by unfold maxLen;omega) rfl;have q2:=World.ownsRow_lit (base:=w.heap.size+1) (e:=87) (size:=3) (W0.alloc (.cells #[] 87)) #[] 0 (by simp;omega) (by unfold maxLen;omega) rfl;have zz:(W0.alloc (.cells #[] 87)).heap.size=w.heap.size+1+1:=by simp;omega
  rw [z0] at q1;rw [zz] at q2;refine⟨World.ownsRow.alloc q1 _,q2,fun g e1 e2=> ?_,by simp [Value.ownBlock],by simp [Value.ownBlock],HB0.out.trans (b2.mono (by omega)),by simp;omega,(b2.cell (p:=⟨w.heap.size,0,none⟩) (show w.heap.size<_ by omega)).trans x0,(b2.cell (p:=⟨w.heap.size,1,none⟩) (show w.heap.size<_ by omega)).trans x1,(b2.cell (p:=⟨w.heap.size,2,none⟩) (show w.heap.size<_ by omega)).trans x2,((bcell b2).2 w.heap.size 1 (by omega)).trans y1,((bcell b2).2 w.heap.size 2 (by omega)).trans y2⟩;simp [Value.ownBlock] at e1 e2;omega
 clear x0 x1 x2 y1 y2 z0 hW0;go_loopw [5,6,7] (fun u5 u6 iv wr=>∃(k:Nat),k<=n/\ iv=.int .i64 k/\ Hid (IL w wr u5 u6 (st k).1 (st k).2.1.1 (st k).2.1.2.1 (st k).2.1.2.2 (st k).2.2)) (fun _ _ iv _=>n - (intOf iv).toNat);case atStart=>exact⟨0,Nat.zero_le _,rfl,by rw [HZ.out];exact HIL0⟩
 case round=>
  clear HIL0;obtain⟨k,hk,rfl,hil⟩:=hrel;have hinv:=(HI.out k).r;by_cases hlt:k<n
  ·have hstep:=HS.out k hlt;have hln:=HLn.out k hk;have hqo:=HOK.out k hlt;have hcell:∃g off,a=some ⟨g,off,none⟩/\ g<w.heap.size/\ w.cell? ⟨g,off+k*3,none⟩=some (.int .i64 (gR l k).1)/\ w.cell? ⟨g,off+k*3+1,none⟩=some (.int .i64 (gR l k).2.1)/\ w.cell? ⟨g,off+k*3+2,none⟩=some (.int .i64 (gR l k).2.2):=by
    rcases HFS.out with h|⟨g,off,e,hg,hc⟩
    ·omega
    ·exact⟨g,off,e,hg,hc k hlt⟩
   obtain⟨g,off,rfl,hg,p0,p1,p2⟩:=hcell;generalize hsk:st k=sk at*;obtain⟨sb,⟨qr,qf,qt⟩,sa⟩:=sk;generalize hgk:gR l k=gk at*;obtain⟨pr,pf,pt⟩:=gk;simp only at p0 p1 p2 hil hln;unfold Rok at hinv hqo;simp only at hinv hqo;have HST:=hid hstep;have HP:=hid (And.intro p0 (And.intro p1 p2));have e0:=(hil.out.bel.cell (p:=⟨g,off+k*3,none⟩) hg).trans p0;have e1:=(hil.out.bel.cell (p:=⟨g,off+k*3+1,none⟩) hg).trans p1;have e2:=(hil.out.bel.cell (p:=⟨g,off+k*3+2,none⟩) hg).trans p2;have c0:=hil.out.c0;have c1:=hil.out.c1;have c2:=hil.out.c2;have zr:=hil.out.sz;have HK:=hid hsk;have HGK:=hid hgk;clear hstep hsk hgk p0 p1 p2;go_wp2_with fail;refine wp_region_held_drew (S:=fun w'=>w'.cell? ⟨g,off+k*3,none⟩=some (.int .i64 pr)/\ w'.cell? ⟨g,off+k*3+1,none⟩=some (.int .i64 pf)/\ w'.cell? ⟨g,off+k*3+2,none⟩=some (.int .i64 pt)/\ w'.cell? ⟨w.heap.size,0,none⟩=some (.int .i64 qr)/\ w'.cell? ⟨w.heap.size,1,none⟩=some (.int .i64 qf)/\ w'.cell? ⟨w.heap.size,2,none⟩=some (.int .i64 qt)) (by kernel_rfl) ⟨e0,e1,e2,c0,c1,c2⟩ (fun hHeld=> ?_);refine tZ 0 16 ?_;refine tZ 1 17 ?_;refine tZ 2 18 ?_;refine tZ 3 19 ?_;refine tZ 4 20 ?_;refine cZ 5 ?_;intro K hK;go_simp;refine(specApart pr pf pt qr qf qt _ (by omega) (by omega)).mono ?_;rintro e w1 ⟨rfl,b1⟩;have b1':Below wr.heap.size wr w1:=(Below.refl _ wr).drew.trans b1;have HIL1:=hid (hil.out.below b1');have z1:=b1'.size;have s0:=(b1'.cell (p:=⟨g,off+k*3,none⟩) (show g<wr.heap.size by omega)).trans e0;have s1:=(b1'.cell (p:=⟨g,off+k*3+1,none⟩) (show g<wr.heap.size by omega)).trans e1;have s2:=(b1'.cell (p:=⟨g,off+k*3+2,none⟩) (show g<wr.heap.size by omega)).trans e2;have t0:=HIL1.out.c0;have t1:=HIL1.out.c1;have t2:=HIL1.out.c2;refine hK.out _ _ ⟨s0,s1,s2,t0,t1,t2⟩ (fun hHeld=> ?_);clear hK K;try simp only [Act.put,sZa,sZb,sZc]
   refine wpAnyH_done (by kernel_rfl) ?_ _;clear hHeld e0 e1 e2 c0 c1 c2 b1 b1' hil;by_cases hA:Apt (pr,pf,pt) (qr,qf,qt)
   ·rw [show apartB pr pt qr qf=true from apartB_iff.2 hA];have HNX:Hid (st (k+1)=(sb++[(pr,pf,pt)],(qr,qf,qt),sa)):=by
     refine hid ?_;rw [HST.out];unfold insStep;simp only;rw [if_pos hA]
    clear t0 t1 t2;go_wp2_with (at_builtin;refine wpList_app_at rfl _ _ 24 rfl (w.heap.size+1) 87 i0 _ 3 24 Tryz.underlying24 hi hz0 hz1 hz2 rfl (by decide) _ _ _ rfl (World.ownsRow.alloc HIL1.out.b _) ⟨w1.heap.size,0,none⟩ 1 1 [.int .i64 pr,.int .i64 pf,.int .i64 pt] rfl rfl ?n1 ?n2 ?n3 ?n4 ?n5 ?_);try (case n1=>exact cell_three_new _ _ _ _ _)
    case n2=>first|exact⟨rfl,rfl,rfl⟩|(intro u hu;simp at hu;rcases hu with rfl|rfl|rfl<;>rfl)
    case n3=>unfold maxLen;omega
    case n4=>omega
    case n5=>first|omega|(simp;omega)
    intro v7 w7 hown7 hgr7 hloc7;have HIL7:=hid ((HIL1.out.below ((Below.refl _ _).alloc (Nat.le_refl _) _)).app5 (pr,pf,pt) hown7 hgr7 (by simpa using hloc7));clear hown7 hgr7 hloc7 s0 s1 s2;go_wp2_with fail;go_roundw;case rel=>exact⟨k+1,hlt,by go_num,by rw [HNX.out];exact HIL7⟩
    case measure=>simp [intOf];omega
   ·rw [show apartB pr pt qr qf=false from by rw [<- Bool.not_eq_true];exact fun h=>hA (apartB_iff.1 h)];have HA:=hid hA;have v0:=t0;have v1:=t1;have v2:=t2;go_wp2_with fail;refine wp_region_held_drew (S:=fun w'=>w'.cell? ⟨g,off+k*3,none⟩=some (.int .i64 pr)/\ w'.cell? ⟨g,off+k*3+1,none⟩=some (.int .i64 pf)/\ w'.cell? ⟨g,off+k*3+2,none⟩=some (.int .i64 pt)/\ w'.cell? ⟨w.heap.size,0,none⟩=some (.int .i64 qr)/\ w'.cell? ⟨w.heap.size,1,none⟩=some (.int .i64 qf)/\ w'.cell? ⟨w.heap.size,2,none⟩=some (.int .i64 qt)) (by kernel_rfl) ⟨s0,s1,s2,v0,v1,v2⟩ (fun hHeld=> ?_);refine tZ 0 29 ?_;refine tZ 1 30 ?_;refine tZ 2 31 ?_;refine tZ 3 32 ?_;refine tZ 4 33 ?_;refine cZ 5 ?_;intro K hK;go_simp;refine(specApart qr qf qt pr pf pt _ (by omega) (by omega)).mono ?_;rintro e w2 ⟨rfl,b2⟩;have b2':Below w1.heap.size w1 w2:=(Below.refl _ w1).drew.trans b2;have HIL2:=hid (HIL1.out.below b2');have z2:=b2'.size;have s0':=(b2'.cell (p:=⟨g,off+k*3,none⟩) (show g<w1.heap.size by omega)).trans s0;have s1':=(b2'.cell (p:=⟨g,off+k*3+1,none⟩) (show g<w1.heap.size by omega)).trans s1;have s2':=(b2'.cell (p:=⟨g,off+k*3+2,none⟩) (show g<w1.heap.size by omega)).trans s2;have t0':=HIL2.out.c0;have t1':=HIL2.out.c1;have t2':=HIL2.out.c2;refine hK.out _ _ ⟨s0',s1',s2',t0',t1',t2'⟩ (fun hHeld=> ?_);clear hK K;try simp only [Act.put,sZa,sZb,sZc]
    refine wpAnyH_done (by kernel_rfl) ?_ _;clear hHeld b2 b2' s0 s1 s2 t0 t1 t2 v0 v1 v2 HIL1;by_cases hB:Apt (qr,qf,qt) (pr,pf,pt)
    ·rw [show apartB qr qt pr pf=true from apartB_iff.2 hB];have HNX:Hid (st (k+1)=(sb,(qr,qf,qt),sa++[(pr,pf,pt)])):=by
      refine hid ?_;rw [HST.out];unfold insStep;simp only;rw [if_neg HA.out,if_pos hB]
     clear t0' t1' t2';go_wp2_with (at_builtin;refine wpList_app_at rfl _ _ 24 rfl (w.heap.size+1) 87 i0 _ 3 24 Tryz.underlying24 hi hz0 hz1 hz2 rfl (by decide) _ _ _ rfl (World.ownsRow.alloc HIL2.out.a _) ⟨w2.heap.size,0,none⟩ 1 1 [.int .i64 pr,.int .i64 pf,.int .i64 pt] rfl rfl ?m1 ?m2 ?m3 ?m4 ?m5 ?_);try (case m1=>exact cell_three_new _ _ _ _ _)
     case m2=>first|exact⟨rfl,rfl,rfl⟩|(intro u hu;simp at hu;rcases hu with rfl|rfl|rfl<;>rfl)
     case m3=>unfold maxLen;omega
     case m4=>omega
     case m5=>first|omega|(simp;omega)
     intro v7 w7 hown7 hgr7 hloc7;have HIL7:=hid ((HIL2.out.below ((Below.refl _ _).alloc (Nat.le_refl _) _)).app6 (pr,pf,pt) hown7 hgr7 (by simpa using hloc7));clear hown7 hgr7 hloc7 s0' s1' s2';go_wp2_with fail;go_roundw;case rel=>exact⟨k+1,hlt,by go_num,by rw [HNX.out];exact HIL7⟩
     case measure=>simp [intOf];omega
    ·rw [show apartB qr qt pr pf=false from by rw [<- Bool.not_eq_true];exact fun h=>hB (apartB_iff.1 h)];have HNX:Hid (st (k+1)=(sb,(qr,min pf qf,max pt qt),sa)):=by
      refine hid ?_;rw [HST.out];unfold insStep;simp only;rw [if_neg HA.out,if_neg hB]
     have HF1:=hid HIL2.out.f1;have HF2:=hid HIL2.out.f2;clear hB;have hgw:g≠w.heap.size:=by omega
     by_cases h1:pf<qf
     ·by_cases h2:qt<pt
      ·have d1:decide (pf<qf)=true:=by simp;exact h1
       have HMN:Hid (min pf qf=pf):=hid (by omega);have d2:decide (qt<pt)=true:=by simp;exact h2
       have HMX:Hid (max pt qt=pt):=hid (by omega);clear h1 h2;go_wp2_with fail;refine wp_region_held_drew (S:=fun w'=>w'.cell? ⟨g,off+k*3+1,none⟩=some (.int .i64 pf)/\ w'.cell? ⟨w.heap.size,1,none⟩=some (.int .i64 qf)) (by kernel_rfl) ⟨s1',t1'⟩ (fun hHeld=> ?_);refine tZ 0 42 ?_;refine tZ 1 43 ?_;refine tZ 2 44 ?_;refine tZ 3 45 ?_;refine tZ 4 46 ?_;refine tZ 5 47 ?_;refine tZ 6 48 ?_;refine tZ 7 49 ?_;refine wpAnyH_done (by kernel_rfl) ?_ _;clear hHeld;have f1:=HF1.out;obtain⟨W3,hW3⟩:∃W3,(w2.setCell ⟨w.heap.size,1,none⟩ (.int .i64 pf)).drew=W3:=⟨_,rfl⟩;have HIL3:Hid (IL w W3 u5 u6 sb qr pf qt sa):=by rw [<- hW3];exact hid (HIL2.out.set1 pf).drew
       have r2:W3.cell? ⟨g,off+k*3+2,none⟩=some (.int .i64 pt):=by rw [<- hW3];exact(World.cell?_setCell_far w2 ⟨w.heap.size,1,none⟩ _ _ (fun e=>hgw e.symm)).trans s2'
       go_wp2_with fail;try rw [hW3]
       try clear f1 hW3
       have t3:=HIL3.out.c2;refine wp_region_held_drew (S:=fun w'=>w'.cell? ⟨g,off+k*3+2,none⟩=some (.int .i64 pt)/\ w'.cell? ⟨w.heap.size,2,none⟩=some (.int .i64 qt)) (by kernel_rfl) ⟨r2,t3⟩ (fun hHeld=> ?_);refine tZ 0 56 ?_;refine tZ 1 57 ?_;refine tZ 2 58 ?_;refine tZ 3 59 ?_;refine tZ 4 60 ?_;refine tZ 5 61 ?_;refine tZ 6 62 ?_;refine tZ 7 63 ?_;refine wpAnyH_done (by kernel_rfl) ?_ _;clear hHeld;have f2:=HIL3.out.f2;obtain⟨W4,hW4⟩:∃W4,(W3.setCell ⟨w.heap.size,2,none⟩ (.int .i64 pt)).drew=W4:=⟨_,rfl⟩;have HIL4:Hid (IL w W4 u5 u6 sb qr pf pt sa):=by rw [<- hW4];exact hid (HIL3.out.set2 pt).drew
       go_wp2_with fail;try rw [hW4]
       try clear f2 hW4
       go_roundw;case rel=>exact⟨k+1,hlt,by go_num,by rw [HNX.out,HMN.out,HMX.out];exact HIL4⟩
       case measure=>simp [intOf];omega
      ·have d1:decide (pf<qf)=true:=by simp;exact h1
       have HMN:Hid (min pf qf=pf):=hid (by omega);have d2:decide (qt<pt)=false:=by simp;omega
       have HMX:Hid (max pt qt=qt):=hid (by omega);clear h1 h2;go_wp2_with fail;refine wp_region_held_drew (S:=fun w'=>w'.cell? ⟨g,off+k*3+1,none⟩=some (.int .i64 pf)/\ w'.cell? ⟨w.heap.size,1,none⟩=some (.int .i64 qf)) (by kernel_rfl) ⟨s1',t1'⟩ (fun hHeld=> ?_);refine tZ 0 42 ?_;refine tZ 1 43 ?_;refine tZ 2 44 ?_;refine tZ 3 45 ?_;refine tZ 4 46 ?_;refine tZ 5 47 ?_;refine tZ 6 48 ?_;refine tZ 7 49 ?_;refine wpAnyH_done (by kernel_rfl) ?_ _;clear hHeld;have f1:=HF1.out;obtain⟨W3,hW3⟩:∃W3,(w2.setCell ⟨w.heap.size,1,none⟩ (.int .i64 pf)).drew=W3:=⟨_,rfl⟩;have HIL3:Hid (IL w W3 u5 u6 sb qr pf qt sa):=by rw [<- hW3];exact hid (HIL2.out.set1 pf).drew
       have r2:W3.cell? ⟨g,off+k*3+2,none⟩=some (.int .i64 pt):=by rw [<- hW3];exact(World.cell?_setCell_far w2 ⟨w.heap.size,1,none⟩ _ _ (fun e=>hgw e.symm)).trans s2'
       go_wp2_with fail;try rw [hW3]
       try clear f1 hW3
       have t3:=HIL3.out.c2;refine wp_region_held_drew (S:=fun w'=>w'.cell? ⟨g,off+k*3+2,none⟩=some (.int .i64 pt)/\ w'.cell? ⟨w.heap.size,2,none⟩=some (.int .i64 qt)) (by kernel_rfl) ⟨r2,t3⟩ (fun hHeld=> ?_);refine tZ 0 56 ?_;refine tZ 1 57 ?_;refine tZ 2 58 ?_;refine tZ 3 59 ?_;refine tZ 4 60 ?_;refine tZ 5 61 ?_;refine tZ 6 62 ?_;refine tZ 7 63 ?_;refine wpAnyH_done (by kernel_rfl) ?_ _;clear hHeld;obtain⟨W4,hW4⟩:∃W4,W3.drew=W4:=⟨_,rfl⟩;have HIL4:Hid (IL w W4 u5 u6 sb qr pf qt sa):=by rw [<- hW4];exact hid HIL3.out.drew
       go_wp2_with fail;try rw [hW4]
       try clear hW4
       go_roundw;case rel=>exact⟨k+1,hlt,by go_num,by rw [HNX.out,HMN.out,HMX.out];exact HIL4⟩
       case measure=>simp [intOf];omega
     ·by_cases h2:qt<pt
      ·have d1:decide (pf<qf)=false:=by simp;omega
       have HMN:Hid (min pf qf=qf):=hid (by omega);have d2:decide (qt<pt)=true:=by simp;exact h2
       have HMX:Hid (max pt qt=pt):=hid (by omega);clear h1 h2;go_wp2_with fail;refine wp_region_held_drew (S:=fun w'=>w'.cell? ⟨g,off+k*3+1,none⟩=some (.int .i64 pf)/\ w'.cell? ⟨w.heap.size,1,none⟩=some (.int .i64 qf)) (by kernel_rfl) ⟨s1',t1'⟩ (fun hHeld=> ?_);refine tZ 0 42 ?_;refine tZ 1 43 ?_;refine tZ 2 44 ?_;refine tZ 3 45 ?_;refine tZ 4 46 ?_;refine tZ 5 47 ?_;refine tZ 6 48 ?_;refine tZ 7 49 ?_;refine wpAnyH_done (by kernel_rfl) ?_ _;clear hHeld;obtain⟨W3,hW3⟩:∃W3,w2.drew=W3:=⟨_,rfl⟩;have HIL3:Hid (IL w W3 u5 u6 sb qr qf qt sa):=by rw [<- hW3];exact hid HIL2.out.drew
       have r2:W3.cell? ⟨g,off+k*3+2,none⟩=some (.int .i64 pt):=by rw [<- hW3];exact s2'
       go_wp2_with fail;try rw [hW3]
       try clear hW3
       have t3:=HIL3.out.c2;refine wp_region_held_drew (S:=fun w'=>w'.cell? ⟨g,off+k*3+2,none⟩=some (.int .i64 pt)/\ w'.cell? ⟨w.heap.size,2,none⟩=some (.int .i64 qt)) (by kernel_rfl) ⟨r2,t3⟩ (fun hHeld=> ?_);refine tZ 0 56 ?_;refine tZ 1 57 ?_;refine tZ 2 58 ?_;refine tZ 3 59 ?_;refine tZ 4 60 ?_;refine tZ 5 61 ?_;refine tZ 6 62 ?_;refine tZ 7 63 ?_;refine wpAnyH_done (by kernel_rfl) ?_ _;clear hHeld;have f2:=HIL3.out.f2;obtain⟨W4,hW4⟩:∃W4,(W3.setCell ⟨w.heap.size,2,none⟩ (.int .i64 pt)).drew=W4:=⟨_,rfl⟩;have HIL4:Hid (IL w W4 u5 u6 sb qr qf pt sa):=by rw [<- hW4];exact hid (HIL3.out.set2 pt).drew
       go_wp2_with fail;try rw [hW4]
       try clear f2 hW4
       go_roundw;case rel=>exact⟨k+1,hlt,by go_num,by rw [HNX.out,HMN.out,HMX.out];exact HIL4⟩
       case measure=>simp [intOf];omega
      ·have d1:decide (pf<qf)=false:=by simp;omega
       have HMN:Hid (min pf qf=qf):=hid (by omega);have d2:decide (qt<pt)=false:=by simp;omega
       have HMX:Hid (max pt qt=qt):=hid (by omega);clear h1 h2;go_wp2_with fail;refine wp_region_held_drew (S:=fun w'=>w'.cell? ⟨g,off+k*3+1,none⟩=some (.int .i64 pf)/\ w'.cell? ⟨w.heap.size,1,none⟩=some (.int .i64 qf)) (by kernel_rfl) ⟨s1',t1'⟩ (fun hHeld=> ?_);refine tZ 0 42 ?_;refine tZ 1 43 ?_;refine tZ 2 44 ?_;refine tZ 3 45 ?_;refine tZ 4 46 ?_;refine tZ 5 47 ?_;refine tZ 6 48 ?_;refine tZ 7 49 ?_;refine wpAnyH_done (by kernel_rfl) ?_ _;clear hHeld;obtain⟨W3,hW3⟩:∃W3,w2.drew=W3:=⟨_,rfl⟩;have HIL3:Hid (IL w W3 u5 u6 sb qr qf qt sa):=by rw [<- hW3];exact hid HIL2.out.drew
       have r2:W3.cell? ⟨g,off+k*3+2,none⟩=some (.int .i64 pt):=by rw [<- hW3];exact s2'
       go_wp2_with fail;try rw [hW3]
       try clear hW3
       have t3:=HIL3.out.c2;refine wp_region_held_drew (S:=fun w'=>w'.cell? ⟨g,off+k*3+2,none⟩=some (.int .i64 pt)/\ w'.cell? ⟨w.heap.size,2,none⟩=some (.int .i64 qt)) (by kernel_rfl) ⟨r2,t3⟩ (fun hHeld=> ?_);refine tZ 0 56 ?_;refine tZ 1 57 ?_;refine tZ 2 58 ?_;refine tZ 3 59 ?_;refine tZ 4 60 ?_;refine tZ 5 61 ?_;refine tZ 6 62 ?_;refine tZ 7 63 ?_;refine wpAnyH_done (by kernel_rfl) ?_ _;clear hHeld;obtain⟨W4,hW4⟩:∃W4,W3.drew=W4:=⟨_,rfl⟩;have HIL4:Hid (IL w W4 u5 u6 sb qr qf qt sa):=by rw [<- hW4];exact hid HIL3.out.drew
       go_wp2_with fail;try rw [hW4]
       try clear hW4
       go_roundw;case rel=>exact⟨k+1,hlt,by go_num,by rw [HNX.out,HMN.out,HMX.out];exact HIL4⟩
       case measure=>simp [intOf];omega
  ·obtain rfl:k=n:=by omega
   have hln:=HLn.out k (Nat.le_refl _);generalize hsk:st k=sk at*;obtain⟨sb,⟨qr,qf,qt⟩,sa⟩:=sk;simp only at hil hln;have c0:=hil.out.c0;have c1:=hil.out.c1;have c2:=hil.out.c2;have zr:=hil.out.sz;clear hsk hinv;go_wp2_with (at_builtin;refine wpList_app_at rfl _ _ 24 rfl (w.heap.size+1) 87 i0 _ 3 24 Tryz.underlying24 hi hz0 hz1 hz2 rfl (by decide) _ _ _ rfl (World.ownsRow.alloc hil.out.b _) ⟨wr.heap.size,0,none⟩ 1 1 [.int .i64 qr,.int .i64 qf,.int .i64 qt] rfl rfl ?o1 ?o2 ?o3 ?o4 ?o5 ?_);try (case o1=>exact cell_three_new _ _ _ _ _)
   case o2=>first|exact⟨rfl,rfl,rfl⟩|(intro u hu;simp at hu;rcases hu with rfl|rfl|rfl<;>rfl)
   case o3=>unfold maxLen;omega
   case o4=>omega
   case o5=>first|omega|(simp;omega)
   intro v7 w7 hown7 hgr7 hloc7;have HIL7:=hid ((hil.out.below ((Below.refl _ _).alloc (Nat.le_refl _) _)).app5 (qr,qf,qt) hown7 hgr7 (by simpa using hloc7));clear hown7 hgr7 hloc7 c0 c1 c2 hil;have hna:=HIL7.out.na;have HA7:=hid HIL7.out.a;have hz7:=HIL7.out.sz;rcases HIL7.out.a.2 with ⟨e,_⟩|⟨g6,c6,cur6,e,_,_,hn6,hm6,_,_⟩
   ·rw [e] at hna;exact absurd rfl hna
   subst e;unfold maxLen at hm6;have HC6:Hid (∀j u,(fCells sa)[j]? =some u ->w7.cell? ((⟨g6,0,none⟩:Addr).add j)=some u):=hid (World.ownsRow.cells HA7.out rfl);clear hna;go_wp2_with (at_builtin;refine wpList_app_at rfl _ _ 24 rfl (w.heap.size+1) 87 i0 _ 3 24 Tryz.underlying24 hi hz0 hz1 hz2 rfl (by decide) v7 (sb++[(qr,qf,qt)]).length (fCells (sb++[(qr,qf,qt)])) rfl HIL7.out.b ⟨g6,0,none⟩ sa.length c6 (fCells sa) rfl (fCells_len sa) HC6.out (fCells_one sa) ?r3 ?r4 ?r5 ?_);case r3=>unfold maxLen;simp;omega
   case r4=>simp;omega
   case r5=>omega
   intro v8 w8 hown8 hgr8 hloc8;have HB8:Hid (Below w.heap.size w w8):=hid (HIL7.out.bel.grown hgr8 (by omega) (fun k hk=>by have:=(World.ownsRow.lt HIL7.out.b k hk).1;omega));have HF8:Hid (FR w8 w.heap.size v8 (sb++[(qr,qf,qt)]++sa)):=by
    refine hid ?_;unfold FR;rw [fCells_append,List.length_append,show (sb++[(qr,qf,qt)]).length=sb.length+1 from by simp];obtain⟨q1,q2⟩:=hown8;refine⟨q1,q2.imp id ?_⟩;rintro⟨g,cap,cur,e,hg,r⟩;exact⟨g,cap,cur,e,by omega,r⟩
   clear hown8 hgr8 hloc8;go_wp2_with fail;go_ret;exact⟨v8,rfl,by rw [HE.out];exact HF8.out,HB8.out⟩
end Go.Proofs.YtpfmeafmepgimaaGreat
