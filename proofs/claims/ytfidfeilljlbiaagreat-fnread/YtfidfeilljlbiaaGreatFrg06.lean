import Derived.Test.YtfidfeilljlbiaaGreatFrg05
import Derived.Deep.QuietTactic
import Derived.BigQuiet
set_option linter.unusedVariables false
set_option linter.unusedSimpArgs false
set_option maxRecDepth 100000
set_option maxHeartbeats 40000000
namespace Go.Proofs.YtfidfeilljlbiaaGreat
open Go.ChangeShapes Go.WideShapes Go.ChangeAt Go.RowKit Go.Maps Go.Sort
def gR (l:List Rn)(i:Nat):Rn:=l.getD i (0,0,0)
def FS (w:World)(a:Option Addr)(l:List Rn):Prop:=
 l.length=0 \/∃g off,a=some ⟨g,off,none⟩/\ g<w.heap.size/\∀i,i<l.length ->w.cell? ⟨g,off+i*3,none⟩=some (.int .i64 (gR l i).1)/\ w.cell? ⟨g,off+i*3+1,none⟩=some (.int .i64 (gR l i).2.1)/\ w.cell? ⟨g,off+i*3+2,none⟩=some (.int .i64 (gR l i).2.2)
theorem fr_cells {w:World}{B n cap g:Nat}{l:List Rn}(h:w.ownsRow B 96 3 (.slice (some ⟨g,0,none⟩) n cap) n (fCells l))(hl:l.length=n):
  ∀i,i<n ->w.cell? ⟨g,i*3,none⟩=some (.int .i64 (gR l i).1)/\ w.cell? ⟨g,i*3+1,none⟩=some (.int .i64 (gR l i).2.1)/\ w.cell? ⟨g,i*3+2,none⟩=some (.int .i64 (gR l i).2.2):=by
 intro i hi;have Ha:∀(l:List Rn) (i:Nat),i<l.length ->(fCells l)[i*3]? =some (.int .i64 (gR l i).1)/\ (fCells l)[i*3+1]? =some (.int .i64 (gR l i).2.1)/\ (fCells l)[i*3+2]? =some (.int .i64 (gR l i).2.2):=by
  intro l;induction l with
  | nil=>intro i hi;simp at hi
  | cons a l ih=>
   intro i hi;cases i with
   | zero=>simp [fCells,gR]
   | succ i=>
    have:=ih i (by simpa using hi);have e:fCells (a::l)=.int .i64 a.1::.int .i64 a.2.1::.int .i64 a.2.2::fCells l:=by simp [fCells]
    rw [e,show (i+1)*3=i*3+1+1+1 from by omega];simpa [gR] using this
 rw [h.cellAt _ (by omega),h.cellAt _ (by omega),h.cellAt _ (by omega)];exact Ha l i (by omega)
theorem FR.fs {w:World}{B:Nat}{v:Value}{l:List Rn}(h:FR w B v l):∃a c,v=.slice a l.length c/\ FS w a l/\ l.length<=c/\ c<=9223372036854775807:=by
 rcases h.2 with ⟨e,e0⟩|⟨g,Ha,Hd,e,hb,_,Hc,Hb,_⟩
 ·exact⟨none,0,by rw [e,e0],.inl e0,by omega,by omega⟩
 ·refine⟨_,Ha,e,.inr ⟨g,0,rfl,(World.ownsRow.lt h g (by rw [e];rfl)).2,fun i hi=> ?_⟩,Hc,by unfold maxLen at Hb;omega⟩;have h1:w.ownsRow B 96 3 v l.length (fCells l):=h;rw [e] at h1;rw [Nat.zero_add];exact fr_cells h1 rfl i hi
theorem fCells_len (l:List Rn):(fCells l).length=l.length*3:=by
 induction l with
 | nil=>rfl
 | cons a l ih=>simp [fCells] at*;omega
theorem FS.rseg {w:World}{a:Option Addr}{l:List Rn}(h:FS w a l):RSeg w a l.length (fun i=>(gR l i).1) (fun i=>(gR l i).2.1) (fun i=>(gR l i).2.2):=h
theorem FR.gr {w w':World}{B:Nat}{v:Value}{l:List Rn}{row:Option Nat}(h:FR w B v l)(hg:w.grownBy w' row)(hne:∀g,v.ownBlock=Option.some g ->Option.some g≠row):FR w' B v l:=
 World.ownsRow.kept h hg (by
  cases e:v.ownBlock with
  | none=>exact .inl rfl
  | some g=>exact .inr (hne g e))
theorem FR.below {w w':World}{B:Nat}{v:Value}{l:List Rn}(h:FR w B v l)(hb:Below w.heap.size w w'):FR w' B v l:=
 h.gr (row:=none) ⟨hb.os,hb.tape,hb.output,hb.size,fun k hk _=>hb.block k hk⟩ (by simp)
def stK (l:List Rn)(r:Rn)(k:Nat):List Rn×Rn×List Rn:=(l.take k).foldl insStep ([],r,[])
theorem stK_succ {l:List Rn}{r:Rn}{k:Nat}(h:k<l.length):stK l r (k+1)=insStep (stK l r k) (gR l k):=by
 unfold stK;rw [List.take_add_one,List.foldl_append];simp [gR,List.getD,h]
theorem stK_all (l:List Rn)(r:Rn):stK l r l.length=insSt l r:=by unfold stK insSt;rw [List.take_length]
def Bnd (p:Rn):Prop:=(-2000000000<=p.1/\ p.1<=2000000000)/\ (-2000000000<=p.2.1/\ p.2.1<=2000000000)/\ -2000000000<=p.2.2/\ p.2.2<=2000000000
theorem Rok.bnd {p:Rn}(h:Rok p):Bnd p:=by unfold Rok at h;unfold Bnd;omega
theorem insStep_bnd {s:List Rn×Rn×List Rn}{q:Rn}(h:Bnd s.2.1)(hq:Bnd q):Bnd (insStep s q).2.1:=by
 unfold insStep;split
 ·exact h
 ·split
  ·exact h
  ·unfold Bnd at*;simp only;omega
theorem insStep_len (s:List Rn×Rn×List Rn)(q:Rn):(insStep s q).1.length+(insStep s q).2.2.length<=s.1.length+s.2.2.length+1:=by
 unfold insStep;split
 ·simp;omega
 ·split
  ·simp;omega
  ·simp
theorem stK_len (l:List Rn)(r:Rn):∀k,k<=l.length ->(stK l r k).1.length+(stK l r k).2.2.length<=k
 | 0,_=>by simp [stK]
 | k+1,h=>by
  rw [stK_succ (by omega)];have:=insStep_len (stK l r k) (gR l k);have:=stK_len l r k (by omega);omega
theorem gR_mem {l:List Rn}{k:Nat}(h:k<l.length):gR l k∈l:=by simp [gR,List.getD,h]
theorem stK_bnd {l:List Rn}{r:Rn}(hl:∀p∈l,Bnd p)(hr:Bnd r):∀k,k<=l.length ->Bnd (stK l r k).2.1
 | 0,_=>by simpa [stK] using hr
 | k+1,h=>by rw [stK_succ (by omega)];exact insStep_bnd (stK_bnd hl hr k (by omega)) (hl _ (gR_mem (by omega)))
theorem apartB_iff {r t r' f' f t':Int}:apartB r t r' f'=true↔Apt (r,f,t) (r',f',t'):=by unfold apartB Apt;simp
structure IL (w wr:World)(u5 u6:Value)(sb:List Rn)(qr qf qt:Int)(sa:List Rn):Prop where
 b:FR wr (w.heap.size+1) u5 sb
 a:FR wr (w.heap.size+1) u6 sa
 ne:∀g,u5.ownBlock=some g ->u6.ownBlock≠some g
 nb:u5.ownBlock≠none
 na:u6.ownBlock≠none
 bel:Below w.heap.size w wr
 sz:w.heap.size+1<=wr.heap.size
 c0:wr.cell? ⟨w.heap.size,0,none⟩=some (.int .i64 qr)
 c1:wr.cell? ⟨w.heap.size,1,none⟩=some (.int .i64 qf)
 c2:wr.cell? ⟨w.heap.size,2,none⟩=some (.int .i64 qt)
 f1:wr.frozen? ⟨w.heap.size,1,none⟩=false
 f2:wr.frozen? ⟨w.heap.size,2,none⟩=false
theorem IL.box5 {w wr:World}{u5 u6:Value}{sb sa:List Rn}{qr qf qt:Int}(h:IL w wr u5 u6 sb qr qf qt sa):some w.heap.size≠u5.ownBlock:=fun e=>by have:=(World.ownsRow.lt h.b _ e.symm).1;omega
theorem IL.below {w wr w1:World}{u5 u6:Value}{sb sa:List Rn}{qr qf qt:Int}(h:IL w wr u5 u6 sb qr qf qt sa)(hb:Below wr.heap.size wr w1):IL w w1 u5 u6 sb qr qf qt sa:=by
 have hs:=h.sz;have hz:=hb.size;exact⟨row_below h.b hb,row_below h.a hb,h.ne,h.nb,h.na,h.bel.trans (hb.mono (by omega)),by omega,(hb.cell (p:=⟨w.heap.size,0,none⟩) (show w.heap.size<wr.heap.size by omega)).trans h.c0,(hb.cell (p:=⟨w.heap.size,1,none⟩) (show w.heap.size<wr.heap.size by omega)).trans h.c1,(hb.cell (p:=⟨w.heap.size,2,none⟩) (show w.heap.size<wr.heap.size by omega)).trans h.c2,((bcell hb).2 w.heap.size 1 (by omega)).trans h.f1,((bcell hb).2 w.heap.size 2 (by omega)).trans h.f2⟩
theorem IL.app5 {w wr w1:World}{u5 u6 v:Value}{sb sa:List Rn}{qr qf qt:Int}(h:IL w wr u5 u6 sb qr qf qt sa)(p:Rn)(hown:w1.ownsRow (w.heap.size+1) 96 3 v (sb.length+1) (fCells sb++[.int .i64 p.1,.int .i64 p.2.1,.int .i64 p.2.2]))
  (hg:wr.grownBy w1 u5.ownBlock) (hloc:v.ownBlock=u5.ownBlock \/v.ownBlock=some wr.heap.size):IL w w1 v u6 (sb++[p]) qr qf qt sa:=by
 have hs:=h.sz;have hz:=hg.size;have Ha:=h.box5;have Hb:=hg.block w.heap.size (by omega) Ha;refine⟨?_,World.ownsRow.kept h.a hg ?_,fun g e1 e2=> ?_,?_,h.na,h.bel.grown hg (by omega) (fun k hk=>by have:=(World.ownsRow.lt h.b k hk).1;omega),by omega,hg.cell h.c0 Ha,hg.cell h.c1 Ha,hg.cell h.c2 Ha,(World.frozen?_of_block Hb).trans h.f1,(World.frozen?_of_block Hb).trans h.f2⟩
 ·unfold FR;rw [fCells_snoc,List.length_append];exact hown
 ·cases e:u6.ownBlock with
  | none=>exact .inl rfl
  | some g=>exact .inr (fun e2=>h.ne g e2.symm e)
 ·rcases hloc with hl|hl
  ·exact h.ne g (hl ▸ e1) e2
  ·rw [hl] at e1;injection e1 with e1;have:=(World.ownsRow.lt h.a g e2).2;omega
 ·rcases hloc with hl|hl
  ·rw [hl];exact h.nb
  ·rw [hl];simp
theorem IL.app6 {w wr w1:World}{u5 u6 v:Value}{sb sa:List Rn}{qr qf qt:Int}(h:IL w wr u5 u6 sb qr qf qt sa)(p:Rn)(hown:w1.ownsRow (w.heap.size+1) 96 3 v (sa.length+1) (fCells sa++[.int .i64 p.1,.int .i64 p.2.1,.int .i64 p.2.2]))
  (hg:wr.grownBy w1 u6.ownBlock) (hloc:v.ownBlock=u6.ownBlock \/v.ownBlock=some wr.heap.size):IL w w1 u5 v sb qr qf qt (sa++[p]):=by
 have h':IL w wr u6 u5 sa qr qf qt sb:=⟨h.a,h.b,fun g e1 e2=>h.ne g e2 e1,h.na,h.nb,h.bel,h.sz,h.c0,h.c1,h.c2,h.f1,h.f2⟩;have h2:=h'.app5 p hown hg hloc;exact⟨h2.a,h2.b,fun g e1 e2=>h2.ne g e2 e1,h2.na,h2.nb,h2.bel,h2.sz,h2.c0,h2.c1,h2.c2,h2.f1,h2.f2⟩
theorem IL.row_set {w wr:World}{v:Value}{l:List Rn}(h:FR wr (w.heap.size+1) v l)(i:Nat)(u:Value):FR (wr.setCell ⟨w.heap.size,i,none⟩ u) (w.heap.size+1) v l:=by
 refine World.ownsRow.kept h (grownSet wr ⟨w.heap.size,i,none⟩ u) ?_;cases e:v.ownBlock with
 | none=>exact .inl rfl
 | some g=>exact .inr (fun e2=>by have:=(World.ownsRow.lt h g e).1;injection e2 with e2;have e2:g=w.heap.size:=e2;omega)
theorem IL.set1 {w wr:World}{u5 u6:Value}{sb sa:List Rn}{qr qf qt:Int}(h:IL w wr u5 u6 sb qr qf qt sa)(z:Int):IL w (wr.setCell ⟨w.heap.size,1,none⟩ (.int .i64 z)) u5 u6 sb qr z qt sa:=
 ⟨IL.row_set h.b _ _,IL.row_set h.a _ _,h.ne,h.nb,h.na,h.bel.setCell (p:=⟨w.heap.size,1,none⟩) zL _,by simpa using h.sz,(World.cell?_setCell_other _ _ _ _ (by simp)).trans h.c0,World.cell?_setCell_same _ _ _ h.c1,(World.cell?_setCell_other _ _ _ _ (by simp)).trans h.c2,by simpa using h.f1,by simpa using h.f2⟩
theorem IL.set2 {w wr:World}{u5 u6:Value}{sb sa:List Rn}{qr qf qt:Int}(h:IL w wr u5 u6 sb qr qf qt sa)(z:Int):IL w (wr.setCell ⟨w.heap.size,2,none⟩ (.int .i64 z)) u5 u6 sb qr qf z sa:=
 ⟨IL.row_set h.b _ _,IL.row_set h.a _ _,h.ne,h.nb,h.na,h.bel.setCell (p:=⟨w.heap.size,2,none⟩) zL _,by simpa using h.sz,(World.cell?_setCell_other _ _ _ _ (by simp)).trans h.c0,(World.cell?_setCell_other _ _ _ _ (by simp)).trans h.c1,World.cell?_setCell_same _ _ _ h.c2,by simpa using h.f1,by simpa using h.f2⟩
theorem IL.drew {w wr:World}{u5 u6:Value}{sb sa:List Rn}{qr qf qt:Int}(h:IL w wr u5 u6 sb qr qf qt sa):IL w wr.drew u5 u6 sb qr qf qt sa:=h.below zI.drew
theorem fCells_one (l:List Rn):∀u∈fCells l,u.oneCell'=true:=by
 intro u hu;unfold fCells at hu;obtain⟨p,_,h⟩:=List.mem_flatMap.1 hu;simp at h;rcases h with rfl|rfl|rfl<;>rfl
theorem fCells_append (l l':List Rn):fCells (l++l')=fCells l++fCells l':=by simp [fCells]
theorem specApartW (r f t r' f' t':Int)(w:World)(h0: -2000000000<=t)(h1:t<=2000000000):
  Calls Tryz.prog 64 #[.agg #[.int .i64 r,.int .i64 f,.int .i64 t],.agg #[.int .i64 r',.int .i64 f',.int .i64 t']] w fun e w'=>e=.returned (.bool (apartB r t r' f'))/\ Below w.heap.size w w':=by
 by_cases c1:r<r'
 ·have HE:=hid (apart_true (t:=t) (f':=f') (.inl c1));go_enter Tryz.func64,Tryz.ntmps64;go_wp2_with fail;go_ret;exact⟨retB HE.out.symm,below2 _ _ _⟩
 ·by_cases c2:r=r'
  ·subst c2;by_cases c3:t+1<f'
   ·have HE:=hid (apart_true (r:=r) (r':=r) (.inr ⟨rfl,c3⟩));go_enter Tryz.func64,Tryz.ntmps64;go_wp2_with fail;go_ret;exact⟨retB HE.out.symm,below2 _ _ _⟩
   ·have HE:=hid (apart_false (r:=r) (r':=r) (t:=t) (f':=f') (by omega));go_enter Tryz.func64,Tryz.ntmps64;go_wp2_with fail;go_ret;exact⟨retB HE.out.symm,below2 _ _ _⟩
  ·have c3:(r==r')=false:=by simp;exact c2
   have HE:=hid (apart_false (r:=r) (r':=r') (t:=t) (f':=f') (by omega));go_enter Tryz.func64,Tryz.ntmps64;go_wp2_with fail;go_ret;exact⟨retB HE.out.symm,below2 _ _ _⟩
theorem specInsG (a:Option Addr)(c:Nat)(l:List Rn)(rr rf rt:Int)(w:World)(hn:l.length<=100000)(h:FS w a l)(hl:∀p∈l,Bnd p)(hr:Bnd (rr,rf,rt)):
  Calls Tryz.prog 46 #[.slice a l.length c,.agg #[.int .i64 rr,.int .i64 rf,.int .i64 rt]] w fun e w'=>∃v,e=.returned v/\ FR w' w.heap.size v (ins l (rr,rf,rt))/\ Below w.heap.size w w':=by
 obtain⟨i0,hi,H6,H7,H8⟩:=info_parts Tryz.infoRun;obtain⟨st,Hx⟩:∃st,stK l (rr,rf,rt)=st:=⟨_,rfl⟩;obtain⟨n,Hp⟩:∃n,l.length=n:=⟨_,rfl⟩;have HI:Hid (∀k,k<=n ->Bnd (st k).2.1):=by rw [<- Hx,<- Hp];exact hid (stK_bnd hl hr)
 have HS:Hid (∀k,k<n ->st (k+1)=insStep (st k) (gR l k)):=by rw [<- Hx,<- Hp];exact hid fun k hk=>stK_succ hk
 have HZ:Hid (st 0=([],(rr,rf,rt),[])):=by rw [<- Hx];exact hid rfl
 have HE:Hid (ins l (rr,rf,rt)=(st n).1++[(st n).2.1]++(st n).2.2):=by rw [<- Hx,<- Hp,stK_all];exact hid rfl
 have Gd:Hid (∀k,k<=n ->(st k).1.length+(st k).2.2.length<=k):=by rw [<- Hx,<- Hp];exact hid (stK_len l _)
 have Gq:Hid (∀k,k<n ->Bnd (gR l k)):=by rw [<- Hp];exact hid fun k hk=>hl _ (gR_mem hk)
 have Gp:Hid (n=0 \/∃g Ha,a=some ⟨g,Ha,none⟩/\ g<w.heap.size/\∀i,i<n ->w.cell? ⟨g,Ha+i*3,none⟩=some (.int .i64 (gR l i).1)/\ w.cell? ⟨g,Ha+i*3+1,none⟩=some (.int .i64 (gR l i).2.1)/\ w.cell? ⟨g,Ha+i*3+2,none⟩=some (.int .i64 (gR l i).2.2)):=by rw [<- Hp];exact hid h
 rw [Hp] at hn ⊢;clear Hx Hp h hl;obtain⟨W0,Hm⟩:∃W0,w.alloc (.cells #[.int .i64 rr,.int .i64 rf,.int .i64 rt] 96)=W0:=⟨_,rfl⟩;have z0:W0.heap.size=w.heap.size+1:=by rw [<- Hm];simp
 have Gl:Hid (Below w.heap.size w W0):=by rw [<- Hm];exact hid (zO _ _)
 have x0:W0.cell? ⟨w.heap.size,0,none⟩=some (.int .i64 rr):=by rw [<- Hm];simp
 have x1:W0.cell? ⟨w.heap.size,1,none⟩=some (.int .i64 rf):=by rw [<- Hm];simp
 have x2:W0.cell? ⟨w.heap.size,2,none⟩=some (.int .i64 rt):=by rw [<- Hm];simp
 have y1:W0.frozen? ⟨w.heap.size,1,none⟩=false:=by rw [<- Hm];simp
 have y2:W0.frozen? ⟨w.heap.size,2,none⟩=false:=by rw [<- Hm];simp
 go_enter Tryz.func46,Tryz.ntmps46;go_wp2_with fail;try rw [Hm]
 have H1:Hid (IL w ((W0.alloc (.cells #[] 96)).alloc (.cells #[] 96)) (.slice (some ⟨w.heap.size+1,0,none⟩) 0 0) (.slice (some ⟨w.heap.size+1+1,0,none⟩) 0 0) [] rr rf rt []):=by
  refine hid ?_;have b2:Below W0.heap.size W0 ((W0.alloc (.cells #[] 96)).alloc (.cells #[] 96)):=below2 _ _ _;have q1:=World.ownsRow_lit (base:=w.heap.size+1) (e:=96) (size:=3) W0 #[] 0 (by omega) (by unfold maxLen;omega) rfl;have q2:=World.ownsRow_lit (base:=w.heap.size+1) (e:=96) (size:=3) (W0.alloc (.cells #[] 96)) #[] 0 (by simp;omega) (by unfold maxLen;omega) rfl;have zz:(W0.alloc (.cells #[] 96)).heap.size=w.heap.size+1+1:=by simp;omega
  rw [z0] at q1;rw [zz] at q2;refine⟨World.ownsRow.alloc q1 _,q2,fun g e1 e2=> ?_,by simp [Value.ownBlock],by simp [Value.ownBlock],Gl.out.trans (b2.mono (by omega)),by simp;omega,(b2.cell (p:=⟨w.heap.size,0,none⟩) (show w.heap.size<_ by omega)).trans x0,(b2.cell (p:=⟨w.heap.size,1,none⟩) (show w.heap.size<_ by omega)).trans x1,(b2.cell (p:=⟨w.heap.size,2,none⟩) (show w.heap.size<_ by omega)).trans x2,((bcell b2).2 w.heap.size 1 (by omega)).trans y1,((bcell b2).2 w.heap.size 2 (by omega)).trans y2⟩;simp [Value.ownBlock] at e1 e2;omega
 clear x0 x1 x2 y1 y2 z0 Hm;go_loopw [5,6,7] (fun u5 u6 iv wr=>∃(k:Nat),k<=n/\ iv=.int .i64 k/\ Hid (IL w wr u5 u6 (st k).1 (st k).2.1.1 (st k).2.1.2.1 (st k).2.1.2.2 (st k).2.2)) (fun _ _ iv _=>n - (intOf iv).toNat);case atStart=>exact⟨0,Nat.zero_le _,rfl,by rw [HZ.out];exact H1⟩
 case round=>
  clear H1;obtain⟨k,hk,rfl,Hh⟩:=hrel;have Hu:=HI.out k hk;by_cases Hn:k<n
  ·have Hr:=HS.out k Hn;have Ga:=Gd.out k hk;have Gg:=Gq.out k Hn;have H2:∃g Ha,a=some ⟨g,Ha,none⟩/\ g<w.heap.size/\ w.cell? ⟨g,Ha+k*3,none⟩=some (.int .i64 (gR l k).1)/\ w.cell? ⟨g,Ha+k*3+1,none⟩=some (.int .i64 (gR l k).2.1)/\ w.cell? ⟨g,Ha+k*3+2,none⟩=some (.int .i64 (gR l k).2.2):=by
    rcases Gp.out with h|⟨g,Ha,e,hg,hc⟩
    ·omega
    ·exact⟨g,Ha,e,hg,hc k Hn⟩
   obtain⟨g,Ha,rfl,hg,p0,p1,p2⟩:=H2;generalize H5:st k=sk at*;obtain⟨sb,⟨qr,qf,qt⟩,sa⟩:=sk;generalize Ge:gR l k=gk at*;obtain⟨pr,pf,pt⟩:=gk;simp only at p0 p1 p2 Hh Ga;unfold Bnd at Hu Gg;simp only at Hu Gg;have H9:=hid Hr;have HP:=hid (And.intro p0 (And.intro p1 p2));have e0:=(Hh.out.bel.cell (p:=⟨g,Ha+k*3,none⟩) hg).trans p0;have e1:=(Hh.out.bel.cell (p:=⟨g,Ha+k*3+1,none⟩) hg).trans p1;have e2:=(Hh.out.bel.cell (p:=⟨g,Ha+k*3+2,none⟩) hg).trans p2;have c0:=Hh.out.c0;have c1:=Hh.out.c1;have c2:=Hh.out.c2;have zr:=Hh.out.sz;have HK:=hid H5;have Gw:=hid Ge;clear Hr H5 Ge p0 p1 p2;go_wp2_with fail;refine zR (S:=fun w'=>w'.cell? ⟨g,Ha+k*3,none⟩=some (.int .i64 pr)/\ w'.cell? ⟨g,Ha+k*3+1,none⟩=some (.int .i64 pf)/\ w'.cell? ⟨g,Ha+k*3+2,none⟩=some (.int .i64 pt)/\ w'.cell? ⟨w.heap.size,0,none⟩=some (.int .i64 qr)/\ w'.cell? ⟨w.heap.size,1,none⟩=some (.int .i64 qf)/\ w'.cell? ⟨w.heap.size,2,none⟩=some (.int .i64 qt)) ⟨e0,e1,e2,c0,c1,c2⟩ (fun qh=> ?_);refine tZ 0 16 ?_;refine tZ 1 17 ?_;refine tZ 2 18 ?_;refine tZ 3 19 ?_;refine tZ 4 20 ?_;refine cZ 5 ?_;intro K hK;go_simp;refine(specApartW pr pf pt qr qf qt _ (by omega) (by omega)).mono ?_;rintro e w1 ⟨rfl,b1⟩;have Hv:Below wr.heap.size wr w1:=(Below.refl _ wr).drew.trans b1;have Hj:=hid (Hh.out.below Hv);have z1:=Hv.size;have s0:=(Hv.cell (p:=⟨g,Ha+k*3,none⟩) (show g<wr.heap.size by omega)).trans e0;have s1:=(Hv.cell (p:=⟨g,Ha+k*3+1,none⟩) (show g<wr.heap.size by omega)).trans e1;have s2:=(Hv.cell (p:=⟨g,Ha+k*3+2,none⟩) (show g<wr.heap.size by omega)).trans e2;have t0:=Hj.out.c0;have t1:=Hj.out.c1;have t2:=Hj.out.c2;refine hK.out _ _ ⟨s0,s1,s2,t0,t1,t2⟩ (fun qh=> ?_);clear hK K;try simp only [zP]
   refine zD ?_;clear qh e0 e1 e2 c0 c1 c2 b1 Hv Hh;by_cases hA:Apt (pr,pf,pt) (qr,qf,qt)
   ·rw [show apartB pr pt qr qf=true from apartB_iff.2 hA];have Ho:Hid (st (k+1)=(sb++[(pr,pf,pt)],(qr,qf,qt),sa)):=by
     refine hid ?_;rw [H9.out];unfold insStep;simp only;rw [if_pos hA]
    clear t0 t1 t2;go_wp2_with (at_builtin;refine wpList_app_at rfl _ _ 24 rfl (w.heap.size+1) 96 i0 _ 3 24 Tryz.underlying24 hi H6 H7 H8 rfl (by decide) _ _ _ rfl (World.ownsRow.alloc Hj.out.b _) ⟨w1.heap.size,0,none⟩ 1 1 [.int .i64 pr,.int .i64 pf,.int .i64 pt] rfl rfl ?n1 ?n2 ?n3 ?n4 ?n5 ?_);try (case n1=>exact cell_three_new _ _ _ _ _)
    case n2=>first|exact⟨rfl,rfl,rfl⟩|(intro u hu;simp at hu;rcases hu with rfl|rfl|rfl<;>rfl)
    case n3=>unfold maxLen;omega
    case n4=>omega
    case n5=>first|omega|(simp;omega)
    intro v7 w7 Hd Hi Hc;have Hf:=hid ((Hj.out.below (zO _ _)).app5 (pr,pf,pt) Hd Hi (by simpa using Hc));clear Hd Hi Hc s0 s1 s2;go_wp2_with fail;go_roundw;case rel=>exact⟨k+1,Hn,by go_num,by rw [Ho.out];exact Hf⟩
    case measure=>simp [intOf];omega
   ·rw [show apartB pr pt qr qf=false from by rw [<- Bool.not_eq_true];exact fun h=>hA (apartB_iff.1 h)];have HA:=hid hA;have v0:=t0;have v1:=t1;have v2:=t2;go_wp2_with fail;refine zR (S:=fun w'=>w'.cell? ⟨g,Ha+k*3,none⟩=some (.int .i64 pr)/\ w'.cell? ⟨g,Ha+k*3+1,none⟩=some (.int .i64 pf)/\ w'.cell? ⟨g,Ha+k*3+2,none⟩=some (.int .i64 pt)/\ w'.cell? ⟨w.heap.size,0,none⟩=some (.int .i64 qr)/\ w'.cell? ⟨w.heap.size,1,none⟩=some (.int .i64 qf)/\ w'.cell? ⟨w.heap.size,2,none⟩=some (.int .i64 qt)) ⟨s0,s1,s2,v0,v1,v2⟩ (fun qh=> ?_);refine tZ 0 29 ?_;refine tZ 1 30 ?_;refine tZ 2 31 ?_;refine tZ 3 32 ?_;refine tZ 4 33 ?_;refine cZ 5 ?_;intro K hK;go_simp;refine(specApartW qr qf qt pr pf pt _ (by omega) (by omega)).mono ?_;rintro e w2 ⟨rfl,b2⟩;have Hw:Below w1.heap.size w1 w2:=(Below.refl _ w1).drew.trans b2;have He:=hid (Hj.out.below Hw);have z2:=Hw.size;have Gh:=(Hw.cell (p:=⟨g,Ha+k*3,none⟩) (show g<w1.heap.size by omega)).trans s0;have Hy:=(Hw.cell (p:=⟨g,Ha+k*3+1,none⟩) (show g<w1.heap.size by omega)).trans s1;have Hz:=(Hw.cell (p:=⟨g,Ha+k*3+2,none⟩) (show g<w1.heap.size by omega)).trans s2;have Gi:=He.out.c0;have H0:=He.out.c1;have Gj:=He.out.c2;refine hK.out _ _ ⟨Gh,Hy,Hz,Gi,H0,Gj⟩ (fun qh=> ?_);clear hK K;try simp only [zP]
    refine zD ?_;clear qh b2 Hw s0 s1 s2 t0 t1 t2 v0 v1 v2 Hj;by_cases hB:Apt (qr,qf,qt) (pr,pf,pt)
    ·rw [show apartB qr qt pr pf=true from apartB_iff.2 hB];have Ho:Hid (st (k+1)=(sb,(qr,qf,qt),sa++[(pr,pf,pt)])):=by
      refine hid ?_;rw [H9.out];unfold insStep;simp only;rw [if_neg HA.out,if_pos hB]
     clear Gi H0 Gj;go_wp2_with (at_builtin;refine wpList_app_at rfl _ _ 24 rfl (w.heap.size+1) 96 i0 _ 3 24 Tryz.underlying24 hi H6 H7 H8 rfl (by decide) _ _ _ rfl (World.ownsRow.alloc He.out.a _) ⟨w2.heap.size,0,none⟩ 1 1 [.int .i64 pr,.int .i64 pf,.int .i64 pt] rfl rfl ?m1 ?m2 ?m3 ?m4 ?m5 ?_);try (case m1=>exact cell_three_new _ _ _ _ _)
     case m2=>first|exact⟨rfl,rfl,rfl⟩|(intro u hu;simp at hu;rcases hu with rfl|rfl|rfl<;>rfl)
     case m3=>unfold maxLen;omega
     case m4=>omega
     case m5=>first|omega|(simp;omega)
     intro v7 w7 Hd Hi Hc;have Hf:=hid ((He.out.below (zO _ _)).app6 (pr,pf,pt) Hd Hi (by simpa using Hc));clear Hd Hi Hc Gh Hy Hz;go_wp2_with fail;go_roundw;case rel=>exact⟨k+1,Hn,by go_num,by rw [Ho.out];exact Hf⟩
     case measure=>simp [intOf];omega
    ·rw [show apartB qr qt pr pf=false from by rw [<- Bool.not_eq_true];exact fun h=>hB (apartB_iff.1 h)];have Ho:Hid (st (k+1)=(sb,(qr,min pf qf,max pt qt),sa)):=by
      refine hid ?_;rw [H9.out];unfold insStep;simp only;rw [if_neg HA.out,if_neg hB]
     have Gc:=hid He.out.f1;have Gv:=hid He.out.f2;clear hB;have Gf:g≠w.heap.size:=by omega
     by_cases h1:pf<qf
     ·by_cases h2:qt<pt
      ·have d1:decide (pf<qf)=true:=by simp;exact h1
       have Hs:Hid (min pf qf=pf):=hid (by omega);have d2:decide (qt<pt)=true:=by simp;exact h2
       have Ht:Hid (max pt qt=pt):=hid (by omega);clear h1 h2;go_wp2_with fail;refine zR (S:=fun w'=>w'.cell? ⟨g,Ha+k*3+1,none⟩=some (.int .i64 pf)/\ w'.cell? ⟨w.heap.size,1,none⟩=some (.int .i64 qf)) ⟨Hy,H0⟩ (fun qh=> ?_);refine tZ 0 42 ?_;refine tZ 1 43 ?_;refine tZ 2 44 ?_;refine tZ 3 45 ?_;refine tZ 4 46 ?_;refine tZ 5 47 ?_;refine tZ 6 48 ?_;refine tZ 7 49 ?_;refine zD ?_;clear qh;have f1:=Gc.out;obtain⟨W3,Hg⟩:∃W3,(w2.setCell ⟨w.heap.size,1,none⟩ (.int .i64 pf)).drew=W3:=⟨_,rfl⟩;have Hb:Hid (IL w W3 u5 u6 sb qr pf qt sa):=by rw [<- Hg];exact hid (He.out.set1 pf).drew
       have r2:W3.cell? ⟨g,Ha+k*3+2,none⟩=some (.int .i64 pt):=by rw [<- Hg];exact(World.cell?_setCell_far w2 ⟨w.heap.size,1,none⟩ _ _ (fun e=>Gf e.symm)).trans Hz
       go_wp2_with fail;try rw [Hg]
       try clear f1 Hg
       have t3:=Hb.out.c2;refine zR (S:=fun w'=>w'.cell? ⟨g,Ha+k*3+2,none⟩=some (.int .i64 pt)/\ w'.cell? ⟨w.heap.size,2,none⟩=some (.int .i64 qt)) ⟨r2,t3⟩ (fun qh=> ?_);refine tZ 0 56 ?_;refine tZ 1 57 ?_;refine tZ 2 58 ?_;refine tZ 3 59 ?_;refine tZ 4 60 ?_;refine tZ 5 61 ?_;refine tZ 6 62 ?_;refine tZ 7 63 ?_;refine zD ?_;clear qh;have f2:=Hb.out.f2;obtain⟨W4,Hl⟩:∃W4,(W3.setCell ⟨w.heap.size,2,none⟩ (.int .i64 pt)).drew=W4:=⟨_,rfl⟩;have Hk:Hid (IL w W4 u5 u6 sb qr pf pt sa):=by rw [<- Hl];exact hid (Hb.out.set2 pt).drew
       go_wp2_with fail;try rw [Hl]
       try clear f2 Hl
       go_roundw;case rel=>exact⟨k+1,Hn,by go_num,by rw [Ho.out,Hs.out,Ht.out];exact Hk⟩
       case measure=>simp [intOf];omega
      ·have d1:decide (pf<qf)=true:=by simp;exact h1
       have Hs:Hid (min pf qf=pf):=hid (by omega);have d2:decide (qt<pt)=false:=by simp;omega
       have Ht:Hid (max pt qt=qt):=hid (by omega);clear h1 h2;go_wp2_with fail;refine zR (S:=fun w'=>w'.cell? ⟨g,Ha+k*3+1,none⟩=some (.int .i64 pf)/\ w'.cell? ⟨w.heap.size,1,none⟩=some (.int .i64 qf)) ⟨Hy,H0⟩ (fun qh=> ?_);refine tZ 0 42 ?_;refine tZ 1 43 ?_;refine tZ 2 44 ?_;refine tZ 3 45 ?_;refine tZ 4 46 ?_;refine tZ 5 47 ?_;refine tZ 6 48 ?_;refine tZ 7 49 ?_;refine zD ?_;clear qh;have f1:=Gc.out;obtain⟨W3,Hg⟩:∃W3,(w2.setCell ⟨w.heap.size,1,none⟩ (.int .i64 pf)).drew=W3:=⟨_,rfl⟩;have Hb:Hid (IL w W3 u5 u6 sb qr pf qt sa):=by rw [<- Hg];exact hid (He.out.set1 pf).drew
       have r2:W3.cell? ⟨g,Ha+k*3+2,none⟩=some (.int .i64 pt):=by rw [<- Hg];exact(World.cell?_setCell_far w2 ⟨w.heap.size,1,none⟩ _ _ (fun e=>Gf e.symm)).trans Hz
       go_wp2_with fail;try rw [Hg]
       try clear f1 Hg
       have t3:=Hb.out.c2;refine zR (S:=fun w'=>w'.cell? ⟨g,Ha+k*3+2,none⟩=some (.int .i64 pt)/\ w'.cell? ⟨w.heap.size,2,none⟩=some (.int .i64 qt)) ⟨r2,t3⟩ (fun qh=> ?_);refine tZ 0 56 ?_;refine tZ 1 57 ?_;refine tZ 2 58 ?_;refine tZ 3 59 ?_;refine tZ 4 60 ?_;refine tZ 5 61 ?_;refine tZ 6 62 ?_;refine tZ 7 63 ?_;refine zD ?_;clear qh;obtain⟨W4,Hl⟩:∃W4,W3.drew=W4:=⟨_,rfl⟩;have Hk:Hid (IL w W4 u5 u6 sb qr pf qt sa):=by rw [<- Hl];exact hid Hb.out.drew
       go_wp2_with fail;try rw [Hl]
       try clear Hl
       go_roundw;case rel=>exact⟨k+1,Hn,by go_num,by rw [Ho.out,Hs.out,Ht.out];exact Hk⟩
       case measure=>simp [intOf];omega
     ·by_cases h2:qt<pt
      ·have d1:decide (pf<qf)=false:=by simp;omega
       have Hs:Hid (min pf qf=qf):=hid (by omega);have d2:decide (qt<pt)=true:=by simp;exact h2
       have Ht:Hid (max pt qt=pt):=hid (by omega);clear h1 h2;go_wp2_with fail;refine zR (S:=fun w'=>w'.cell? ⟨g,Ha+k*3+1,none⟩=some (.int .i64 pf)/\ w'.cell? ⟨w.heap.size,1,none⟩=some (.int .i64 qf)) ⟨Hy,H0⟩ (fun qh=> ?_);refine tZ 0 42 ?_;refine tZ 1 43 ?_;refine tZ 2 44 ?_;refine tZ 3 45 ?_;refine tZ 4 46 ?_;refine tZ 5 47 ?_;refine tZ 6 48 ?_;refine tZ 7 49 ?_;refine zD ?_;clear qh;obtain⟨W3,Hg⟩:∃W3,w2.drew=W3:=⟨_,rfl⟩;have Hb:Hid (IL w W3 u5 u6 sb qr qf qt sa):=by rw [<- Hg];exact hid He.out.drew
       have r2:W3.cell? ⟨g,Ha+k*3+2,none⟩=some (.int .i64 pt):=by rw [<- Hg];exact Hz
       go_wp2_with fail;try rw [Hg]
       try clear Hg
       have t3:=Hb.out.c2;refine zR (S:=fun w'=>w'.cell? ⟨g,Ha+k*3+2,none⟩=some (.int .i64 pt)/\ w'.cell? ⟨w.heap.size,2,none⟩=some (.int .i64 qt)) ⟨r2,t3⟩ (fun qh=> ?_);refine tZ 0 56 ?_;refine tZ 1 57 ?_;refine tZ 2 58 ?_;refine tZ 3 59 ?_;refine tZ 4 60 ?_;refine tZ 5 61 ?_;refine tZ 6 62 ?_;refine tZ 7 63 ?_;refine zD ?_;clear qh;have f2:=Hb.out.f2;obtain⟨W4,Hl⟩:∃W4,(W3.setCell ⟨w.heap.size,2,none⟩ (.int .i64 pt)).drew=W4:=⟨_,rfl⟩;have Hk:Hid (IL w W4 u5 u6 sb qr qf pt sa):=by rw [<- Hl];exact hid (Hb.out.set2 pt).drew
       go_wp2_with fail;try rw [Hl]
       try clear f2 Hl
       go_roundw;case rel=>exact⟨k+1,Hn,by go_num,by rw [Ho.out,Hs.out,Ht.out];exact Hk⟩
       case measure=>simp [intOf];omega
      ·have d1:decide (pf<qf)=false:=by simp;omega
       have Hs:Hid (min pf qf=qf):=hid (by omega);have d2:decide (qt<pt)=false:=by simp;omega
       have Ht:Hid (max pt qt=qt):=hid (by omega);clear h1 h2;go_wp2_with fail;refine zR (S:=fun w'=>w'.cell? ⟨g,Ha+k*3+1,none⟩=some (.int .i64 pf)/\ w'.cell? ⟨w.heap.size,1,none⟩=some (.int .i64 qf)) ⟨Hy,H0⟩ (fun qh=> ?_);refine tZ 0 42 ?_;refine tZ 1 43 ?_;refine tZ 2 44 ?_;refine tZ 3 45 ?_;refine tZ 4 46 ?_;refine tZ 5 47 ?_;refine tZ 6 48 ?_;refine tZ 7 49 ?_;refine zD ?_;clear qh;obtain⟨W3,Hg⟩:∃W3,w2.drew=W3:=⟨_,rfl⟩;have Hb:Hid (IL w W3 u5 u6 sb qr qf qt sa):=by rw [<- Hg];exact hid He.out.drew
       have r2:W3.cell? ⟨g,Ha+k*3+2,none⟩=some (.int .i64 pt):=by rw [<- Hg];exact Hz
       go_wp2_with fail;try rw [Hg]
       try clear Hg
       have t3:=Hb.out.c2;refine zR (S:=fun w'=>w'.cell? ⟨g,Ha+k*3+2,none⟩=some (.int .i64 pt)/\ w'.cell? ⟨w.heap.size,2,none⟩=some (.int .i64 qt)) ⟨r2,t3⟩ (fun qh=> ?_);refine tZ 0 56 ?_;refine tZ 1 57 ?_;refine tZ 2 58 ?_;refine tZ 3 59 ?_;refine tZ 4 60 ?_;refine tZ 5 61 ?_;refine tZ 6 62 ?_;refine tZ 7 63 ?_;refine zD ?_;clear qh;obtain⟨W4,Hl⟩:∃W4,W3.drew=W4:=⟨_,rfl⟩;have Hk:Hid (IL w W4 u5 u6 sb qr qf qt sa):=by rw [<- Hl];exact hid Hb.out.drew
       go_wp2_with fail;try rw [Hl]
       try clear Hl
       go_roundw;case rel=>exact⟨k+1,Hn,by go_num,by rw [Ho.out,Hs.out,Ht.out];exact Hk⟩
       case measure=>simp [intOf];omega
  ·obtain rfl:k=n:=by omega
   have Ga:=Gd.out k zL;generalize H5:st k=sk at*;obtain⟨sb,⟨qr,qf,qt⟩,sa⟩:=sk;simp only at Hh Ga;have c0:=Hh.out.c0;have c1:=Hh.out.c1;have c2:=Hh.out.c2;have zr:=Hh.out.sz;clear H5 Hu;go_wp2_with (at_builtin;refine wpList_app_at rfl _ _ 24 rfl (w.heap.size+1) 96 i0 _ 3 24 Tryz.underlying24 hi H6 H7 H8 rfl (by decide) _ _ _ rfl (World.ownsRow.alloc Hh.out.b _) ⟨wr.heap.size,0,none⟩ 1 1 [.int .i64 qr,.int .i64 qf,.int .i64 qt] rfl rfl ?o1 ?o2 ?o3 ?o4 ?o5 ?_);try (case o1=>exact cell_three_new _ _ _ _ _)
   case o2=>first|exact⟨rfl,rfl,rfl⟩|(intro u hu;simp at hu;rcases hu with rfl|rfl|rfl<;>rfl)
   case o3=>unfold maxLen;omega
   case o4=>omega
   case o5=>first|omega|(simp;omega)
   intro v7 w7 Hd Hi Hc;have Hf:=hid ((Hh.out.below (zO _ _)).app5 (qr,qf,qt) Hd Hi (by simpa using Hc));clear Hd Hi Hc c0 c1 c2 Hh;have Gb:=Hf.out.na;have Gk:=hid Hf.out.a;have Gy:=Hf.out.sz;rcases Hf.out.a.2 with ⟨e,_⟩|⟨g6,c6,Gt,e,_,_,Gx,Gu,_,_⟩
   ·rw [e] at Gb;exact absurd rfl Gb
   subst e;unfold maxLen at Gu;have Gn:Hid (∀j u,(fCells sa)[j]? =some u ->w7.cell? ((⟨g6,0,none⟩:Addr).add j)=some u):=hid (World.ownsRow.cells Gk.out rfl);clear Gb;go_wp2_with (at_builtin;refine wpList_app_at rfl _ _ 24 rfl (w.heap.size+1) 96 i0 _ 3 24 Tryz.underlying24 hi H6 H7 H8 rfl (by decide) v7 (sb++[(qr,qf,qt)]).length (fCells (sb++[(qr,qf,qt)])) rfl Hf.out.b ⟨g6,0,none⟩ sa.length c6 (fCells sa) rfl (fCells_len sa) Gn.out (fCells_one sa) ?r3 ?r4 ?r5 ?_);case r3=>unfold maxLen;simp;omega
   case r4=>simp;omega
   case r5=>omega
   intro v8 w8 Hq H3 H4;have Gm:Hid (Below w.heap.size w w8):=hid (Hf.out.bel.grown H3 (by omega) (fun k hk=>by have:=(World.ownsRow.lt Hf.out.b k hk).1;omega));have Go:Hid (FR w8 w.heap.size v8 (sb++[(qr,qf,qt)]++sa)):=by
    refine hid ?_;unfold FR;rw [fCells_append,List.length_append,show (sb++[(qr,qf,qt)]).length=sb.length+1 from by simp];obtain⟨q1,q2⟩:=Hq;refine⟨q1,q2.imp id ?_⟩;rintro⟨g,Gr,Gs,e,hg,r⟩;exact⟨g,Gr,Gs,e,by omega,r⟩
   clear Hq H3 H4;go_wp2_with fail;go_ret;exact⟨v8,rfl,by rw [HE.out];exact Go.out,Gm.out⟩
theorem specIns (a:Option Addr)(c:Nat)(l:List Rn)(rr rf rt:Int)(w:World)(hn:l.length<=100000)(h:FS w a l)(hl:FSrt l)(hr:Rok (rr,rf,rt)):
  Calls Tryz.prog 46 #[.slice a l.length c,.agg #[.int .i64 rr,.int .i64 rf,.int .i64 rt]] w fun e w'=>∃v,e=.returned v/\ FR w' w.heap.size v (ins l (rr,rf,rt))/\ Below w.heap.size w w':=specInsG a c l rr rf rt w hn h (fun p hp=>(hl.2 p hp).bnd) hr.bnd
theorem GrpAt.size_le {w:World}{bm n:Nat}{D:DataW Value}{G:Int ->Value}{L:Int ->List (Int×Int)}(h:GrpAt w bm n D G L):Maps.size D<=n:=h.own.size_le
def unL (R F T:Nat ->Int)(n:Nat)(R' F' T':Nat ->Int)(n':Nat):List Rn:=unF (flat R F T n) (flat R' F' T' n')
theorem ins_len (l:List Rn)(r:Rn):(ins l r).length<=l.length+1:=by
 have:=stK_len l r l.length zL;rw [stK_all] at this;unfold ins;simp only [List.length_append,List.length_singleton];omega
theorem unF_len:∀(b l:List Rn),(unF l b).length<=l.length+b.length
 | [],l=>by simp [unF]
 | q::b,l=>by
  have h1:=unF_len b (ins l q);have h2:=ins_len l q;show (unF (ins l q) b).length<=_;simp only [List.length_cons];omega
theorem unF_snoc (l b:List Rn)(q:Rn):unF l (b++[q])=ins (unF l b) q:=by simp [unF]
theorem flatR_len (R F T:Nat ->Int)(n:Nat):(flat R F T n).length=n:=by simp [flat]
theorem flat_at (R F T:Nat ->Int)(n i:Nat)(h:i<n):gR (flat R F T n) i=(R i,F i,T i):=by simp [gR,flat,List.getD,h]
theorem fCells_at (l:List Rn)(j:Nat)(u:Value)(h:(fCells l)[j]? =some u):j/3<l.length/\ ((j%3=0/\ u=.int .i64 (gR l (j/3)).1) \/(j%3=1/\ u=.int .i64 (gR l (j/3)).2.1) \/(j%3=2/\ u=.int .i64 (gR l (j/3)).2.2)):=by
 induction l generalizing j with
 | nil=>simp [fCells] at h
 | cons a l ih=>
  have e:fCells (a::l)=.int .i64 a.1::.int .i64 a.2.1::.int .i64 a.2.2::fCells l:=by simp [fCells]
  rw [e] at h;match j,h with
  | 0,h=>simp at h;simp [gR,h]
  | 1,h=>simp at h;simp [gR,h]
  | 2,h=>simp at h;simp [gR,h]
  | j+3,h=>
   have h:(fCells l)[j]? =some u:=by simpa using h
   obtain⟨h1,h2⟩:=ih j h;have e1:(j+3)/3=j/3+1:=by omega
   have e2:(j+3)%3=j%3:=by omega
   rw [e1,e2];refine⟨by simp;omega,?_⟩;simpa [gR] using h2
theorem rseg_cells {w:World}{g off n:Nat}{R F T:Nat ->Int}(h:RSeg w (some ⟨g,off,none⟩) n R F T):∀j u,(fCells (flat R F T n))[j]? =some u ->w.cell? ((⟨g,off,none⟩:Addr).add j)=some u:=by
 intro j u hj;obtain⟨h1,h2⟩:=fCells_at _ j u hj;rw [flatR_len] at h1;obtain⟨b,o,e,hb,c0,c1,c2⟩:=h.at h1;injection e with e;injection e with e3 e4;subst e3 e4;rw [flat_at _ _ _ _ _ h1] at h2;have ej:j=j/3*3+j%3:=by omega
 rcases h2 with ⟨q,rfl⟩|⟨q,rfl⟩|⟨q,rfl⟩
 ·rw [Addr.add_lit,show off+j=off+j/3*3 from by omega];exact c0
 ·rw [Addr.add_lit,show off+j=off+j/3*3+1 from by omega];exact c1
 ·rw [Addr.add_lit,show off+j=off+j/3*3+2 from by omega];exact c2
theorem FR.weak {w:World}{B C:Nat}{v:Value}{l:List Rn}(h:FR w B v l)(hc:C<=B):FR w C v l:=by
 obtain⟨q1,q2⟩:=h;refine⟨q1,q2.imp id ?_⟩;rintro⟨g,Ha,Hb,e,hg,r⟩;exact⟨g,Ha,Hb,e,by omega,r⟩
theorem run_app_nil {P:Program}(w:World)(t ty e:TypeId)(i:TypeInfo)(ht:P.underlying t=some (.slice e))(hi:P.info? e=some i)(base:Option Addr)(n cap c':Nat)(h:n<=cap):
  (Builtin.append_ #[t,t] ty #[.slice base n cap,.slice none 0 c']).run P w=.ok (.slice base n cap) w:=by
 cases base<;>simp [Builtin.append_,run_underlying ht,sizeOf,typeInfo,hi,Builtin.lenOf,Builtin.firstCells,storeCells,loadCells,loadCellsFrom,h,Result.andThen]
theorem wpList_app_nl {P:Program}{w:World}{ops:Array Oper}{rest:List Oper}{o:Oper}{a:Act}{Q:Exit ->Act ->World ->Prop}(hgd:o.guard=none)(s x:Operand)(t:TypeId)
  (ho:o.op=.call {callee:=.builtin .append,args:=#[s,x],argTypes:=#[t,t]})
  (base:Nat) (e:TypeId) (i:TypeInfo) (z:Value) (size bytes:Nat) (ht:P.underlying t=some (.slice e)) (hi:P.info? e=some i) (hz:i.zero=some z)
  (hsize:i.size=size) (hby:i.bytes=bytes) (hzs:z.cells.size=size) (hsz:0<size)
  (v:Value) (n:Nat) (xs:List Value) (hs:a.eval s=v) (hown:w.ownsRow base e size v n xs)
  (ad:Option Addr) (m c:Nat) (news:List Value) (hx:a.eval x=.slice ad m c) (hl:news.length=m*size) (hnews:m=0 \/∃b,ad=some b/\∀j u,news[j]? =some u ->w.cell? (b.add j)=some u) (h1:∀u∈news,u.oneCell'=true)
  (h63:n+m<=maxLen) (hbytes:(n+m)*bytes<=140737488355328) (hbase:base<=w.heap.size)
  (h:∀v' w',w'.ownsRow base e size v' (n+m) (xs++news) ->w.grownBy w' v.ownBlock ->(v'.ownBlock=v.ownBlock \/v'.ownBlock=some w.heap.size) ->wpList P ops Q rest (a.put o.dst v') w'):wpList P ops Q (o::rest) a w:=by
 rcases ad with _|b
 ·obtain rfl:m=0:=by
   rcases hnews with h0|⟨_,e,_⟩
   ·exact h0
   ·cases e
  obtain rfl:news=[]:=List.length_eq_zero_iff.1 (by omega);obtain⟨b,Ha,e1,Hb⟩:∃b Ha,v=.slice b n Ha/\ n<=Ha:=by
   rcases hown.2 with ⟨e,e0⟩|⟨g,Ha,Hd,e,_,_,Hc,_⟩
   ·exact⟨none,0,by rw [e,e0],by omega⟩
   ·exact⟨_,Ha,e,Hc⟩
  refine wpList_plain hgd fun _ hK=> ?_;unfold Oper.wp execOp;rw [e1] at hs;simp only [ho,resolve,invoke,builtin,Sem.run_bind,Sem.run_pure,Result.andThen_ok,List.map_toArray,List.map_cons,List.map_nil,hs,hx,run_app_nil w _ _ _ i ht hi b n Ha c Hb];refine hK _ _ (h _ _ ?_ ⟨rfl,rfl,rfl,Nat.le_refl _,fun _ _ _=>rfl⟩ (.inl (by rw [e1])));rw [List.append_nil,<- e1];exact hown
 ·refine wpList_app_at hgd s x t ho base e i z size bytes ht hi hz hsize hby hzs hsz v n xs hs hown b m c news hx hl ?_ h1 h63 hbytes hbase h;rcases hnews with h0|⟨b',e,hc⟩
  ·subst h0;obtain rfl:news=[]:=List.length_eq_zero_iff.1 (by omega);intro j u hj;simp at hj
  ·injection e with e;subst e;exact hc
theorem specUnion2 (a:Option Addr)(n c:Nat)(R F T:Nat ->Int)(a':Option Addr)(n' c':Nat)(R' F' T':Nat ->Int)(w:World)(hn:n<=1000)(hn':n'<=1000)(h:RSeg w a n R F T)(h':RSeg w a' n' R' F' T')(ho:okTo R F T n)(ho':okTo R' F' T' n'):
  Calls Tryz.prog 48 #[.agg #[.slice a n c],.agg #[.slice a' n' c']] w fun e w'=>∃v,e=.returned (.agg #[v])/\ FR w' w.heap.size v (unL R F T n R' F' T' n')/\ Below w.heap.size w w':=by
 obtain⟨i0,hi,Gj,Gk,Gl⟩:=info_parts Tryz.infoRun;obtain⟨uk,Hg⟩:∃uk:Nat ->List Rn,(fun k=>unF (flat R F T n) (flat R' F' T' k))=uk:=⟨_,rfl⟩;have Hu:Hid (uk 0=flat R F T n):=by rw [<- Hg];exact hid rfl
 have Gg:Hid (∀k,uk (k+1)=ins (uk k) (R' k,F' k,T' k)):=by rw [<- Hg];exact hid fun k=>by show unF _ (flat R' F' T' (k+1))=_;rw [flat_succ,unF_snoc]
 have Gd:Hid (uk n'=unL R F T n R' F' T' n'):=by rw [<- Hg];exact hid rfl
 have Gf:Hid (∀k,(uk k).length<=n+k):=by rw [<- Hg];exact hid fun k=>by have:=unF_len (flat R' F' T' k) (flat R F T n);rw [flatR_len,flatR_len] at this;exact this
 have Ge:Hid (∀k,k<=n' ->FSrt (uk k)):=by rw [<- Hg];exact hid fun k hk=>(unF_ok _ _ (flat_srt n ho) (flat_srt k (fun i hi=>ho' i (by omega))).2).1
 have Gc:Hid (∀k,k<n' ->Rok (R' k,F' k,T' k)):=hid fun k hk=>runOk_iff.1 (ho' k hk).1;have Ho:=hid (flatR_len R F T n);have Hm:Hid (n=0 \/∃g Hl,a=some ⟨g,Hl,none⟩/\ g<w.heap.size/\∀j u,(fCells (flat R F T n))[j]? =some u ->w.cell? ((⟨g,Hl,none⟩:Addr).add j)=some u):=by
  rcases Nat.eq_zero_or_pos n with h0|h0
  ·exact hid (.inl h0)
  ·obtain⟨b,o,e,hb,_⟩:=h.at h0;rw [e] at h;exact hid (.inr ⟨b,o,e,hb,rseg_cells h⟩)
 clear Hg ho ho';obtain⟨fa,Hy⟩:∃fa,flat R F T n=fa:=⟨_,rfl⟩;rw [Hy] at Hu Ho Hm;clear Hy;obtain⟨W0,Hw⟩:∃W0,((w.alloc (.cells #[.slice a n c] 26)).alloc (.cells #[.slice a' n' c'] 26)).alloc (.cells #[.slice none 0 0] 26)=W0:=⟨_,rfl⟩;obtain⟨Wa,Hf⟩:∃Wa,(w.alloc (.cells #[.slice a n c] 26)).alloc (.cells #[.slice a' n' c'] 26)=Wa:=⟨_,rfl⟩;have za:Wa.heap.size=w.heap.size+2:=by rw [<- Hf];simp
 have Hv:Below w.heap.size w Wa:=by rw [<- Hf];exact below2 _ _ _
 have H0:Wa.cell? ⟨w.heap.size,0,none⟩=some (.slice a n c):=by rw [<- Hf];simp
 have H1:Wa.cell? ⟨w.heap.size+1,0,none⟩=some (.slice a' n' c'):=by rw [<- Hf];simp
 have Hb:Wa.alloc (.cells #[.slice none 0 0] 26)=W0:=by rw [<- Hf];exact Hw
 have Hj:Below Wa.heap.size Wa W0:=by rw [<- Hb];exact zO _ _
 have H2:Hid (Below w.heap.size w W0):=hid (keepS Hv Hj);have Hc:Hid (W0.heap.size=w.heap.size+3):=hid (by rw [<- Hb];simp;omega);have x0:W0.cell? ⟨w.heap.size,0,none⟩=some (.slice a n c):=(Hj.cell (p:=⟨w.heap.size,0,none⟩) (show w.heap.size<Wa.heap.size by omega)).trans H0;have x1:W0.cell? ⟨w.heap.size+1,0,none⟩=some (.slice a' n' c'):=(Hj.cell (p:=⟨w.heap.size+1,0,none⟩) (show w.heap.size+1<Wa.heap.size by omega)).trans H1;have x2:W0.cell? ⟨w.heap.size+1+1,0,none⟩=some (.slice none 0 0):=by rw [<- Hb,show w.heap.size+1+1=Wa.heap.size from by omega];simp
 have y2:W0.frozen? ⟨w.heap.size+1+1,0,none⟩=false:=by rw [<- Hb,show w.heap.size+1+1=Wa.heap.size from by omega];simp
 clear Hf H0 H1 Hb Hj Hv za;have Ga:=hid h';have H6:Hid (∀w1,Below w.heap.size w w1 ->n=0 \/∃ad,a=some ad/\∀j u,(fCells fa)[j]? =some u ->w1.cell? (ad.add j)=some u):=by
  refine hid fun w1 hb=> ?_;rcases Hm.out with h0|⟨g,Hl,e,hg,hc⟩
  ·exact .inl h0
  ·refine .inr ⟨_,e,fun j u hj=> ?_⟩;have h1:=hc j u hj;rw [Addr.add_lit] at h1 ⊢;exact(hb.cell (p:=⟨g,Hl+j,none⟩) hg).trans h1
 clear h h' Hm;obtain⟨W1,Hp⟩:∃W1,W0.alloc (.cells #[] 96)=W1:=⟨_,rfl⟩;have b1:Below W0.heap.size W0 W1:=by rw [<- Hp];exact zO _ _
 have u0:=(b1.cell (p:=⟨w.heap.size,0,none⟩) (show w.heap.size<W0.heap.size by have:=Hc.out;omega)).trans x0;have u1:=(b1.cell (p:=⟨w.heap.size+1,0,none⟩) (show w.heap.size+1<W0.heap.size by have:=Hc.out;omega)).trans x1;have u2:=(b1.cell (p:=⟨w.heap.size+1+1,0,none⟩) (show w.heap.size+1+1<W0.heap.size by have:=Hc.out;omega)).trans x2;have v2:=((bcell b1).2 (w.heap.size+1+1) 0 (by have:=Hc.out;omega)).trans y2;have Gb:Hid (W1.ownsRow (w.heap.size+3) 96 3 (.slice (some ⟨W0.heap.size,0,none⟩) 0 0) 0 []):=by
  rw [<- Hp];exact hid (World.ownsRow_lit (base:=w.heap.size+3) (e:=96) (size:=3) W0 #[] 0 (by have:=Hc.out;omega) (by unfold maxLen;omega) rfl)
 have Ht:=hid (keepS H2.out b1);have Hi:Hid (w.heap.size+3<=W1.heap.size):=hid (by have:=b1.size;have:=Hc.out;omega);clear b1 x0 x1 x2 y2;go_enter Tryz.func48,Tryz.ntmps48;go_wp2_with (at_builtin;refine wpList_app_nl rfl _ _ 24 rfl (w.heap.size+3) 96 i0 _ 3 24 Tryz.underlying24 hi Gj Gk Gl rfl (by decide) (.slice (some ⟨W0.heap.size,0,none⟩) 0 0) 0 [] rfl Gb.out a n c (fCells fa) rfl ?c1 (H6.out W1 Ht.out) (fCells_one fa) ?c4 ?c5 Hi.out ?_);case c1=>rw [fCells_len,Ho.out]
 case c4=>unfold maxLen;omega
 case c5=>omega
 intro v3 w3 Hd Ha Hh;have Hk:∀q,q<w.heap.size+3 ->some q≠(Value.slice (some ⟨W0.heap.size,0,none⟩) 0 0).ownBlock:=fun q hq e=>by
  have:=Hc.out;simp [Value.ownBlock] at e;omega
 have z3:w.heap.size+3<=w3.heap.size:=by have:=Ha.size;have:=Hi.out;omega
 have d1:=Ha.cell u1 (Hk (w.heap.size+1) (by omega));have d2:=Ha.cell u2 (Hk (w.heap.size+1+1) (by omega));have k2:w3.frozen? ⟨w.heap.size+1+1,0,none⟩=false:=(World.frozen?_of_block (Ha.block (w.heap.size+1+1) (by have:=Hi.out;omega) (Hk _ (by omega)))).trans v2;have H7:Hid (FR w3 (w.heap.size+3) v3 (uk 0)):=by
  rw [Hu.out];unfold FR;rw [Ho.out];have h1:=Hd;exact hid h1
 have H3:Hid (Below w.heap.size w w3):=hid (Ht.out.grown Ha (by have:=Hi.out;omega) (fun k hk=>by have:=Hc.out;simp [Value.ownBlock] at hk;omega));clear Hd Ha Hh u0 u1 u2 v2 Hp Hw Hk;go_wp2_with fail;go_loopw [5,6] (fun u5 iv wr=>∃(k:Nat),k<=n'/\ iv=.int .i64 k/\ Hid (FR wr (w.heap.size+3) u5 (uk k))/\ wr.cell? ⟨w.heap.size+1,0,none⟩=some (.slice a' n' c')/\ wr.cell? ⟨w.heap.size+1+1,0,none⟩=some (.slice none 0 0)/\ wr.frozen? ⟨w.heap.size+1+1,0,none⟩=false/\ Hid (Below w.heap.size w wr)/\ w.heap.size+3<=wr.heap.size) (fun _ iv _=>n' - (intOf iv).toNat);case atStart=>exact⟨0,Nat.zero_le _,rfl,H7,d1,d2,k2,H3,z3⟩
 case round=>
  clear d1 d2 k2 z3;obtain⟨k,hk,rfl,Hq,e1,e2,j2,He,zr⟩:=hrel;by_cases Hs:k<n'
  ·obtain⟨gb,ob,rfl,Gm,q0,q1,q2⟩:=(Ga.out.below He.out).at Hs;obtain⟨x,cc,rfl,Hz,Gh,Gi⟩:=Hq.out.fs;have Gn:=Gf.out k;have HC:=hid (specIns x cc (uk k) (R' k) (F' k) (T' k) wr (by omega) Hz (Ge.out k hk) (Gc.out k Hs));have HN:=hid (Gg.out k);obtain⟨ln,Hr⟩:∃ln,(uk k).length=ln:=⟨_,rfl⟩;rw [Hr] at HC;clear Hz;go_wp2_with fail;try rw [Hr]
   refine HC.out.mono ?_;rintro e w4 ⟨v4,rfl,Hx,b4⟩;have H8:Hid (FR w4 (w.heap.size+3) v4 (uk (k+1))):=by rw [HN.out];exact hid (Hx.weak zr)
   have r1:=(b4.cell (p:=⟨w.heap.size+1,0,none⟩) (show w.heap.size+1<wr.heap.size by omega)).trans e1;have r2:=(b4.cell (p:=⟨w.heap.size+1+1,0,none⟩) (show w.heap.size+1+1<wr.heap.size by omega)).trans e2;have s2:=((bcell b4).2 (w.heap.size+1+1) 0 (by omega)).trans j2;have H4:=hid (keepS He.out b4);have z4:=b4.size;clear Hx b4 e1 e2 j2 q0 q1 q2 Hr;go_wp2_with fail;go_roundw;case rel=>exact⟨k+1,Hs,by go_num,H8,r1,r2,s2,H4,by omega⟩
   case measure=>simp [intOf];omega
  ·obtain rfl:k=n':=by omega
   have Hn:Hid (FR wr (w.heap.size+3) u5 (unL R F T n R' F' T' k)):=by rw [<- Gd.out];exact Hq
   obtain⟨y,m,cv,rfl⟩:=row_form Hn.out;have H9:Hid (FR (wr.setCell ⟨w.heap.size+1+1,0,none⟩ (.slice y m cv)) w.heap.size (.slice y m cv) (unL R F T n R' F' T' k)):=by
    refine hid ?_;refine World.ownsRow.kept (Hn.out.weak (by omega)) (grownSet wr ⟨w.heap.size+1+1,0,none⟩ _) ?_;cases e:(Value.slice y m cv).ownBlock with
    | none=>exact .inl rfl
    | some g=>exact .inr (fun e2=>by have:=(World.ownsRow.lt Hn.out g e).1;injection e2 with e2;have e2:g=w.heap.size+1+1:=e2;omega)
   have H5:Hid (Below w.heap.size w (wr.setCell ⟨w.heap.size+1+1,0,none⟩ (.slice y m cv))):=hid (He.out.setCell (p:=⟨w.heap.size+1+1,0,none⟩) (by show w.heap.size<=w.heap.size+1+1;omega) _);have k6:=World.cell?_setCell_same wr ⟨w.heap.size+1+1,0,none⟩ (.slice y m cv) e2;clear Hq;go_wp2_with fail;refine zF (v:=.agg #[.slice y m cv]) (by simp [results,Tryz.results48,go_sem,k6]) ⟨_,rfl,H9.out,H5.out⟩
def gS (p:List ByteArray)(i:Nat):ByteArray:=p.getD i ByteArray.empty
def SSeg (w:World)(a:Option Addr)(p:List ByteArray):Prop:=
 p.length=0 \/∃b off,a=some ⟨b,off,none⟩/\ b<w.heap.size/\∀i,i<p.length ->w.cell? ⟨b,off+i,none⟩=some (.string (gS p i))
theorem SSeg.kept {w w1:World}{B:Nat}{a:Option Addr}{p:List ByteArray}(h:SSeg w a p)(hb:Below B w w1)(hB:w.heap.size<=B):SSeg w1 a p:=by
 refine h.imp id ?_;rintro⟨b,Hb,e,Ha,hc⟩;exact⟨b,Hb,e,Nat.lt_of_lt_of_le Ha hb.size,fun i hi=>(hb.cell (p:=⟨b,Hb+i,none⟩) (Nat.lt_of_lt_of_le Ha hB)).trans (hc i hi)⟩
theorem SSeg.below {w w1:World}{a:Option Addr}{p:List ByteArray}(h:SSeg w a p)(hb:Below w.heap.size w w1):SSeg w1 a p:=h.kept hb zL
structure Lf where
 p:List ByteArray
 fl:Bool
 r:Int
 q:Int
 v:ByteArray
def gL (l:List Lf)(i:Nat):Lf:=l.getD i ⟨[],false,0,0,ByteArray.empty⟩
def LSeg (w:World)(a:Option Addr)(l:List Lf):Prop:=
 l.length=0 \/∃b off,a=some ⟨b,off,none⟩/\ b<w.heap.size/\∀i,i<l.length ->∃pa pc,w.cell? ⟨b,off+i*5,none⟩=some (.slice pa (gL l i).p.length pc)/\ SSeg w pa (gL l i).p/\ w.cell? ⟨b,off+i*5+1,none⟩=some (.bool (gL l i).fl)/\ w.cell? ⟨b,off+i*5+2,none⟩=some (.int .i64 (gL l i).r)/\ w.cell? ⟨b,off+i*5+3,none⟩=some (.int .i64 (gL l i).q)/\ w.cell? ⟨b,off+i*5+4,none⟩=some (.string (gL l i).v)
theorem LSeg.below {w w1:World}{a:Option Addr}{l:List Lf}(h:LSeg w a l)(hb:Below w.heap.size w w1):LSeg w1 a l:=by
 refine h.imp id ?_;rintro⟨b,Hb,e,Ha,hc⟩;refine⟨b,Hb,e,Nat.lt_of_lt_of_le Ha hb.size,fun i hi=> ?_⟩;obtain⟨pa,pc,c0,s,c1,c2,c3,c4⟩:=hc i hi;have q:=fun o=>hb.cell (p:=⟨b,o,none⟩) Ha;exact⟨pa,pc,(q _).trans c0,s.below hb,(q _).trans c1,(q _).trans c2,(q _).trans c3,(q _).trans c4⟩
def LfI (x:Lf):Prop:=(Lit.int .i64 x.r).wf=true/\ (Lit.int .i64 x.q).wf=true
theorem addr_addP (b off j:Nat):(⟨b,off,none⟩:Addr).add j=⟨b,off+j,none⟩:=by
 by_cases hj:j=0
 ·subst hj;rfl
 ·simp [Addr.add,hj]
def LBd (l:List Lf):Prop:=∀i,(gL l i).p.length<=1048576
theorem gS_far {p:List ByteArray}{i:Nat}(h:p.length<=i):gS p i=ByteArray.empty:=by simp [gS,List.getD,List.getElem?_eq_none h]
theorem infoStr:(Tryz.prog.info? 9).map (fun i=>(i.zero,i.size,i.bytes))=some (some (.string ByteArray.empty),1,16):=by kernel_rfl
structure Bx5 (w:World)(b:Nat)(v0 v1 v2 v3 v4:Value):Prop where
 c0:w.cell? ⟨b,0,none⟩=some v0
 c1:w.cell? ⟨b,1,none⟩=some v1
 c2:w.cell? ⟨b,2,none⟩=some v2
 c3:w.cell? ⟨b,3,none⟩=some v3
 c4:w.cell? ⟨b,4,none⟩=some v4
 f:∀i,w.frozen? ⟨b,i,none⟩=false
 lt:b<w.heap.size
theorem Bx5.below {w w':World}{B b:Nat}{v0 v1 v2 v3 v4:Value}(h:Bx5 w b v0 v1 v2 v3 v4)(hb:Below B w w')(hB:b<B):Bx5 w' b v0 v1 v2 v3 v4:=
 ⟨(hb.cell (p:=⟨b,0,none⟩) hB).trans h.c0,(hb.cell (p:=⟨b,1,none⟩) hB).trans h.c1,(hb.cell (p:=⟨b,2,none⟩) hB).trans h.c2,(hb.cell (p:=⟨b,3,none⟩) hB).trans h.c3,(hb.cell (p:=⟨b,4,none⟩) hB).trans h.c4,fun i=>(hb.frozen (p:=⟨b,i,none⟩) hB).trans (h.f i),Nat.lt_of_lt_of_le h.lt hb.size⟩
theorem Bx5.setAt {w:World}{b:Nat}{v0 v1 v2 v3 v4:Value}(h:Bx5 w b v0 v1 v2 v3 v4)(q:Addr)(u:Value)(hq:q.block≠b):Bx5 (w.setCell q u) b v0 v1 v2 v3 v4:=
 ⟨by rw [World.cell?_setCell_far _ _ _ _ hq];exact h.c0,by rw [World.cell?_setCell_far _ _ _ _ hq];exact h.c1,by rw [World.cell?_setCell_far _ _ _ _ hq];exact h.c2,by rw [World.cell?_setCell_far _ _ _ _ hq];exact h.c3,by rw [World.cell?_setCell_far _ _ _ _ hq];exact h.c4,fun i=>by rw [World.frozen?_setCell];exact h.f i,by simp [World.setCell];exact h.lt⟩
theorem Bx5.set0 {w:World}{b:Nat}{v0 v1 v2 v3 v4:Value}(h:Bx5 w b v0 v1 v2 v3 v4)(u:Value):Bx5 (w.setCell ⟨b,0,none⟩ u) b u v1 v2 v3 v4:=
 ⟨World.cell?_setCell_same _ _ _ h.c0,by simp [World.cell?_setCell_other,h.c1],by simp [World.cell?_setCell_other,h.c2],by simp [World.cell?_setCell_other,h.c3],by simp [World.cell?_setCell_other,h.c4],fun i=>by rw [World.frozen?_setCell];exact h.f i,by simp [World.setCell];exact h.lt⟩
theorem Bx5.set1 {w:World}{b:Nat}{v0 v1 v2 v3 v4:Value}(h:Bx5 w b v0 v1 v2 v3 v4)(u:Value):Bx5 (w.setCell ⟨b,1,none⟩ u) b v0 u v2 v3 v4:=
 ⟨by simp [World.cell?_setCell_other,h.c0],World.cell?_setCell_same _ _ _ h.c1,by simp [World.cell?_setCell_other,h.c2],by simp [World.cell?_setCell_other,h.c3],by simp [World.cell?_setCell_other,h.c4],fun i=>by rw [World.frozen?_setCell];exact h.f i,by simp [World.setCell];exact h.lt⟩
theorem infoLeaf:(Tryz.prog.info? 60).map (fun i=>(i.zero,i.size,i.bytes))=some (some (.agg #[.slice none 0 0,.bool false,.int .i64 0,.int .i64 0,.string ByteArray.empty]),5,64):=by kernel_rfl
def LCap (w:World)(a:Option Addr)(l:List Lf):Prop:=
 l.length=0 \/∃b off,a=some ⟨b,off,none⟩/\ b<w.heap.size/\∀i,i<l.length ->∃pa pc,(w.cell? ⟨b,off+i*5,none⟩=some (.slice pa (gL l i).p.length pc)/\ (gL l i).p.length<=pc/\ pc<=9223372036854775807)/\ SSeg w pa (gL l i).p/\ w.cell? ⟨b,off+i*5+1,none⟩=some (.bool (gL l i).fl)/\ w.cell? ⟨b,off+i*5+2,none⟩=some (.int .i64 (gL l i).r)/\ w.cell? ⟨b,off+i*5+3,none⟩=some (.int .i64 (gL l i).q)/\ w.cell? ⟨b,off+i*5+4,none⟩=some (.string (gL l i).v)
theorem LCap.below {w w1:World}{a:Option Addr}{l:List Lf}(h:LCap w a l)(hb:Below w.heap.size w w1):LCap w1 a l:=by
 refine h.imp id ?_;rintro⟨b,Hb,e,Ha,hc⟩;refine⟨b,Hb,e,Nat.lt_of_lt_of_le Ha hb.size,fun i hi=> ?_⟩;obtain⟨pa,pc,⟨c0,d0⟩,s,c1,c2,c3,c4⟩:=hc i hi;have q:=fun o=>hb.cell (p:=⟨b,o,none⟩) Ha;exact⟨pa,pc,⟨(q _).trans c0,d0⟩,s.below hb,(q _).trans c1,(q _).trans c2,(q _).trans c3,(q _).trans c4⟩
theorem LCap.seg {w:World}{a:Option Addr}{l:List Lf}(h:LCap w a l):LSeg w a l:=by
 refine h.imp id ?_;rintro⟨b,Hb,e,Ha,hc⟩;refine⟨b,Hb,e,Ha,fun i hi=> ?_⟩;obtain⟨pa,pc,⟨c0,_⟩,s,c1,c2,c3,c4⟩:=hc i hi;exact⟨pa,pc,c0,s,c1,c2,c3,c4⟩
end Go.Proofs.YtfidfeilljlbiaaGreat
