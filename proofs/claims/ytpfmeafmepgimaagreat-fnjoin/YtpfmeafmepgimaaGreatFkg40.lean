import Derived.Test.YtpfmeafmepgimaaGreatFkg39
import Derived.Test.YtpfmeafmepgimaaGreatFkg30
import Derived.Test.YtpfmeafmepgimaaGreatFkg28
import Derived.Deep.CutRange
import Derived.Deep.QuietTactic
import Derived.BigQuiet
set_option linter.unusedVariables false
set_option linter.unusedSimpArgs false
set_option maxRecDepth 100000
set_option maxHeartbeats 40000000
namespace Go.Proofs.YtpfmeafmepgimaaGreat
open Go.ChangeShapes Go.WideShapes Go.ChangeAt Go.RowKit Go.Deep
def SNi (w:World)(lo hi:Nat)(a x:Option Addr)(S:Sx):Prop:=hi<=w.heap.size/\∀w':World,w.heap.size<=w'.heap.size ->(∀q,lo<=q ->q<hi ->w'.heap[q]? =w.heap[q]?) ->SCt w' a x S
theorem SNi.at {w:World}{lo hi:Nat}{a x:Option Addr}{S:Sx}(h:SNi w lo hi a x S):SCt w a x S:=h.2 w (Nat.le_refl _) (fun _ _ _=>rfl)
theorem SNi.move {w w1:World}{lo hi:Nat}{a x:Option Addr}{S:Sx}(h:SNi w lo hi a x S)(hs:w.heap.size<=w1.heap.size)(hq:∀q,lo<=q ->q<hi ->w1.heap[q]? =w.heap[q]?):SNi w1 lo hi a x S:=
 ⟨Nat.le_trans h.1 hs,fun w' h1 h2=>h.2 w' (Nat.le_trans hs h1) (fun q q1 q2=>(h2 q q1 q2).trans (hq q q1 q2))⟩
theorem SNc.sni {w:World}{lo:Nat}{a x:Option Addr}{S:Sx}(h:SNc w lo a x S):SNi w lo w.heap.size a x S:=⟨Nat.le_refl _,fun w' h1 h2=>⟨(h w' h1 h2).1,(h w' h1 h2).2⟩⟩
def StR (w:World)(gs:Nat)(X:Nat ->Sx):Prop:=gs<w.heap.size/\∀i,i<3 ->∃a c x d,w.cell? ⟨gs,i*2,none⟩=some (.slice a (X i).l.length c)/\ w.cell? ⟨gs,i*2+1,none⟩=some (.slice x (X i).n d)/\ SCt w a x (X i)
structure JoI (w wr:World)(gj cj m H:Nat)(J:Nat ->Sx)(cs:List Value):Prop where
 low:Below w.heap.size w wr
 row:wr.ownsRow w.heap.size 28 2 (.slice (some ⟨gj,0,none⟩) m cj) m cs
 st:∀k,k<m ->∃a c x d lo hi,cs[k*2]? =some (.slice a (J k).l.length c)/\ cs[k*2+1]? =some (.slice x (J k).n d)/\ SNi wr lo hi a x (J k)/\ (gj<lo \/hi<=gj)/\ hi<=H
 hz:H<=wr.heap.size
structure JoB (w wx:World)(gj cj m H:Nat)(J:Nat ->Sx)(cs:List Value)(bb lo hi:Nat)(a x:Option Addr)(c d:Nat)(Z:Sx):Prop where
 i:JoI w wx gj cj m H J cs
 b:Bx2 wx bb (.slice a Z.l.length c) (.slice x Z.n d)
 s:SNi wx lo hi a x Z
 g:gj<lo \/hi<=gj
 cp:Z.l.length<=c/\ c<=9223372036854775807
section
variable {w wr w1 : World} {gj cj m H : Nat} {J : Nat -> Sx} {cs : List Value}
theorem JoI.move (h:JoI w wr gj cj m H J cs)(hb:Below w.heap.size w w1)(hs:wr.heap.size<=w1.heap.size)(hq:∀q,q<H ->w1.heap[q]? =wr.heap[q]?)(hg:w1.heap[gj]? =wr.heap[gj]?):JoI w w1 gj cj m H J cs:=
 ⟨hb,own_at5 h.row (fun b e=>by rw [<- own_eq e];exact hg),fun k hk=>by
  obtain⟨a,c,x,d,lo,hi,e1,e2,s,g,hh⟩:=h.st k hk;exact⟨a,c,x,d,lo,hi,e1,e2,s.move hs (fun q q1 q2=>hq q (by omega)),g,hh⟩,Nat.le_trans h.hz hs⟩
theorem JoI.lt (h:JoI w wr gj cj m H J cs):w.heap.size<=gj/\ gj<wr.heap.size:=h.row.lt gj rfl
theorem JoI.below (h:JoI w wr gj cj m H J cs)(hb:Below wr.heap.size wr w1):JoI w w1 gj cj m H J cs:=
 h.move (keepS h.low hb) hb.size (fun q hq=>hb.block q (Nat.lt_of_lt_of_le hq h.hz)) (hb.block gj h.lt.2)
theorem JoI.at (h:JoI w wr gj cj m H J cs){k:Nat}(hk:k<m):∃a c x d,∀w1,Below wr.heap.size wr w1 ->w1.cell? ⟨gj,k*2,none⟩=some (.slice a (J k).l.length c)/\ w1.cell? ⟨gj,k*2+1,none⟩=some (.slice x (J k).n d)/\ SCt w1 a x (J k):=by
 obtain⟨a,c,x,d,lo,hi,e1,e2,s,g,hh⟩:=h.st k hk;refine⟨a,c,x,d,fun w1 hb=> ?_⟩;have hl:=h.lt.2;exact⟨(hb.cell (p:=⟨gj,k*2,none⟩) hl).trans ((h.row.cellAt _ (by omega)).trans e1),(hb.cell (p:=⟨gj,k*2+1,none⟩) hl).trans ((h.row.cellAt _ (by omega)).trans e2),s.at.below hb⟩
theorem JoB.below {bb lo hi:Nat}{a x:Option Addr}{c d:Nat}{Z:Sx}(h:JoB w wr gj cj m H J cs bb lo hi a x c d Z)(hb:Below wr.heap.size wr w1):JoB w w1 gj cj m H J cs bb lo hi a x c d Z:=
 ⟨h.i.below hb,h.b.below hb h.b.lt,h.s.move hb.size (fun q _ q2=>hb.block q (Nat.lt_of_lt_of_le q2 h.s.1)),h.g,h.cp⟩
theorem JoI.box {U cur w5:World}{lo b:Nat}{ja jx:Option Addr}{Z:Sx}(h:JoI w U gj cj m H J cs)(hb:Below U.heap.size U cur)(hx:Bx2 cur b (.slice none 0 0) (.slice none 0 0))(hU:U.heap.size<=b)(sj:SNc w5 lo ja jx Z)(hl:U.heap.size<=lo)(hs:w5.heap.size<=cur.heap.size)(hq:∀q,lo<=q ->q<w5.heap.size ->q≠b/\ cur.heap[q]? =w5.heap[q]?)(jc jd:Nat)(hc:Z.l.length<=jc/\ jc<=9223372036854775807):
  Below U.heap.size U ((cur.setCell ⟨b,0,none⟩ (.slice ja Z.l.length jc)).setCell ⟨b,1,none⟩ (.slice jx Z.n jd))/\ JoB w ((cur.setCell ⟨b,0,none⟩ (.slice ja Z.l.length jc)).setCell ⟨b,1,none⟩ (.slice jx Z.n jd)) gj cj m H J cs b lo w5.heap.size ja jx jc jd Z:=by
 have hB:Below U.heap.size U ((cur.setCell ⟨b,0,none⟩ (.slice ja Z.l.length jc)).setCell ⟨b,1,none⟩ (.slice jx Z.n jd)):=(hb.setCell (p:=⟨b,0,none⟩) hU _).setCell (p:=⟨b,1,none⟩) hU _;refine⟨hB,h.below hB,hx.set _ _,sj.sni.move (by simpa [World.setCell] using hs) (fun q h1 h2=> ?_),.inl (by have:=h.lt.2;omega),hc⟩;obtain⟨q1,q2⟩:=hq q h1 h2;rw [Below.heap_setCell _ _ _ _ (by simpa using q1),Below.heap_setCell _ _ _ _ (by simpa using q1)];exact q2
theorem infoSt:(Tryz.prog.info? 28).map (fun i=>(i.zero,i.size,i.bytes))=some (some (.agg #[.slice none 0 0,.slice none 0 0]),2,48):=by kernel_rfl
theorem cell2A (w:World)(a b:Value)(t:TypeId):∀j u,[a,b][j]? =some u ->(w.alloc (.cells #[a,b] t)).cell? ((⟨w.heap.size,0,none⟩:Addr).add j)=some u:=by
 intro j u hj;match j,hj with
 | 0,hj=>simp at hj;subst hj;simp [Addr.add]
 | 1,hj=>simp at hj;subst hj;simp [Addr.add]
theorem JoB.app {bb lo hi:Nat}{a x:Option Addr}{c d:Nat}{Z:Sx}(h:JoB w wr gj cj m H J cs bb lo hi a x c d Z)(hm:m<=100):
  ∃q' cap' w3,(Builtin.append_ #[34,34] 34 #[.slice (some ⟨gj,0,none⟩) m cj,.slice (some ⟨wr.heap.size,0,none⟩) 1 1]).run Tryz.prog (wr.alloc (.cells #[.slice a Z.l.length c,.slice x Z.n d] 28))=.ok (.slice (some ⟨q',0,none⟩) (m+1) cap') w3/\∃H' cs',JoI w w3 q' cap' (m+1) H' (fun k=>if k=m then Z else J k) cs':=by
 obtain⟨i0,hi0,hz0,hz1,hz2⟩:=info_parts infoSt;have b2:Below wr.heap.size wr (wr.alloc (.cells #[.slice a Z.l.length c,.slice x Z.n d] 28)):=(Below.refl _ _).alloc (Nat.le_refl _) _;have h2:=h.below b2;have hn:=cell2A wr (.slice a Z.l.length c) (.slice x Z.n d) 28;obtain⟨W2,hW2⟩:∃W2,wr.alloc (.cells #[.slice a Z.l.length c,.slice x Z.n d] 28)=W2:=⟨_,rfl⟩;have zW:W2.heap.size=wr.heap.size+1:=by rw [<- hW2];simp
 rw [hW2] at h2 hn b2 ⊢;have hlw:=h.i.low.size;obtain⟨v',w3,hr,g2,g3,g4,g5⟩:=run_append_own_at (P:=Tryz.prog) W2 w.heap.size 34 34 28 i0 _ 2 48 Tryz.underlying34 hi0 hz0 hz1 hz2 rfl (by decide) (.slice (some ⟨gj,0,none⟩) m cj) m cs h2.i.row ⟨wr.heap.size,0,none⟩ 1 1 [.slice a Z.l.length c,.slice x Z.n d] rfl hn (fun u hu=>by
  simp only [List.mem_cons,List.not_mem_nil,or_false] at hu;rcases hu with e|e<;>rw [e]<;>rfl) (by unfold maxLen;omega) (by omega) (by omega)
 rcases g2.2 with ⟨hv,_⟩|⟨q',cap',cur,hv,r⟩
 ·have:=g4.1 hv;exact absurd this.1 (by simp)
 rw [hv] at hr g2 g5;have hq:q'=gj \/q'=W2.heap.size:=by
  rcases g5 with g5|g5
  ·exact .inl (by simpa [Value.ownBlock] using g5)
  ·exact .inr (by simpa [Value.ownBlock] using g5)
 have hgl:=h.i.lt;have gg:W2.grownBy w3 (some gj):=g3;have hlen:cs.length=m*2:=h.i.row.1;have mv:∀{lo hi:Nat} {a x:Option Addr} {S:Sx},SNi W2 lo hi a x S ->(gj<lo \/hi<=gj) ->SNi w3 lo hi a x S:=fun s g=>s.move gg.size (fun q q1 q2=>gg.block q (by have:=s.1;omega) (fun e=>by injection e with e;omega));have hm2:∀{lo hi:Nat},hi<=wr.heap.size ->(gj<lo \/hi<=gj) ->(q'<lo \/hi<=q'):=fun e g=>by rcases hq with e2|e2<;>omega
 refine⟨q',cap',w3,hr,wr.heap.size,cs++[.slice a Z.l.length c,.slice x Z.n d],(keepS h.i.low b2).grown gg (keepS h.i.low b2).size (fun k e=>by injection e with e;omega),g2,fun k hk=> ?_,by have:=gg.size;omega⟩;by_cases e:k=m
 ·subst e;rw [if_pos rfl];refine⟨a,c,x,d,lo,hi,?_,?_,mv h2.s h.g,hm2 h.s.1 h.g,h.s.1⟩
  ·rw [List.getElem?_append_right (by omega),hlen];simp
  ·rw [List.getElem?_append_right (by omega),hlen,show k*2+1 - k*2=1 by omega];rfl
 ·rw [if_neg e];obtain⟨a',c',x',d',lo',hi',e1,e2,s,g,hh⟩:=h2.i.st k (by omega);have hz:=h.i.hz;refine⟨a',c',x',d',lo',hi',?_,?_,mv s g,hm2 (by omega) g,by omega⟩
  ·rw [List.getElem?_append_left (by omega)];exact e1
  ·rw [List.getElem?_append_left (by omega)];exact e2
end
structure PO (X:Nat ->Sx)(t m:Nat)(J:Nat ->Sx):Prop where
 all:AllJ X t
 inn:∀Y∈chJ X t,∃k,k<m/\ EqS (J k) Y
 vd:∀k,k<m ->Vd (J k)
 bd:m<=2^t
structure PM (X:Nat ->Sx)(t m0:Nat)(J0:Nat ->Sx)(k m:Nat)(J:Nat ->Sx):Prop where
 lo:m0<=m
 hi:m<=m0+k
 pre:∀q,q<m0 ->J q=J0 q
 jb:∀q,q<k ->jnB (J0 q) (X t)=true
 nw:∀q,q<k ->∃k',k'<m/\ EqS (J k') (jnS (J0 q) (X t))
 vd:∀q,q<m ->Vd (J q)
theorem PO.zero (X:Nat ->Sx):PO X 0 1 (fun _=>Sx.mt):=⟨(allJ_0 X).1,(allJ_0 X).2,fun _ _=>mt_vd,by simp⟩
theorem PM.zero {X:Nat ->Sx}{t m:Nat}{J:Nat ->Sx}(h:PO X t m J):PM X t m J 0 m J:=⟨Nat.le_refl _,Nat.le_refl _,fun _ _=>rfl,fun _ h=>absurd h (Nat.not_lt_zero _),fun _ h=>absurd h (Nat.not_lt_zero _),h.vd⟩
theorem PM.old {X:Nat ->Sx}{t m0 k m:Nat}{J0 J:Nat ->Sx}(h:PM X t m0 J0 k m J)(hk:k<m0)(hb:jnB (J k) (X t)=true)(he:∃k',k'<m/\ EqS (J k') (jnS (J k) (X t))):PM X t m0 J0 (k+1) m J:=by
 rw [h.pre k hk] at hb he;refine⟨h.lo,by have:=h.hi;omega,h.pre,fun q hq=> ?_,fun q hq=> ?_,h.vd⟩
 ·by_cases e:q=k
  ·rw [e];exact hb
  ·exact h.jb q (by omega)
 ·by_cases e:q=k
  ·rw [e];exact he
  ·exact h.nw q (by omega)
theorem PM.new {X:Nat ->Sx}{t m0 k m:Nat}{J0 J:Nat ->Sx}(h:PM X t m0 J0 k m J)(hk:k<m0)(hb:jnB (J k) (X t)=true):PM X t m0 J0 (k+1) (m+1) (fun q=>if q=m then jnS (J k) (X t) else J q):=by
 have hlo:=h.lo;have hj:jnB (J0 k) (X t)=true:=by rw [<- h.pre k hk];exact hb
 have up:∀q,q<m ->(if q=m then jnS (J k) (X t) else J q)=J q:=fun q hq=>if_neg (by omega);refine⟨by omega,by have:=h.hi;omega,fun q hq=>by show (if q=m then _ else J q)=_;rw [up q (by omega)];exact h.pre q hq,fun q hq=> ?_,fun q hq=> ?_,fun q hq=> ?_⟩
 ·by_cases e:q=k
  ·rw [e];exact hj
  ·exact h.jb q (by omega)
 ·by_cases e:q=k
  ·refine⟨m,by omega,?_⟩;show EqS (if m=m then _ else J m) _;rw [if_pos rfl,e,h.pre k hk];exact EqS.refl _
  ·obtain⟨k',h1,h2⟩:=h.nw q (by omega);refine⟨k',by omega,?_⟩;show EqS (if k'=m then _ else J k') _;rw [up k' h1];exact h2
 ·show Vd (if q=m then _ else J q);by_cases e:q=m
  ·rw [if_pos e];obtain⟨a,b,f⟩:=jnB_iff.1 hb;exact jn_vd a b f
  ·rw [if_neg e];exact h.vd q (by omega)
theorem PM.done {X:Nat ->Sx}{t m0 m:Nat}{J0 J:Nat ->Sx}(h0:PO X t m0 J0)(h:PM X t m0 J0 m0 m J):PO X (t+1) m J:=by
 obtain⟨a,b⟩:=allJ_step (m':=m) (J':=J) h0.all h0.inn h.jb h.nw h.pre h.lo;exact⟨a,b,h.vd,by have:=h.hi;have:=h0.bd;rw [Nat.pow_succ];omega⟩
def AjQ (X:Nat ->Sx)(w:World)(e:Ending)(w':World):Prop:=(∃b:Bool,e=.returned (.bool b)/\ (b=true ->AllJ X 3))/\ Below w.heap.size w w'
theorem allJoinsC (gs cc:Nat)(X:Nat ->Sx)(w:World)(hX:∀i,i<3 ->(X i).Sm)(h:StR w gs X):
  Calls Tryz.prog 7 #[.slice (some ⟨gs,0,none⟩) 3 cc] w fun e w'=>AjQ X w e w':=by
 have HX:=hid hX;have HS:Hid (∀i,i<3 ->∃a c x d,∀w1,Below w.heap.size w w1 ->w1.cell? ⟨gs,i*2,none⟩=some (.slice a (X i).l.length c)/\ w1.cell? ⟨gs,i*2+1,none⟩=some (.slice x (X i).n d)/\ SCt w1 a x (X i)):=hid (fun i hi=>by
  obtain⟨a,c,x,d,e1,e2,s⟩:=h.2 i hi;exact⟨a,c,x,d,fun w1 hb=>⟨(hb.cell (p:=⟨gs,i*2,none⟩) h.1).trans e1,(hb.cell (p:=⟨gs,i*2+1,none⟩) h.1).trans e2,s.below hb⟩⟩)
 have HE:=hid (l6EmptyJ w);clear hX h;go_enter Tryz.func7,Tryz.ntmps7;go_wp2_with fail;refine HE.out.mono ?_;rintro e w1 ⟨⟨ea,ex,rfl⟩,b1⟩;have HI:Hid (JoI w (w1.alloc (.cells #[.slice ea 0 0,.slice ex 0 0] 28)) w1.heap.size 1 1 0 (fun _=>Sx.mt) [.slice ea 0 0,.slice ex 0 0]/\ PO X 0 1 (fun _=>Sx.mt)):=hid (by
  have b2:Below w1.heap.size w1 (w1.alloc (.cells #[.slice ea 0 0,.slice ex 0 0] 28)):=(Below.refl _ _).alloc (Nat.le_refl _) _;refine⟨⟨keepS b1 b2,?_,fun k hk=> ?_,Nat.zero_le _⟩,PO.zero X⟩
  ·exact World.ownsRow_lit (base:=w.heap.size) (e:=28) (size:=2) w1 #[.slice ea 0 0,.slice ex 0 0] 1 b1.size (by unfold maxLen;omega) rfl
  ·obtain rfl:k=0:=by omega
   exact⟨ea,0,ex,0,0,0,rfl,rfl,⟨Nat.zero_le _,fun w' _ _=>⟨.inl rfl,.inl rfl⟩⟩,.inr (Nat.zero_le _),Nat.le_refl _⟩)
 clear b1 HE;go_wp2_with fail;obtain⟨W2,hW2⟩:∃W2,w1.alloc (.cells #[.slice ea 0 0,.slice ex 0 0] 28)=W2:=⟨_,rfl⟩;rw [hW2] at HI;try rw [hW2]
 clear hW2;obtain⟨g0,hg0⟩:∃g0,w1.heap.size=g0:=⟨_,rfl⟩;rw [hg0] at HI ⊢;clear hg0;go_loopw [3,4] (fun jv iv wr=>∃(t m gj cj H:Nat) (J:Nat ->Sx) (cl:List Value),t<=3/\ m<=8/\ iv=.int .i64 (t:Int)/\ jv=.slice (some ⟨gj,0,none⟩) m cj/\ Hid (JoI w wr gj cj m H J cl/\ PO X t m J)) (fun _ iv _=>3 - (intOf iv).toNat);case atStart=>exact⟨0,1,_,_,_,_,_,by omega,by omega,rfl,rfl,HI⟩
 case round=>
  clear HI;obtain⟨t,m0,gj0,cj0,H0,J0,cl0,ht,hm8,rfl,rfl,HO⟩:=hrel;by_cases hlt:t<3
  ·have i1:(t:Int)<3:=by omega
   have HPO:=hid HO.out.2;have HJI:=hid HO.out.1;clear HO;have hm4:m0<=4:=by
    have h1:=HPO.out.bd;have h2:2^t<=2^2:=Nat.pow_le_pow_right (by omega) (by omega);omega
   go_wp2_with fail;go_loopw [3,6] (fun jv kv wr=>∃(k m gj cj H:Nat) (J:Nat ->Sx) (cl:List Value),k<=m0/\ m<=8/\ kv=.int .i64 (k:Int)/\ jv=.slice (some ⟨gj,0,none⟩) m cj/\ Hid (JoI w wr gj cj m H J cl/\ PM X t m0 J0 k m J)) (fun _ kv _=>m0 - (intOf kv).toNat);case atStart=>exact⟨0,m0,_,_,_,_,_,by omega,hm8,rfl,rfl,hid ⟨HJI.out,PM.zero HPO.out⟩⟩
   case round=>
    clear HJI;obtain⟨k,m,gj,cj,H,J,cl,hk,hmm,rfl,rfl,HM⟩:=hrel;by_cases hkl:k<m0
    ·have i2:(k:Int)<(m0:Int):=by omega
     have hkm:k<m:=by have:=HM.out.2.lo;omega
     have i3:(k:Int)<(m:Int):=by omega
     have i4:(0:Int)<=(k:Int):=Int.natCast_nonneg _;have i5:(0:Int)<=(t:Int):=Int.natCast_nonneg _;obtain⟨ja,jc,jx,jd,hja⟩:=HM.out.1.at hkm;obtain⟨sa,sc,sx,sd,hsa⟩:=HS.out t hlt;have HJK:=hid (vd_sm (HM.out.2.vd k hkm));have HXT:=hid (HX.out t hlt);obtain⟨V,hV⟩:∃V,jnB (J k) (X t)=V:=⟨_,rfl⟩;obtain⟨Z,hZ⟩:∃Z,jnZ (J k) (X t)=Z:=⟨_,rfl⟩;have HVV:=hid hV;have HZZ:=hid hZ;have HZS:Hid Z.Sm:=hid (by rw [<- hZ];exact jnZ_sm _ _);have HJC:Hid (∀w',Below wr.heap.size wr w' ->Calls Tryz.prog 5 #[.agg #[.slice ja (J k).l.length jc,.slice jx (J k).n jd],.agg #[.slice sa (X t).l.length sc,.slice sx (X t).n sd]] w' fun e w2=>∃a m x t,e=.returned (.tuple #[.agg #[.slice a Z.l.length m,.slice x Z.n t],.bool V])/\ SNc w2 w'.heap.size a x Z/\ Below w'.heap.size w' w2/\ Z.l.length<=m/\ m<=9223372036854775807):=hid (fun w' b=>by
      have:=specJoinK ja jx sa sx jc jd sc sd (J k) (X t) w' HJK.out HXT.out (hja w' b).2.2 (hsa w' (keepS HM.out.1.low b)).2.2;rw [hV,hZ] at this;exact this)
     have HSE:Hid (∀w':World,Below wr.heap.size wr w' ->(w'.cell? ⟨gj,k*2,none⟩=some (.slice ja (J k).l.length jc)/\ w'.cell? ⟨gj,k*2+1,none⟩=some (.slice jx (J k).n jd)/\ w'.cell? ⟨gs,t*2,none⟩=some (.slice sa (X t).l.length sc)/\ w'.cell? ⟨gs,t*2+1,none⟩=some (.slice sx (X t).n sd))):=hid (fun w' b=>⟨(hja w' b).1,(hja w' b).2.1,(hsa w' (keepS HM.out.1.low b)).1,(hsa w' (keepS HM.out.1.low b)).2.1⟩);have HU:=hid HM.out.1;have HPM:=hid HM.out.2;clear hV hZ hja hsa HM;go_upto_region 9 with fail;go_cut [7,8] from 21 to 65 (fun b o wx=>∃(bb lo hi:Nat) (a x:Option Addr) (c d:Nat),b=.pointer (some ⟨bb,0,none⟩)/\ o=.bool V/\ Hid (JoB w wx gj cj m H J cl bb lo hi a x c d Z));case first=>
      refine wp_region_held_drew (S:=fun w'=>w'.cell? ⟨gj,k*2,none⟩=some (.slice ja (J k).l.length jc)/\ w'.cell? ⟨gj,k*2+1,none⟩=some (.slice jx (J k).n jd)/\ w'.cell? ⟨gs,t*2,none⟩=some (.slice sa (X t).l.length sc)/\ w'.cell? ⟨gs,t*2+1,none⟩=some (.slice sx (X t).n sd)) (by kernel_rfl) (HSE.out _ (Below.refl _ _).drew) (fun hHeld=> ?_);refine tZ 0 27 ?_;refine tZ 1 28 ?_;refine tZ 2 29 ?_;refine tZ 3 30 ?_;refine tZ 4 31 ?_;refine tZ 5 32 ?_;refine tZ 6 33 ?_;refine tZ 7 34 ?_;refine ready2t (i:=8) (j:=12) (d:=some 35) (d':=some 7) (by kernel_rfl) (by kernel_rfl) (by kernel_rfl) ?_ ?_
      ·
       intro o ho hod K hK;simp only [gZa,gZb,gZc,gZd] at ho;subst ho;go_simp;refine(HJC.out _ (Below.refl _ _).drew).mono ?_;rintro e w5 ⟨za,zc,zx,zd,rfl,sj,b5,k1,k2⟩;have hB5:Below wr.heap.size wr w5:=keepS (Below.refl _ _).drew b5;refine hK.out _ _ (HSE.out _ hB5) (fun hHeld=> ?_);clear hK K;try simp only [Act.put,sZa,sZb,sZc]
       refine tZ 9 26 ?_;refine tZ 10 36 ?_;refine tZ 11 37 ?_;refine cZ 12 ?_;intro K hK;go_simp;obtain⟨wx,hwx⟩:∃wx,w5.alloc (.cells #[.slice none 0 0,.slice none 0 0] 28)=wx:=⟨_,rfl⟩;have hxb:Below w5.heap.size w5 wx:=by rw [<- hwx];exact(Below.refl _ _).alloc (Nat.le_refl _) _
       have hxc:Bx2 wx w5.heap.size (.slice none 0 0) (.slice none 0 0):=by rw [<- hwx];exact Bx2.made _ _ _ _
       have hBx:Below wr.heap.size wr wx:=keepS hB5 hxb;have HF:=hid (HU.out.box hBx hxc hB5.size sj (Nat.le_refl _) hxb.size (fun q q1 q2=>⟨by omega,hxb.block q q2⟩) zc zd ⟨k1,k2⟩);rw [hwx];clear hwx;refine hK.out _ _ (HSE.out _ hBx) (fun hHeld=> ?_);clear hK K;try simp only [Act.put,sZa,sZb,sZc]
       have xc0:=hxc.c0;have xc1:=hxc.c1;have xcf:=hxc.f;clear hxb hBx hxc sj b5 hB5;refine cZ 13 ?_;intro K hK;go_simp;refine hK.out _ _ (HSE.out _ HF.out.1) (fun hHeld=> ?_);clear hK K;try simp only [Act.put,sZa,sZb,sZc]
       clear xc0 xc1 xcf;refine tZ 14 8 ?_;refine wpAnyH_done (by kernel_rfl) ?_ _;go_wp2_with fail;go_meet;exact⟨_,_,_,za,zx,zc,zd,rfl,rfl,hid HF.out.2⟩
      ·
       intro o ho hod K hK;simp only [gZa,gZb,gZc,gZd] at ho;subst ho;go_simp;obtain⟨wx,hwx⟩:∃wx,(wr.alloc (.cells #[.slice none 0 0,.slice none 0 0] 28)).drew=wx:=⟨_,rfl⟩;have hxb:Below wr.heap.size wr wx:=by rw [<- hwx];exact((Below.refl _ _).alloc (Nat.le_refl _) _).drew
       have hxc:Bx2 wx wr.heap.size (.slice none 0 0) (.slice none 0 0):=by
        have h0:=Bx2.made wr (.slice none 0 0) (.slice none 0 0) 28;rw [<- hwx];exact h0.below (Below.refl _ _).drew h0.lt
       have hxz:wx.heap.size=wr.heap.size+1:=by rw [<- hwx];simp
       rw [hwx];clear hwx;refine hK.out _ _ (HSE.out _ hxb) (fun hHeld=> ?_);clear hK K;try simp only [Act.put,sZa,sZb,sZc]
       refine cZ 8 ?_;intro K hK;go_simp;refine(HJC.out _ hxb).mono ?_;rintro e w5 ⟨za,zc,zx,zd,rfl,sj,b5,k1,k2⟩;have hB5:Below wr.heap.size wr w5:=keepS hxb b5;have hx5:=hxc.below b5 hxc.lt;have HF:=hid (HU.out.box hB5 hx5 (Nat.le_refl _) sj (by omega) (Nat.le_refl _) (fun q q1 q2=>⟨by omega,rfl⟩) zc zd ⟨k1,k2⟩);refine hK.out _ _ (HSE.out _ hB5) (fun hHeld=> ?_);clear hK K;try simp only [Act.put,sZa,sZb,sZc]
       refine tZ 9 26 ?_;refine tZ 10 36 ?_;refine tZ 11 37 ?_;have xc0:=hx5.c0;have xc1:=hx5.c1;have xcf:=hx5.f;clear hxb hxc hx5 sj b5 hB5 hxz;refine cZ 13 ?_;intro K hK;go_simp;refine hK.out _ _ (HSE.out _ HF.out.1) (fun hHeld=> ?_);clear hK K;try simp only [Act.put,sZa,sZb,sZc]
       clear xc0 xc1 xcf;refine tZ 14 8 ?_;refine wpAnyH_done (by kernel_rfl) ?_ _;go_wp2_with fail;go_meet;exact⟨_,_,_,za,zx,zc,zd,rfl,rfl,hid HF.out.2⟩
     case rest=>
      obtain⟨bb,lo,hi,ba,bx,bc,bd,rfl,rfl,HR⟩:=hcut;clear HJC HSE HU HJK HXT;have x0:=HR.out.b.c0;have x1:=HR.out.b.c1;cases V with
      | false=>
       go_wp2_with fail;go_ret;exact⟨⟨false,rfl,by simp⟩,HR.out.i.low⟩
      | true=>
       have HF:=hid (l4FitC ba bx bc bd Z wc HZS.out HR.out.cp HR.out.s.at);have HZJ:Hid (Z=jnS (J k) (X t)):=hid (by rw [<- HZZ.out,jnZ_t HVV.out]);go_wp2_with fail;refine HF.out.mono ?_;rintro e w6 ⟨⟨fb,rfl⟩,b6⟩;have HR6:=hid (HR.out.below b6);clear b6 HF HR x0 x1;cases fb with
       | false=>
        go_wp2_with fail;go_ret;exact⟨⟨false,rfl,by simp⟩,HR6.out.i.low⟩
       | true=>
        go_wp2_with fail;go_loopw [9,10] (fun kn mv wr=>∃(q:Nat) (K:Bool),q<=m/\ kn=.bool K/\ mv=.int .i64 (q:Int)/\ Hid (JoB w wr gj cj m H J cl bb lo hi ba bx bc bd Z/\ (K=true ->∃k',k'<m/\ EqS (J k') Z))) (fun _ mv _=>m - (intOf mv).toNat);case atStart=>exact⟨0,false,Nat.zero_le _,rfl,rfl,hid ⟨HR6.out,fun h=>by simp at h⟩⟩
        case round=>
         clear HR6;obtain⟨q,K,hq,rfl,rfl,HN⟩:=hrel;by_cases hql:q<m
         ·have i6:(q:Int)<(m:Int):=by omega
          have i7:(0:Int)<=(q:Int):=Int.natCast_nonneg _;cases K with
          | true=>
           go_wp2_with fail;go_quiet (fail);go_wp2_with fail;go_roundw;case rel=>exact⟨q+1,true,hql,rfl,by go_num,hid ⟨HN.out.1.below (by exact⟨rfl,rfl,rfl,Nat.le_refl _,fun _ _=>rfl⟩),fun _=>HN.out.2 trivial⟩⟩
           case measure=>simp [intOf];omega
          | false=>
           obtain⟨ja,jc,jx,jd,hja⟩:=HN.out.1.i.at hql;have HEQ:Hid (∀w',Below wr.heap.size wr w' ->Calls Tryz.prog 22 #[.agg #[.slice ja (J q).l.length jc,.slice jx (J q).n jd],.agg #[.slice ba Z.l.length bc,.slice bx Z.n bd]] w' fun e w2=>e=.returned (.bool (yes (EqS (J q) Z)))/\ Below w'.heap.size w' w2):=hid (fun w' b=>l3EqualX ja jx ba bx jc jd bc bd (J q) Z w' (vd_sm (HPM.out.vd q hql)) HZS.out (hja w' b).2.2 (HN.out.1.below b).s.at);obtain⟨E,hE⟩:∃E,yes (EqS (J q) Z)=E:=⟨_,rfl⟩;rw [hE] at HEQ;have HEE:=hid hE;have HSE:Hid (∀w':World,Below wr.heap.size wr w' ->(w'.cell? ⟨gj,q*2,none⟩=some (.slice ja (J q).l.length jc)/\ w'.cell? ⟨gj,q*2+1,none⟩=some (.slice jx (J q).n jd)/\ w'.cell? ⟨bb,0,none⟩=some (.slice ba Z.l.length bc)/\ w'.cell? ⟨bb,1,none⟩=some (.slice bx Z.n bd))):=hid (fun w' b=>⟨(hja w' b).1,(hja w' b).2.1,(HN.out.1.below b).b.c0,(HN.out.1.below b).b.c1⟩);clear hja hE;go_wp2_with fail;refine wp_region_held_drew (S:=fun w'=>w'.cell? ⟨gj,q*2,none⟩=some (.slice ja (J q).l.length jc)/\ w'.cell? ⟨gj,q*2+1,none⟩=some (.slice jx (J q).n jd)/\ w'.cell? ⟨bb,0,none⟩=some (.slice ba Z.l.length bc)/\ w'.cell? ⟨bb,1,none⟩=some (.slice bx Z.n bd)) (by kernel_rfl) (HSE.out _ (Below.refl _ _).drew) (fun hHeld=> ?_);refine tZ 0 51 ?_;refine tZ 1 52 ?_;refine tZ 2 53 ?_;refine tZ 3 54 ?_;refine tZ 4 55 ?_;refine tZ 5 56 ?_;refine tZ 6 57 ?_;refine cZ 7 ?_;intro K hK;go_simp;refine(HEQ.out _ (Below.refl _ _).drew).mono ?_;rintro e w7 ⟨rfl,b7⟩;have b7':Below wr.heap.size wr w7:=keepS (Below.refl _ _).drew b7;refine hK.out _ _ (HSE.out _ b7') (fun hHeld=> ?_);clear hK K;try simp only [Act.put,sZa,sZb,sZc]
           refine tZ 8 59 ?_;refine tZ 9 9 ?_;refine wpAnyH_done (by kernel_rfl) ?_ _;have HN7:Hid (JoB w w7 gj cj m H J cl bb lo hi ba bx bc bd Z/\ (E=true ->∃k',k'<m/\ EqS (J k') Z)):=hid ⟨HN.out.1.below b7',fun h=>⟨q,hql,yes_iff.1 (by rw [HEE.out];exact h)⟩⟩;clear hHeld b7 b7' HSE HEQ HN;go_wp2_with fail;go_roundw;case rel=>exact⟨q+1,E,hql,rfl,by go_num,HN7⟩
           case measure=>simp [intOf];omega
         ·have i6:¬(q:Int)<(m:Int):=by omega
          cases K with
          | true=>
           have HNX:Hid (JoI w wr gj cj m H J cl/\ PM X t m0 J0 (k+1) m J):=hid ⟨HN.out.1.i,HPM.out.old hkl HVV.out (by
            obtain⟨k',h1,h2⟩:=HN.out.2 rfl;exact⟨k',h1,by rw [<- HZJ.out];exact h2⟩)⟩
           clear HN HPM;go_wp2_with fail;go_roundw;case rel=>exact⟨k+1,m,gj,cj,H,J,cl,hkl,hmm,by go_num,rfl,HNX⟩
           case measure=>simp [intOf];omega
          | false=>
           have hhi:=HPM.out.hi;obtain⟨q',cap',w8,happ,H',cs',hji⟩:=HN.out.1.app (by omega);have HNX:Hid (JoI w w8 q' cap' (m+1) H' (fun k'=>if k'=m then Z else J k') cs'/\ PM X t m0 J0 (k+1) (m+1) (fun k'=>if k'=m then Z else J k')):=hid ⟨hji,by rw [HZJ.out];exact HPM.out.new hkl HVV.out⟩;have x0:=HN.out.1.b.c0;have x1:=HN.out.1.b.c1;clear HN HPM hji;go_wp2_with (at_builtin;refine wpList_app2 rfl _ _ _ _ rfl happ (by rfl) (by rfl) rfl ?_;clear happ);go_roundw;case rel=>exact⟨k+1,m+1,q',cap',H',_,cs',hkl,by omega,by go_num,rfl,HNX⟩
           case measure=>simp [intOf];omega
    ·have i2:¬(k:Int)<(m0:Int):=by omega
     obtain rfl:k=m0:=by omega
     have hhi:=HM.out.2.hi;have HNX:Hid (JoI w wr gj cj m H J cl/\ PO X (t+1) m J):=hid ⟨HM.out.1,PM.done HPO.out HM.out.2⟩;clear HM HPO;go_wp2_with fail;go_roundw;case rel=>exact⟨t+1,m,gj,cj,H,J,cl,hlt,by omega,by go_num,rfl,HNX⟩
     case measure=>simp [intOf];omega
  ·obtain rfl:t=3:=by omega
   have i1:¬(3:Int)<3:=by omega
   go_wp2_with fail;go_ret;exact⟨⟨true,rfl,fun _=>HO.out.2.all⟩,HO.out.1.low⟩
end Go.Proofs.YtpfmeafmepgimaaGreat
namespace Go.Proofs.YtpfmeafmepgimaaGreat
open Go.ChangeShapes Go.WideShapes Go.ChangeAt Go.RowKit Go.Maps
theorem specAtMostC (sa sx ta tx:Option Addr)(c d c' d':Nat)(S S':Sx)(w:World)(hm:S.Sm)(hm':S'.Sm)(h:SCt w sa sx S)(h':SCt w ta tx S'):
  Calls Tryz.prog 10 #[.agg #[.slice sa S.l.length c,.slice sx S.n d],.agg #[.slice ta S'.l.length c',.slice tx S'.n d']] w fun e w'=>e=.returned (.bool (amB S S'))/\ Below w.heap.size w w':=by
 obtain⟨W,hW⟩:∃W,(w.alloc (.cells #[.slice sa S.l.length c,.slice sx S.n d] 28)).alloc (.cells #[.slice ta S'.l.length c',.slice tx S'.n d'] 28)=W:=⟨_,rfl⟩;have b0:Below w.heap.size w W:=by rw [<- hW];exact below2 _ _ _
 have X0:Bx2 W w.heap.size (.slice sa S.l.length c) (.slice sx S.n d):=by rw [<- hW];exact(Bx2.made w _ _ _).allocs _
 have Y0:Bx2 W (w.heap.size+1) (.slice ta S'.l.length c') (.slice tx S'.n d'):=by rw [<- hW];simpa using Bx2.made (w.alloc (.cells #[.slice sa S.l.length c,.slice sx S.n d] 28)) (.slice ta S'.l.length c') (.slice tx S'.n d') 28
 have HJ:=hid (specJoinC sa sx ta tx c d c' d' S S' W hm hm' (h.below b0) (h'.below b0));have HZS:=hid (jnZ_sm S S');have HEQ:Hid (∀w1 ja jm jx jt,Below W.heap.size W w1 ->SCt w1 ja jx (jnZ S S') ->Calls Tryz.prog 22 #[.agg #[.slice ja (jnZ S S').l.length jm,.slice jx (jnZ S S').n jt],.agg #[.slice ta S'.l.length c',.slice tx S'.n d']] w1 fun e w'=>e=.returned (.bool (yes (EqS (jnZ S S') S')))/\ Below w1.heap.size w1 w'):=hid (fun w1 ja jm jx jt b1 hj=>by have hb:=(h'.below b0).below b1;exact l3EqualX ja jx ta tx jm jt c' d' (jnZ S S') S' w1 HZS.out hm' hj hb);obtain⟨JL,hJL⟩:∃JL,(jnZ S S').l.length=JL:=⟨_,rfl⟩;obtain⟨JU,hJU⟩:∃JU,(jnZ S S').n=JU:=⟨_,rfl⟩;obtain⟨V,hV⟩:∃V,jnB S S'=V:=⟨_,rfl⟩;obtain⟨E,hE⟩:∃E,yes (EqS (jnZ S S') S')=E:=⟨_,rfl⟩;obtain⟨B,hB⟩:∃B,amB S S'=B:=⟨_,rfl⟩;have HBV:Hid (B=(V && E)):=hid (by rw [<- hB,<- hV,<- hE];rfl);rw [hJL,hJU,hV] at HJ;rw [hJL,hJU,hE] at HEQ;rw [hB];have HB0:=hid b0;have HX:=hid X0;have HY:=hid Y0;have k0:=X0.c0;have k1:=X0.c1;have l0:=Y0.c0;have l1:=Y0.c1;clear b0 X0 Y0 hJL hJU hV hE hB;go_enter Tryz.func10,Tryz.ntmps10;go_wp2_with fail;try rw [hW]
 clear hW;refine HJ.out.mono ?_;rintro e w1 ⟨ja,jm,jx,jt,rfl,so,b1⟩;obtain⟨w2,hw2⟩:∃w2,w1.alloc (.cells #[.slice ja JL jm,.slice jx JU jt] 28)=w2:=⟨_,rfl⟩;have b2:Below w1.heap.size w1 w2:=by rw [<- hw2];exact(Below.refl _ _).alloc (Nat.le_refl _) _
 have X2:Bx2 w2 w1.heap.size (.slice ja JL jm) (.slice jx JU jt):=by rw [<- hw2];exact Bx2.made _ _ _ _
 have B02:=keepS b1 b2;have HB2:=hid (keepS HB0.out B02);have HCA:=hid (HEQ.out w2 ja jm jx jt B02 (by have h:=(so.below b2).at;exact⟨h.1,h.2⟩));have Y2:=HY.out.below B02 HY.out.lt;have m0:=X2.c0;have m1:=X2.c1;have m2:=Y2.c0;have m3:=Y2.c1;clear so b1 b2 X2 Y2 B02 k0 k1 l0 l1 HJ HEQ;cases V with
 | false=>
  have HG:Hid (B=false):=hid HBV.out;go_wp2_with fail;try rw [hw2]
  go_ret;exact⟨ret_b HG.out.symm,HB2.out⟩
 | true=>
  have HG:Hid (B=E):=hid (by have:=HBV.out;simpa using this);go_wp2_with fail;try rw [hw2]
  clear hw2;refine HCA.out.mono ?_;rintro e w3 ⟨rfl,b3⟩;have HB3:=hid (keepS HB2.out b3);clear b3;go_wp2_with fail;go_ret;exact⟨ret_b HG.out.symm,HB3.out⟩
theorem implAtMostC (a x a' x':Option Addr)(c d c' d':Nat)(S S':Sx)(w:World)(hm:S.Sm)(hm':S'.Sm)(hi:∀i,LfI (gL S.l i))(hi':∀i,LfI (gL S'.l i))(h:SAt w a x S)(h':SAt w a' x' S'):
  Calls Tryz.prog 9 #[.agg #[.slice a S.l.length c,.slice x S.n d],.agg #[.slice a' S'.l.length c',.slice x' S'.n d']] w fun e w'=>e=.returned (.bool (amB S S'))/\ Below w.heap.size w w':=by
 obtain⟨W,hW⟩:∃W,(w.alloc (.cells #[.slice a S.l.length c,.slice x S.n d] 28)).alloc (.cells #[.slice a' S'.l.length c',.slice x' S'.n d'] 28)=W:=⟨_,rfl⟩;have b0:Below w.heap.size w W:=by rw [<- hW];exact below2 _ _ _
 have X0:Bx2 W w.heap.size (.slice a S.l.length c) (.slice x S.n d):=by rw [<- hW];exact(Bx2.made w _ _ _).allocs _
 have Y0:Bx2 W (w.heap.size+1) (.slice a' S'.l.length c') (.slice x' S'.n d'):=by rw [<- hW];simpa using Bx2.made (w.alloc (.cells #[.slice a S.l.length c,.slice x S.n d] 28)) (.slice a' S'.l.length c') (.slice x' S'.n d') 28
 have HJ:=hid (implJoinC a x a' x' c d c' d' S S' W hm hm' hi hi' (h.below b0) (h'.below b0));have HZS:=hid (jnZ_sm S S');have HEQ:Hid (∀w1 ja jm jx jt,Below W.heap.size W w1 ->SAt w1 ja jx (jnZ S S') ->Calls Tryz.prog 23 #[.agg #[.slice ja (jnZ S S').l.length jm,.slice jx (jnZ S S').n jt],.agg #[.slice a' S'.l.length c',.slice x' S'.n d']] w1 fun e w'=>e=.returned (.bool (yes (EqS (jnZ S S') S')))/\ Below w1.heap.size w1 w'):=hid (fun w1 ja jm jx jt b1 hj=>by have hb:=(h'.below b0).below b1;exact sameStateX ja jx a' x' jm jt c' d' (jnZ S S') S' w1 HZS.out hm' hj hb);obtain⟨JL,hJL⟩:∃JL,(jnZ S S').l.length=JL:=⟨_,rfl⟩;obtain⟨JU,hJU⟩:∃JU,(jnZ S S').n=JU:=⟨_,rfl⟩;obtain⟨V,hV⟩:∃V,jnB S S'=V:=⟨_,rfl⟩;obtain⟨E,hE⟩:∃E,yes (EqS (jnZ S S') S')=E:=⟨_,rfl⟩;obtain⟨B,hB⟩:∃B,amB S S'=B:=⟨_,rfl⟩;have HBV:Hid (B=(V && E)):=hid (by rw [<- hB,<- hV,<- hE];rfl);rw [hJL,hJU,hV] at HJ;rw [hJL,hJU,hE] at HEQ;rw [hB];have HB0:=hid b0;have HX:=hid X0;have HY:=hid Y0;have k0:=X0.c0;have k1:=X0.c1;have l0:=Y0.c0;have l1:=Y0.c1;clear b0 X0 Y0 hJL hJU hV hE hB;go_enter Tryz.func9,Tryz.ntmps9;go_wp2_with fail;try rw [hW]
 clear hW;refine HJ.out.mono ?_;rintro e w1 ⟨ja,jm,jx,jt,rfl,so,b1⟩;obtain⟨w2,hw2⟩:∃w2,w1.alloc (.cells #[.slice ja JL jm,.slice jx JU jt] 28)=w2:=⟨_,rfl⟩;have b2:Below w1.heap.size w1 w2:=by rw [<- hw2];exact(Below.refl _ _).alloc (Nat.le_refl _) _
 have X2:Bx2 w2 w1.heap.size (.slice ja JL jm) (.slice jx JU jt):=by rw [<- hw2];exact Bx2.made _ _ _ _
 have B02:=keepS b1 b2;have HB2:=hid (keepS HB0.out B02);have HCA:=hid (HEQ.out w2 ja jm jx jt B02 ((so.below b2).at));have Y2:=HY.out.below B02 HY.out.lt;have m0:=X2.c0;have m1:=X2.c1;have m2:=Y2.c0;have m3:=Y2.c1;clear so b1 b2 X2 Y2 B02 k0 k1 l0 l1 HJ HEQ;cases V with
 | false=>
  have HG:Hid (B=false):=hid HBV.out;go_wp2_with fail;try rw [hw2]
  go_ret;exact⟨ret_b HG.out.symm,HB2.out⟩
 | true=>
  have HG:Hid (B=E):=hid (by have:=HBV.out;simpa using this);go_wp2_with fail;try rw [hw2]
  clear hw2;refine HCA.out.mono ?_;rintro e w3 ⟨rfl,b3⟩;have HB3:=hid (keepS HB2.out b3);clear b3;go_wp2_with fail;go_ret;exact⟨ret_b HG.out.symm,HB3.out⟩
end Go.Proofs.YtpfmeafmepgimaaGreat
