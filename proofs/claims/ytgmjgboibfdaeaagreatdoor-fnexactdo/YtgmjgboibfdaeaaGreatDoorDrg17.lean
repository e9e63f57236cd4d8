import Derived.Test.YtgmjgboibfdaeaaGreatDoorDrg16
import Derived.Test.YtgmjgboibfdaeaaGreatDoorDrg11
set_option linter.unusedVariables false
set_option linter.unusedSimpArgs false
set_option maxRecDepth 100000
set_option maxHeartbeats 40000000
namespace Go.Proofs.YtgmjgboibfdaeaaGreatDoor
open Go.ChangeShapes Go.WideShapes Go.ChangeAt Go.RowKit Go.Deep
variable {B bd bm bm' c cap d g hi k lo lo' m r r1 r2:Nat}{J l:List Lf}{S S' Z:Sx}{a x:Option Addr}{mo:Option Nat}{t:TypeId}{ts z:List Ky}{u0 u1 u2 u3 v v0 v1 v2:Value}{ul:List Rn}{w w' w1:World}{x0 y0 z0:Nat×Nat}
theorem SOw.same(h:SOw w lo hi a x d S)(hs:w.heap.size<=w'.heap.size)(hq:∀q,lo<=q ->q<hi ->w'.heap[q]? =w.heap[q]?):SOw w' lo hi a x d S:=by
 refine⟨?_,?_,h.lv.imp id (fun⟨b,P,Q,G,e,m,M⟩=>⟨b,P,Q,G,e,m,fun k0=>(M k0).zero m hq⟩),?_,h.hl.1,Nat.le_trans h.hl.2 hs⟩
 ·rcases h.lv with k|⟨b,P,Q,G,e,m,M⟩
  ·exact .inl k
  ·have I:=M 0;rcases h.lf with k|⟨b',H,A,hb,Z⟩
   ·exact .inl k
   ·rw [e] at A;have v:b=b':=congrArg Addr.block (Option.some.inj A);have C:0=H:=congrArg Addr.off (Option.some.inj A);have F:w'.heap[b]? =w.heap[b]? :=hq b m.b1 m.b2;have u:∀j,w'.cell? ⟨b,j,none⟩=w.cell? ⟨b,j,none⟩:=fun j=>World.cell?_of_block (a:=⟨b,j,none⟩) F;rw [<- v,<- C] at Z;refine .inr ⟨b,0,e,by rw [v];omega,fun i hi'=> ?_⟩;obtain⟨J,pc,s,T,L,N,X,B⟩:=Z i hi';refine⟨J,pc,by rw [u];exact s,?_,by rw [u];exact L,by rw [u];exact N,by rw [u];exact X,by rw [u];exact B⟩;rcases T with k|⟨g,o,V,r,R⟩
    ·exact .inl k
    ·by_cases W:(gL S.l i).p.length=0
     ·exact .inl W
     ·have O:=m.g1 i hi' (by omega);have U:=I.pth i hi';rw [Nat.zero_add] at s;rw [s] at U;have Y:J=P i:=by injection (Option.some.inj U)
      rw [O.1,V] at Y;have D:g=G i:=congrArg Addr.block (Option.some.inj Y);have E:w'.heap[g]? =w.heap[g]? :=by rw [D];exact hq _ O.2.2.1 O.2.2.2
      exact .inr ⟨g,o,V,by omega,fun t ht=>(World.cell?_of_block (a:=⟨g,_,none⟩) E).trans (R t ht)⟩
 ·rcases h.ro with k|⟨g,K,e,r,z⟩
  ·exact .inl k
  ·have E:=hq g (z.lt g rfl).1 r;exact h.rn.same hs (fun y hy=>by rw [e] at hy;have:=Option.some.inj hy;rw [<- this];exact E)
 ·rcases h.ro with k|⟨g,K,e,r,z⟩
  ·exact .inl k
  ·exact .inr ⟨g,K,e,r,Qa6 z fun q hq'=>by
    have v:g=q:=by simpa [Value.ownBlock] using hq'
    rw [<- v];exact hq g (z.lt g rfl).1 r⟩
theorem SOw.bw(h:SOw w lo hi a x d S)(hb:Bl w w'):SOw w' lo hi a x d S:=
 h.same hb.size (fun q _ h2=>hb.block q (Nat.lt_of_lt_of_le h2 h.hl.2))
theorem SOw.set(h:SOw w lo hi a x d S)(q:Addr)(u:Value)(hq:q.block<lo \/hi<=q.block):SOw (w.setCell q u) lo hi a x d S:=
 h.same (by simp [World.setCell]) (fun p h1 h2=>zH _ _ _ _ (by omega))
theorem SOw.at(h:SOw w lo hi a x d S):SAt w a x S:=⟨h.lf,h.rn⟩
theorem SOw.mt (w:World)(S:Sx)(hl:S.l.length=0)(hn:S.n=0)(lo hi:Nat)(h:lo<=hi/\ hi<=w.heap.size)(a x:Option Addr)(d:Nat):SOw w lo hi a x d S:=
 ⟨.inl hl,.inl hn,.inl hl,.inl hn,h⟩
theorem SOw.wide{hi':Nat}(h:SOw w lo hi a x d S)(h1:lo'<=lo)(h2:hi<=hi')(h3:hi'<=w.heap.size):SOw w lo' hi' a x d S:=
 ⟨h.lf,h.rn,h.lv.imp id (fun⟨b,P,Q,G,e,hw,hI⟩=>⟨b,P,Q,G,e,⟨Nat.le_trans h1 hw.b1,Nat.lt_of_lt_of_le hw.b2 h2,fun i hi h0=>by obtain⟨j,k,m,q⟩:=hw.g1 i hi h0;exact⟨j,k,by omega,by omega⟩,hw.sep⟩,fun k0=>by
  have I:=hI k0;exact⟨Btw.refl _ _ _,I.run,I.wr,I.pth,I.todo,I.done,I.cel⟩⟩),h.ro.imp id (fun⟨g,ys,e,hg,ho⟩=>⟨g,ys,e,Nat.lt_of_lt_of_le hg h2,Qb2 ho h1⟩),by have:=h.hl;omega,h3⟩
open Go.Maps
theorem Qhn(h1:Bx2 w r1 u0 u1)(h2:Bx2 w r2 u2 u3)(hne:r1≠r2)(v0 v1 v2 v3:Value):Bx2 ((w.setCell ⟨r1,0,none⟩ v0).setCell ⟨r1,1,none⟩ v1) r2 u2 u3/\ Bx2 ((((w.setCell ⟨r1,0,none⟩ v0).setCell ⟨r1,1,none⟩ v1).setCell ⟨r2,0,none⟩ v2).setCell ⟨r2,1,none⟩ v3) r1 v0 v1/\ Bx2 ((((w.setCell ⟨r1,0,none⟩ v0).setCell ⟨r1,1,none⟩ v1).setCell ⟨r2,0,none⟩ v2).setCell ⟨r2,1,none⟩ v3) r2 v2 v3:=
 ⟨(h2.setAt _ _ hne).setAt _ _ hne,((h1.set v0 v1).setAt _ _ (Ne.symm hne)).setAt _ _ (Ne.symm hne),((h2.setAt _ _ hne).setAt _ _ hne).set v2 v3⟩
theorem Qbg(h:Below B w w1)(h1:B<=r1)(h2:B<=r2)(v0 v1 v2 v3:Value):Below B w ((((w1.setCell ⟨r1,0,none⟩ v0).setCell ⟨r1,1,none⟩ v1).setCell ⟨r2,0,none⟩ v2).setCell ⟨r2,1,none⟩ v3):=
 (((h.setCell (p:=⟨r1,0,none⟩) h1 _).setCell (p:=⟨r1,1,none⟩) h1 _).setCell (p:=⟨r2,0,none⟩) h2 _).setCell (p:=⟨r2,1,none⟩) h2 _
theorem Qeo(h1:Bx2 w r u0 u1)(h2:Bx2 w (r+1) u2 u3)(v0 v1 v2 v3:Value):w.cell? ⟨r,0,none⟩=some u0/\ w.cell? ⟨r,1,none⟩=some u1/\ (∀i,w.frozen? ⟨r,i,none⟩=false)/\ ((w.setCell ⟨r,0,none⟩ v0).setCell ⟨r,1,none⟩ v1).cell? ⟨r+1,0,none⟩=some u2/\ ((w.setCell ⟨r,0,none⟩ v0).setCell ⟨r,1,none⟩ v1).cell? ⟨r+1,1,none⟩=some u3/\ (∀i,((w.setCell ⟨r,0,none⟩ v0).setCell ⟨r,1,none⟩ v1).frozen? ⟨r+1,i,none⟩=false)/\ Hid (Bx2 ((((w.setCell ⟨r,0,none⟩ v0).setCell ⟨r,1,none⟩ v1).setCell ⟨r+1,0,none⟩ v2).setCell ⟨r+1,1,none⟩ v3) r v0 v1/\ Bx2 ((((w.setCell ⟨r,0,none⟩ v0).setCell ⟨r,1,none⟩ v1).setCell ⟨r+1,0,none⟩ v2).setCell ⟨r+1,1,none⟩ v3) (r+1) v2 v3):=
 have j:=Qhn h1 h2 (show r≠r+1 by omega) v0 v1 v2 v3
 ⟨h1.c0,h1.c1,h1.f,j.1.c0,j.1.c1,j.1.f,hid j.2⟩
theorem Qa8(h:Bl w w1)(v0 v1 v2 v3:Value):Bl w ((((w1.setCell ⟨w.heap.size+1,0,none⟩ v0).setCell ⟨w.heap.size+1,1,none⟩ v1).setCell ⟨w.heap.size+1+1,0,none⟩ v2).setCell ⟨w.heap.size+1+1,1,none⟩ v3):=Qbg h (by omega) (by omega) _ _ _ _
theorem QdH{a b c d:Addr}{v3:Value}:((((w.setCell a v0).setCell b v1).setCell c v2).setCell d v3).heap.size=w.heap.size:=by simp [World.setCell]
theorem QlO(h:SNc w lo a c x Z)(hl:lo'<=lo)(h1:r1<lo)(h2:r2<lo)(v0 v1 v2 v3:Value):SNc ((((w.setCell ⟨r1,0,none⟩ v0).setCell ⟨r1,1,none⟩ v1).setCell ⟨r2,0,none⟩ v2).setCell ⟨r2,1,none⟩ v3) lo' a c x Z:=
 h.move hl (by simp [World.setCell]) (fun q k1 k2=>by
  rw [zH _ _ _ _ (by simp;omega),zH _ _ _ _ (by simp;omega),zH _ _ _ _ (by simp;omega),zH _ _ _ _ (by simp;omega)])
theorem Qek {u:World}(h:SNc u lo a c x Z)(hl:w.heap.size+1+1<lo)(v0 v1 v2 v3:Value):SNc ((((u.setCell ⟨w.heap.size+1,0,none⟩ v0).setCell ⟨w.heap.size+1,1,none⟩ v1).setCell ⟨w.heap.size+1+1,0,none⟩ v2).setCell ⟨w.heap.size+1+1,1,none⟩ v3) w.heap.size a c x Z:=QlO h (by omega) (by omega) hl _ _ _ _
theorem Qhg(h:SOw w lo hi a x d Z)(h1:r1<lo)(h2:r2<lo)(v0 v1 v2 v3:Value):SOw ((((w.setCell ⟨r1,0,none⟩ v0).setCell ⟨r1,1,none⟩ v1).setCell ⟨r2,0,none⟩ v2).setCell ⟨r2,1,none⟩ v3) lo hi a x d Z:=
 (((h.set ⟨r1,0,none⟩ _ (.inl h1)).set ⟨r1,1,none⟩ _ (.inl h1)).set ⟨r2,0,none⟩ _ (.inl h2)).set ⟨r2,1,none⟩ _ (.inl h2)
theorem Qj9:(Tryz.prog.info? 4).map (fun i=>(i.zero,i.size,i.bytes))=some (some (.bool false),1,1):=by kernel_rfl
def Qkl (bs:List Bool):List Value:=bs.map fun b=> .bool b
def BR (w:World)(B:Nat)(v:Value)(bs:List Bool):Prop:=w.ownsRow B 4 1 v bs.length (Qkl bs)/\ v≠.slice none 0 0
theorem BR.lt{bs:List Bool}(h:BR w B v bs):∀g,v.ownBlock=some g ->B<=g/\ g<w.heap.size:=fun g e=>World.ownsRow.lt h.1 g e
theorem BR.bw{bs:List Bool}(h:BR w B v bs)(hb:Bl w w1):BR w1 B v bs:=⟨Qa6 h.1 (fun g hg=>hb.block g (h.lt g hg).2),h.2⟩
theorem BR.new (w:World):BR (w.alloc (.cells #[] 4)) w.heap.size (.slice (some ⟨w.heap.size,0,none⟩) 0 0) []:=by
 refine⟨?_,fun e=>by cases e⟩;exact World.ownsRow_lit (base:=w.heap.size) (e:=4) (size:=1) w #[] 0 zL (by unfold maxLen;omega) rfl
theorem QfH (B:Nat)(w:World)(v:Value)(bs:List Bool)(b:Bool)(h:BR w B v bs)(hB:B<=w.heap.size)(hl:bs.length<=1048576):
  ∃v' w',(Builtin.append_ #[110,110] 110 #[v,.slice (some ⟨w.heap.size,0,none⟩) 1 1]).run Tryz.prog (w.alloc (.cells #[.bool b] 4))=.ok v' w'/\ BR w' B v' (bs++[b])/\ Below B w w':=by
 obtain⟨g,hi,r,y,z⟩:=info_parts Qj9;have m:Bl w (w.alloc (.cells #[.bool b] 4)):=zO _ _;have q:=h.bw m;obtain⟨v',w',t,o,i,p⟩:=run_append_own (P:=Tryz.prog) (w.alloc (.cells #[.bool b] 4)) B 110 110 4 g (.bool false) 1 1 Tryz.underlying110 hi r y z rfl (by decide) v bs.length (Qkl bs) q.1 ⟨w.heap.size,0,none⟩ 1 1 (Qkl [b]) rfl (fun j u hu=>by
  match j,hu with
  | 0,hu=>simp [Qkl] at hu;subst hu;simp [Addr.add]
  | j+1,hu=>simp [Qkl] at hu) (fun u hu=>by
   obtain⟨s,_,rfl⟩:=List.mem_map.1 hu;rfl) (by unfold maxLen;omega) (by omega) (by simp;omega)
 refine⟨v',w',t,⟨?_,fun e=>h.2 (p.1 e).1⟩,?_⟩
 ·rw [List.length_append];simpa [Qkl] using o
 ·exact(m.mono hB).grown i (by simp;omega) (fun k hk=>(q.lt k hk).1)
theorem BR.cells{bs:List Bool}(h:BR w B v bs):∃g c,v=.slice (some ⟨g,0,none⟩) bs.length c/\ g<w.heap.size/\∀i,i<bs.length ->w.cell? ⟨g,i,none⟩=some (.bool (bs.getD i false)):=by
 rcases h.1.2 with ⟨e,u⟩|⟨g,k,r,rfl,o,j,y,z,t,m⟩
 ·exact absurd e h.2
 ·refine⟨g,k,rfl,(Array.getElem?_eq_some_iff.1 j).1,fun i hi=> ?_⟩;have q:w.cell? ⟨g,i,none⟩=(Qkl bs)[i]? :=by
   rw [<- m,Nat.mul_one,List.getElem?_take_of_lt hi];simp [World.cell?,j]
  rw [q];simp [Qkl,List.getD,hi]
noncomputable def gnB (gn:Lf ->Prop)(l:List Lf)(k:Nat):List Bool:=(l.take k).map fun x=>yes (gn x)
theorem Qe2 {gn:Lf ->Prop}(h:k<l.length):gnB gn l (k+1)=gnB gn l k++[yes (gn (gL l k))]:=by
 unfold gnB;rw [QbB h,List.map_append];rfl
theorem QcM (gn:Lf ->Prop)(l:List Lf):(gnB gn l l.length).length=l.length:=by simp [gnB]
theorem Qin {gn:Lf ->Prop}{i:Nat}(h:i<l.length):(gnB gn l l.length).getD i false=yes (gn (gL l i)):=by
 simp [gnB,List.getD,h,gL]
theorem Qio (gn:Lf ->Prop)(l:List Lf)(k:Nat):(gnB gn l k).length<=l.length:=by simp [gnB,List.length_take];omega
theorem Qh9 (a:Option Addr)(c:Nat)(xa:Option Addr)(d:Nat)(pa:Option Addr)(pc:Nat)(S:Sx)(p:List ByteArray)(w:World)(hm:S.Sm)(N:QcF w a S.l)(h3:Qa7 w xa S.n S.R S.F S.T)(hp:p.length<=1048576)(hpc:p.length<=pc/\ pc<=9223372036854775807)(hseg:Qaw w pa p):
  Cl 36 #[.agg #[.slice a S.l.length c,.slice xa S.n d],.slice pa p.length pc] w fun e w'=>∃a m x t a' m' x' t',e=.returned (.tuple #[.agg #[.slice a (rmX S p).l.length m,.slice x (rmX S p).n t],.agg #[.slice a' (rmY S p).l.length m',.slice x' (rmY S p).n t'],.int .i64 (rmC S p)])/\ SNc w' w.heap.size a m x (rmX S p)/\ SNc w' w.heap.size a' m' x' (rmY S p)/\ Bl w w':=by
 obtain⟨W,E⟩:=zE (((w.alloc (.cells #[.slice a S.l.length c,.slice xa S.n d] 40)).alloc (.cells #[.slice none 0 0,.slice none 0 0] 40)).alloc (.cells #[.slice none 0 0,.slice none 0 0] 40));have K:Bl w W:=by rw [<- E];exact(Qae _ _ _).alloc (by simp;omega) _
 have zW:W.heap.size=w.heap.size+3:=by rw [<- E];simp
 have A0:Bx2 W w.heap.size (.slice a S.l.length c) (.slice xa S.n d):=by rw [<- E];exact((Bx2.made w _ _ _).allocs _).allocs _
 have R0:Bx2 W (w.heap.size+1) (.slice none 0 0) (.slice none 0 0):=by
  rw [<- E];have:=Bx2.made (w.alloc (.cells #[.slice a S.l.length c,.slice xa S.n d] 40)) (.slice none 0 0) (.slice none 0 0) 40;exact(by simpa using this:Bx2 _ (w.heap.size+1) _ _).allocs _
 have Q0:Bx2 W (w.heap.size+1+1) (.slice none 0 0) (.slice none 0 0):=by
  rw [<- E];simpa using Bx2.made ((w.alloc (.cells #[.slice a S.l.length c,.slice xa S.n d] 40)).alloc (.cells #[.slice none 0 0,.slice none 0 0] 40)) (.slice none 0 0) (.slice none 0 0) 40
 have Hw:=hid A0;have H8:=hid R0;have H7:=hid Q0;have Gg:=hid K;have Gm:=hid zW;obtain⟨k0,D⟩:=A0.q2;have H:=hid (Qbl a c S.l xa S.n d S.R S.F S.T W hm.l1 hm.p1 hm.n1 (N.bw K) (h3.bw K));change Hid (Calls _ _ _ _ fun e w'=>e=.returned (.bool (stB S))/\ _) at H;have H1:=hid N;have H3:=hid h3;have H9:=hid hseg;have H6:=hid hpc;obtain⟨B,hB⟩:=zE (stB S);have I:=hid hB;rw [hB] at H;clear K zW A0 R0 Q0 N h3 hseg hB hpc;go_enter Tryz.func36,Tryz.ntmps36;go_wp2_with fail;try rw [E]
 clear E;refine H.mono ?_;rintro e w1 ⟨rfl,M⟩;have j:=hid (Qaa Gg M);have g:=hid (H8.bw M H8.lt);have b:=hid (H7.bw M H7.lt);have Hx:=hid (Hw.bw M Hw.lt);have Gk:Hid (w.heap.size+3<=w1.heap.size):=hid (by have:=Gm.out;have:=M.size;omega);clear M k0 D H;cases B with
 | false=>
  have s:Hid (rmX S p=Sx.mt/\ rmY S p=Sx.mt/\ rmC S p=1):=hid (by
   have e:=QjR (p:=p) (v:=⟨#[]⟩) I;have:=Qnz (S:=S) (p:=p) (by rw [e];decide);rw [e] at this;exact this)
  obtain⟨r0,r1,rf,q0,q1,qf,Q⟩:=Qeo g b (.slice none 0 0) (.slice none 0 0) (.slice none 0 0) (.slice none 0 0);go_wp2_with fail;obtain⟨r,u⟩:=Q.out;refine zF (v:=.tuple #[.agg #[.slice none 0 0,.slice none 0 0],.agg #[.slice none 0 0,.slice none 0 0],.int .i64 1]) (by simp [results,Tryz.results36,go_sem,r.c0,r.c1,u.c0,u.c1]) ?_;rw [s.1,s.2.1,s.2.2];first
   | exact⟨none,0,none,0,none,0,none,0,rfl,SNc.mt _ _ _ _,SNc.mt _ _ _ _,Qa8 j _ _ _ _⟩
   | exact⟨none,0,none,0,none,0,none,⟨0,rfl⟩,SNc.mt _ _ _ _,SNc.mt _ _ _ _,Qa8 j _ _ _ _⟩
 | true=>
  have Hm:=hid (QeG p pa pc w1 hp (H9.bw j));obtain⟨Z,hZ⟩:=zE (yes (QaH p));rw [hZ] at Hm;have Ga:=hid hZ;clear hZ;go_wp2_with fail;refine Hm.mono ?_;rintro e q ⟨rfl,rfl⟩;clear Hm;cases Z with
  | false=>
   have s:Hid (rmX S p=Sx.mt/\ rmY S p=Sx.mt/\ rmC S p=2):=hid (by
    have e:=Qh6 (p:=p) (v:=⟨#[]⟩) I (fun h=>by have:=Ga.out;rw [Qah h.1] at this;cases this);have:=Qnz (S:=S) (p:=p) (by rw [e];decide);rw [e] at this;exact this)
   obtain⟨r0,r1,rf,q0,q1,qf,Q⟩:=Qeo g b (.slice none 0 0) (.slice none 0 0) (.slice none 0 0) (.slice none 0 0);go_wp2_with fail;obtain⟨r,u⟩:=Q.out;refine zF (v:=.tuple #[.agg #[.slice none 0 0,.slice none 0 0],.agg #[.slice none 0 0,.slice none 0 0],.int .i64 2]) (by simp [results,Tryz.results36,go_sem,r.c0,r.c1,u.c0,u.c1]) ?_;rw [s.1,s.2.1,s.2.2];first
    | exact⟨none,0,none,0,none,0,none,0,rfl,SNc.mt _ _ _ _,SNc.mt _ _ _ _,Qa8 j _ _ _ _⟩
    | exact⟨none,0,none,0,none,0,none,⟨0,rfl⟩,SNc.mt _ _ _ _,SNc.mt _ _ _ _,Qa8 j _ _ _ _⟩
  | true=>
   have Gf:=Qcy.1 Ga;have hs:=Qcx I;have Gj:=hid hs;have Hn:=hid (QnO (S:=S) (p:=p) (QlG I ⟨Gf,by decide⟩));obtain⟨w3,C⟩:=zE (q.alloc (.cells #[] 4));have b3:Bl q w3:=by rw [<- C];exact zO _ _
   have H2:Hid (BR w3 q.heap.size (.slice (some ⟨q.heap.size,0,none⟩) 0 0) (gnB (gnR p) S.l 0)):=hid (by rw [<- C];exact BR.new _);have Hy:=hid b3;have Go:S.l.length<=1000:=hs.2.1;have Gn:=hid (And.intro (Nat.le_refl q.heap.size) b3.size);clear Gf hs b3;go_wp2_with fail;try rw [C]
   clear C;go_loopw [7,8] (fun o i wr=>∃k:Nat,k<=S.l.length/\ i=.int .i64 k/\ Hid (Bl q wr)/\ Hid (BR wr q.heap.size o (gnB (gnR p) S.l k))) (fun _ i _=>S.l.length - (intOf i).toNat);case atStart=>exact⟨0,Nat.zero_le _,rfl,Hy,H2⟩
   case round=>
    clear Hy H2;obtain⟨k,hk,rfl,O,G⟩:=hrel;have V:=hid (Qaa j O);have A1:=Hx.bw O Hx.lt;obtain⟨k0,D⟩:=A1.q2;by_cases Ht:k<S.l.length
    ·have i1:(0:Int)<=(k:Int):=Int.natCast_nonneg _;have i2:(k:Int)<(S.l.length:Int):=by omega
     obtain⟨ab,ao,rfl,Gb,Gd⟩:=(H1).resolve_left (by omega);obtain⟨qa,qc,⟨z,Hc⟩,sg,A,c2,c3,c4⟩:=Gd k Ht;have x0:=(V.cell (p:=⟨ab,ao+k*5,none⟩) Gb).trans z;have J:=hid (Qjc p (gL S.l k).p pa qa pc qc wr H6.1 Hc.1 H6.2 Hc.2 (H9.bw V) (sg.bw V));have Ha:Hid (gnB (gnR p) S.l (k+1)=gnB (gnR p) S.l k++[yes (p <+:(gL S.l k).p)]):=hid (Qe2 Ht);obtain⟨bb,Gc⟩:=zE (yes (p <+:(gL S.l k).p));obtain⟨lp,Ge⟩:=zE ((gL S.l k).p.length);rw [Gc] at J Ha;rw [Ge] at J x0;clear Gc Ge Gd sg z A c2 c3 c4 Hc Gb A1;go_wp2_with fail;refine J.mono ?_;rintro e w4 ⟨rfl,dn,Hu⟩;have Hz:Hid (Bl q w4):=hid (by rw [Hu];exact Qat O dn);have o4:BR w4 q.heap.size u7 (gnB (gnR p) S.l k):=by rw [Hu];exact G.bw (Qat zI dn)
     obtain⟨v5,U,Hf,o5,y⟩:=QfH q.heap.size w4 u7 (gnB (gnR p) S.l k) bb o4 Hz.size (by have:=Qio (gnR p) S.l k;omega);have Gh:=hid (Hz.trans y);have Gi:Hid (BR U q.heap.size v5 (gnB (gnR p) S.l (k+1))):=hid (by rw [Ha.out];exact o5);clear J Hu o4 o5 y Ha x0 k0 D G;go_wp2_with (at_builtin;refine Qab rfl _ _ _ _ rfl Hf (by rfl) (by rfl) rfl ?_;clear Hf);go_roundw;case rel=>exact⟨k+1,Ht,by go_num,Gh,Gi⟩
     case measure=>simp [intOf];omega
    ·obtain rfl:k=S.l.length:=by omega
     obtain⟨gg,gc,hv,Hs,Hr⟩:=G.cells;subst hv;rw [QcM];rw [QcM] at Hr;obtain⟨U,Hv⟩:=zE (wr.alloc (.cells #[] 106));have y:Bl wr U:=by rw [<- Hv];exact zO _ _
     have Ho:=Qaa O y;have Hp:=Qaa V y;have Hl:=hid (Qd4 (gnR p) [] a c xa d gg gc (some ⟨wr.heap.size,0,none⟩) 0 S U Gj (PtO.nil S) (H1.bw Hp) (H3.bw Hp) (Nat.lt_of_lt_of_le Hs y.size) (fun i hi=>by
      rw [<- Qin hi];exact(y.cell (p:=⟨gg,i,none⟩) Hs).trans (Hr i hi)) (.inl rfl))
     obtain⟨X,hX⟩:=zE (chX S (dlS (gnR p) S.l []));obtain⟨Y,hY⟩:=zE (chY S (dlS (gnR p) S.l []));obtain⟨Cc,Hq⟩:=zE (chC S (dlS (gnR p) S.l []));rw [hX,hY,Hq] at Hl;have Hb:Hid (rmX S p=X/\ rmY S p=Y/\ rmC S p=Cc):=hid ⟨Hn.1.trans hX,Hn.2.1.trans hY,Hn.2.2.trans Hq⟩;have Hk:=hid Ho;have Gl:Hid (w.heap.size+3<=U.heap.size):=hid (by have N:=Gk.out;have h2:=Ho.size;omega);clear hX hY Hq Hs Hr y Ho Hp G O A1;go_wp2_with fail;try rw [Hv]
     clear Hv;refine Hl.mono ?_;rintro e w4 ⟨P,rc,rx,rd,Hg,Hh,Hj,Hi,rfl,ox,oy,b4⟩;have L:=Qaa Hk b4;have Hd:=hid (g.bw L g.lt);have He:=hid (b.bw L b.lt);have H0:=hid (Qaa j L);have H4:=hid ox;have H5:=hid oy;clear b4 L ox oy Hl k0 D g b j;have g:=Hd;have b:=He;have j:=H0;clear Hd He H0;obtain⟨r0,r1,rf,q0,q1,qf,Q⟩:=Qeo g b (.slice P X.l.length rc) (.slice rx X.n rd) (.slice Hg Y.l.length Hh) (.slice Hj Y.n Hi);go_wp2_with fail;obtain⟨r,u⟩:=Q.out;refine zF (v:=.tuple #[.agg #[.slice P X.l.length rc,.slice rx X.n rd],.agg #[.slice Hg Y.l.length Hh,.slice Hj Y.n Hi],.int .i64 Cc]) (by simp [results,Tryz.results36,go_sem,r.c0,r.c1,u.c0,u.c1]) ?_;have hz:=Gl.out;rw [Hb.1,Hb.2.1,Hb.2.2];first
      | exact⟨P,rc,rx,rd,Hg,Hh,Hj,Hi,rfl,Qek H4 (by omega) _ _ _ _,Qek H5 (by omega) _ _ _ _,Qa8 j _ _ _ _⟩
      | exact⟨P,rc,rx,rd,Hg,Hh,Hj,⟨Hi,rfl⟩,Qek H4 (by omega) _ _ _ _,Qek H5 (by omega) _ _ _ _,Qa8 j _ _ _ _⟩
def seP (S:Sx)(rep:Int)(p:List ByteArray)(fl on:Bool)(v:ByteArray):List Lf:=if on then [nxY S rep p fl v] else []
def Qk8 (S:Sx)(rep:Int)(on:Bool):Prop:=(0<=rep/\ rep<8)/\ (on=true ->QaW S.R S.T rep S.n+1<=1000000000)
noncomputable def seD (S:Sx)(rep:Int)(p:List ByteArray)(fl on:Bool)(v:ByteArray):Sx:=dlS (gnS p fl) S.l (seP S rep p fl on v)
noncomputable def seC (S:Sx)(rep:Int)(p:List ByteArray)(fl on:Bool)(v:ByteArray):Int:=if ocC S p v=0 then(if yes (Qk8 S rep on)=true then chC S (seD S rep p fl on v) else 3) else ocC S p v
noncomputable def seX (S:Sx)(rep:Int)(p:List ByteArray)(fl on:Bool)(v:ByteArray):Sx:=if ocC S p v=0 then(if yes (Qk8 S rep on)=true then chX S (seD S rep p fl on v) else Sx.mt) else Sx.mt
noncomputable def seY (S:Sx)(rep:Int)(p:List ByteArray)(fl on:Bool)(v:ByteArray):Sx:=if ocC S p v=0 then(if yes (Qk8 S rep on)=true then chY S (seD S rep p fl on v) else Sx.mt) else Sx.mt
section
variable {S : Sx} {rep : Int} {p : List ByteArray} {fl on : Bool} {v : ByteArray}
theorem Qmc (h:ocC S p v≠0):seX S rep p fl on v=Sx.mt/\ seY S rep p fl on v=Sx.mt/\ seC S rep p fl on v=ocC S p v:=by unfold seX seY seC;rw [if_neg h,if_neg h,if_neg h];exact⟨rfl,rfl,rfl⟩
theorem Qni (h:ocC S p v=0)(hn:¬Qk8 S rep on):seX S rep p fl on v=Sx.mt/\ seY S rep p fl on v=Sx.mt/\ seC S rep p fl on v=3:=by unfold seX seY seC;rw [if_pos h,if_pos h,if_pos h,Qaf hn];exact⟨rfl,rfl,rfl⟩
theorem Qnk (h:ocC S p v=0)(hn:Qk8 S rep on):seX S rep p fl on v=chX S (seD S rep p fl on v)/\ seY S rep p fl on v=chY S (seD S rep p fl on v)/\ seC S rep p fl on v=chC S (seD S rep p fl on v):=by unfold seX seY seC;rw [if_pos h,if_pos h,if_pos h,Qah hn];exact⟨rfl,rfl,rfl⟩
theorem Qnj (hs:QaT S.R S.F S.T S.n S.l)(hp:QaH p)(hv:v.size<=200)(hf:fl=true ->emB v=true)(h:Qk8 S rep on):PtO S (seP S rep p fl on v):=by
 unfold seP;cases on with
 | true=>exact QiC hs hp hv hf ⟨h.1,h.2 rfl⟩
 | false=>exact PtO.nil S
theorem QjQ (hs:QaT S.R S.F S.T S.n S.l):QbP S.R S.F S.T rep S.n=yes (Qgk S rep):=by
 have j:=QeQ hs.1 rep;have e:QbP S.R S.F S.T rep S.n=QaJ rep (QaW S.R S.T rep S.n+1) (QaW S.R S.T rep S.n+1):=by unfold QbP;rw [hs.1];rfl
 rw [e];by_cases h:Qgk S rep
 ·rw [Qah h];exact Qcc ⟨h.1.1,h.1.2,by omega,by omega,h.2⟩
 ·rw [Qaf h];exact Qa4 (fun hh=>h ⟨⟨hh.1,hh.2.1⟩,by omega⟩)
end
theorem QjJ (B:Nat)(w:World)(g0:Nat)(pa:Option Addr)(m pc:Nat)(fl:Bool)(r q:Int)(v:ByteArray)(h:w.ownsRow B 106 5 (.slice (some ⟨g0,0,none⟩) 0 0) 0 [])(hB:B<=w.heap.size):
  ∃g c w',(Builtin.append_ #[35,35] 35 #[.slice (some ⟨g0,0,none⟩) 0 0,.slice (some ⟨w.heap.size,0,none⟩) 1 1]).run Tryz.prog (w.alloc (.cells #[.slice pa m pc,.bool fl,.int .i64 r,.int .i64 q,.string v] 106))=.ok (.slice (some ⟨g,0,none⟩) 1 c) w'/\ Below B w w'/\ g<w'.heap.size/\ w'.cell? ⟨g,0,none⟩=some (.slice pa m pc)/\ w'.cell? ⟨g,1,none⟩=some (.bool fl)/\ w'.cell? ⟨g,2,none⟩=some (.int .i64 r)/\ w'.cell? ⟨g,3,none⟩=some (.int .i64 q)/\ w'.cell? ⟨g,4,none⟩=some (.string v):=by
 obtain⟨Z,hi,U,V,Y⟩:=info_parts QbY;have o:Bl w (w.alloc (.cells #[.slice pa m pc,.bool fl,.int .i64 r,.int .i64 q,.string v] 106)):=zO _ _;have z:=World.ownsRow.alloc h (.cells #[.slice pa m pc,.bool fl,.int .i64 r,.int .i64 q,.string v] 106);have p:=Qb5 w (.slice pa m pc) (.bool fl) (.int .i64 r) (.int .i64 q) (.string v) 106;obtain⟨t,b⟩:=zE (w.alloc (.cells #[.slice pa m pc,.bool fl,.int .i64 r,.int .i64 q,.string v] 106));rw [b] at z p o ⊢;have L:t.heap.size=w.heap.size+1:=by rw [<- b];simp
 obtain⟨v',A,Q,i,M,H,I⟩:=run_append_own_at (P:=Tryz.prog) t B 35 35 106 Z _ 5 64 Tryz.underlying35 hi U V Y rfl (by decide) (.slice (some ⟨g0,0,none⟩) 0 0) 0 [] z ⟨w.heap.size,0,none⟩ 1 1 [.slice pa m pc,.bool fl,.int .i64 r,.int .i64 q,.string v] rfl p (fun u hu=>by
  simp only [List.mem_cons,List.not_mem_nil,or_false] at hu;rcases hu with e|e|e|e|e<;>rw [e]<;>rfl) (by unfold maxLen;omega) (by omega) (by omega)
 rcases i.2 with ⟨s,J⟩|⟨g,E,G,s,K,O,r1,r2,N,X⟩
 ·omega
 subst s;have y:∀j,j<5 ->A.cell? ⟨g,j,none⟩=([.slice pa m pc,.bool fl,.int .i64 r,.int .i64 q,.string v]:List Value)[j]? :=fun j hj=>World.ownsRow.cellAt i j (by omega);refine⟨g,E,A,Q,?_,(Array.getElem?_eq_some_iff.1 O).1,y 0 (by omega),y 1 (by omega),y 2 (by omega),y 3 (by omega),y 4 (by omega)⟩;exact(o.mono hB).grown M (by omega) (fun k hk=>(World.ownsRow.lt z k hk).1)
theorem Qk0 (a:Option Addr)(c:Nat)(xa:Option Addr)(d:Nat)(pa:Option Addr)(pc:Nat)(S:Sx)(rep:Int)(p:List ByteArray)(fl on:Bool)(v:ByteArray)(w:World)(hm:S.Sm)(hT:I64 S.T)(h1:QcF w a S.l)(h3:Qa7 w xa S.n S.R S.F S.T)(hp:p.length<=1048576)(hpc:p.length<=pc/\ pc<=9223372036854775807)(hseg:Qaw w pa p)(hv:v.size<=1048576)(hfv:fl=true ->emB v=true):
  Cl 61 #[.agg #[.slice a S.l.length c,.slice xa S.n d],.int .i64 rep,.slice pa p.length pc,.bool fl,.bool on,.string v] w fun e w'=>∃a m x t a' m' x' t',e=.returned (.tuple #[.agg #[.slice a (seX S rep p fl on v).l.length m,.slice x (seX S rep p fl on v).n t],.agg #[.slice a' (seY S rep p fl on v).l.length m',.slice x' (seY S rep p fl on v).n t'],.int .i64 (seC S rep p fl on v)])/\ SNc w' w.heap.size a m x (seX S rep p fl on v)/\ SNc w' w.heap.size a' m' x' (seY S rep p fl on v)/\ Bl w w':=by
 obtain⟨W,hW⟩:=zE (((w.alloc (.cells #[.slice a S.l.length c,.slice xa S.n d] 40)).alloc (.cells #[.slice none 0 0,.slice none 0 0] 40)).alloc (.cells #[.slice none 0 0,.slice none 0 0] 40));have b0:Bl w W:=by rw [<- hW];exact(Qae _ _ _).alloc (by simp;omega) _
 have zW:W.heap.size=w.heap.size+3:=by rw [<- hW];simp
 have A0:Bx2 W w.heap.size (.slice a S.l.length c) (.slice xa S.n d):=by rw [<- hW];exact((Bx2.made w _ _ _).allocs _).allocs _
 have R0:Bx2 W (w.heap.size+1) (.slice none 0 0) (.slice none 0 0):=by
  rw [<- hW];have:=Bx2.made (w.alloc (.cells #[.slice a S.l.length c,.slice xa S.n d] 40)) (.slice none 0 0) (.slice none 0 0) 40;exact(by simpa using this:Bx2 _ (w.heap.size+1) _ _).allocs _
 have Q0:Bx2 W (w.heap.size+1+1) (.slice none 0 0) (.slice none 0 0):=by
  rw [<- hW];simpa using Bx2.made ((w.alloc (.cells #[.slice a S.l.length c,.slice xa S.n d] 40)).alloc (.cells #[.slice none 0 0,.slice none 0 0] 40)) (.slice none 0 0) (.slice none 0 0) 40
 have Gq:=hid A0;have Gt:=hid R0;have Gs:=hid Q0;have G6:=hid b0;have Kd:=hid zW;obtain⟨k0,k1⟩:=A0.q2;have Gg:=hid (Qbl a c S.l xa S.n d S.R S.F S.T W hm.l1 hm.p1 hm.n1 (h1.bw b0) (h3.bw b0));change Hid (Calls _ _ _ _ fun e w'=>e=.returned (.bool (stB S))/\ _) at Gg;have H1:=hid h1;have H3:=hid h3;have Gh:=hid hseg;have Gb:=hid hpc;have G8:=hid hfv;have G9:=hid hm.n1;obtain⟨B,hB⟩:=zE (stB S);have Gc:=hid hB;rw [hB] at Gg;clear b0 zW A0 R0 Q0 h1 h3 hseg hB hpc hfv;go_enter Tryz.func61,Tryz.ntmps61;go_wp2_with fail;try rw [hW]
 clear hW;refine Gg.mono ?_;rintro e w1 ⟨rfl,b1⟩;have j:=hid (Qaa G6 b1);have z:=hid (Gt.bw b1 Gt.lt);have g:=hid (Gs.bw b1 Gs.lt);have H4:=hid (Gq.bw b1 Gq.lt);have Gv:Hid (w.heap.size+3<=w1.heap.size):=hid (by have:=Kd.out;have:=b1.size;omega);clear b1 k0 k1 Gg;cases B with
 | false=>
  have U:Hid (seX S rep p fl on v=Sx.mt/\ seY S rep p fl on v=Sx.mt/\ seC S rep p fl on v=1):=hid (by
   have e:=QjR (p:=p) (v:=v) Gc;have:=Qmc (S:=S) (rep:=rep) (p:=p) (fl:=fl) (on:=on) (v:=v) (by rw [e];decide);rw [e] at this;exact this)
  obtain⟨r0,r1,rf,q0,q1,qf,P⟩:=Qeo z g (.slice none 0 0) (.slice none 0 0) (.slice none 0 0) (.slice none 0 0);go_wp2_with fail;obtain⟨A,E⟩:=P.out;refine zF (v:=.tuple #[.agg #[.slice none 0 0,.slice none 0 0],.agg #[.slice none 0 0,.slice none 0 0],.int .i64 1]) (by simp [results,Tryz.results61,go_sem,A.c0,A.c1,E.c0,E.c1]) ?_;rw [U.1,U.2.1,U.2.2];first
   | exact⟨none,0,none,0,none,0,none,0,rfl,SNc.mt _ _ _ _,SNc.mt _ _ _ _,Qa8 j _ _ _ _⟩
   | exact⟨none,0,none,0,none,0,none,⟨0,rfl⟩,SNc.mt _ _ _ _,SNc.mt _ _ _ _,Qa8 j _ _ _ _⟩
 | true=>
  have Gk:=hid (QeG p pa pc w1 hp (Gh.bw j));obtain⟨Z,hZ⟩:=zE (yes (QaH p));rw [hZ] at Gk;have Gw:=hid hZ;clear hZ;go_wp2_with fail;refine Gk.mono ?_;rintro e w2 ⟨rfl,rfl⟩;clear Gk;cases Z with
  | false=>
   have U:Hid (seX S rep p fl on v=Sx.mt/\ seY S rep p fl on v=Sx.mt/\ seC S rep p fl on v=2):=hid (by
    have e:=Qh6 (p:=p) (v:=v) Gc (fun h=>by have:=Gw.out;rw [Qah h.1] at this;cases this);have:=Qmc (S:=S) (rep:=rep) (p:=p) (fl:=fl) (on:=on) (v:=v) (by rw [e];decide);rw [e] at this;exact this)
   obtain⟨r0,r1,rf,q0,q1,qf,P⟩:=Qeo z g (.slice none 0 0) (.slice none 0 0) (.slice none 0 0) (.slice none 0 0);go_wp2_with fail;obtain⟨A,E⟩:=P.out;refine zF (v:=.tuple #[.agg #[.slice none 0 0,.slice none 0 0],.agg #[.slice none 0 0,.slice none 0 0],.int .i64 2]) (by simp [results,Tryz.results61,go_sem,A.c0,A.c1,E.c0,E.c1]) ?_;rw [U.1,U.2.1,U.2.2];first
    | exact⟨none,0,none,0,none,0,none,0,rfl,SNc.mt _ _ _ _,SNc.mt _ _ _ _,Qa8 j _ _ _ _⟩
    | exact⟨none,0,none,0,none,0,none,⟨0,rfl⟩,SNc.mt _ _ _ _,SNc.mt _ _ _ _,Qa8 j _ _ _ _⟩
  | true=>
   by_cases Gf:v.size<=200
   ·have i0:¬(v.size:Int)>200:=by omega
    have Go:=Qcy.1 Gw;have hs:=Qcx Gc;have Gl:=hid hs;have Ka:=hid Go;have Kc:=hid Gf;have Gr:=hid (QlG (p:=p) (v:=v) Gc ⟨Go,Gf⟩);have Gj:=hid (QjX xa S.n d S.R S.F S.T rep w2 G9 (H3.bw j) hT);rw [QjQ hs] at Gj;have l1:=H4.c1;have Kf:S.l.length<=1000:=hs.2.1;clear Go hs Gf;go_wp2_with fail;refine Gj.mono ?_;rintro e w3 ⟨hy,G0,b3⟩;clear Gj l1;obtain⟨J,dq,ok,he,G1,Gy⟩:∃J dq ok,e=.returned (.tuple #[.agg #[.int .i64 J,.int .i64 dq],.bool ok])/\ ok=yes (Qgk S rep)/\ (ok=true ->J=rep/\ dq=QaW S.R S.T rep S.n+1):=by
     cases hk:yes (Qgk S rep) with
     | true=>exact⟨rep,QaW S.R S.T rep S.n+1,true,hy hk,rfl,fun _=>⟨rfl,rfl⟩⟩
     | false=>exact⟨0,0,false,G0 hk,rfl,fun h=>by cases h⟩
    clear hy G0;subst he;have H8:=hid G1;have G7:=hid Gy;clear G1 Gy;obtain⟨s,Ho⟩:=zE (w3.alloc (.cells #[.int .i64 J,.int .i64 dq] 104));have b4:Bl w3 s:=by rw [<- Ho];exact zO _ _
    have Hv:Hid (Bx2 s w3.heap.size (.int .i64 J) (.int .i64 dq)):=hid (by rw [<- Ho];exact Bx2.made _ _ _ _);have V:=hid (Qaa b3 b4);clear b3 b4;by_cases D:Qk8 S rep on
    ·have Ke:=hid D;have G2:0<=rep:=D.1.1;have G3:rep<8:=D.1.2;have G4:¬rep<0:=by omega
     have G5:¬8<=rep:=by omega
     have Gx:=hid (Qnk (S:=S) (rep:=rep) (p:=p) (fl:=fl) (on:=on) (v:=v) Gr D);cases on with
     | true=>
      obtain rfl:ok=true:=by rw [H8.out];exact Qah ⟨D.1,D.2 rfl⟩
      obtain⟨e1,e2⟩:=G7 rfl;subst e1;have Gu:Hid (nxY S J p fl v=⟨p,fl,J,dq,v⟩):=hid (by unfold nxY;rw [<- e2]);have Gm:Hid (seD S J p fl true v=dlS (gnS p fl) S.l [⟨p,fl,J,dq,v⟩]):=hid (by unfold seD seP;rw [if_pos rfl,Gu.out]);have Kb:Hid (PtO S [⟨p,fl,J,dq,v⟩]):=hid (by rw [<- Gu.out];exact QiC Gl Ka Kc G8 ⟨D.1,D.2 rfl⟩);clear D e2;have L:=hid (H4.bw V H4.lt);have Gi:=hid (Qaa j V);obtain⟨w5,N⟩:=zE (s.alloc (.cells #[] 4));have b5:Bl s w5:=by rw [<- N];exact zO _ _
      have H7:Hid (BR w5 s.heap.size (.slice (some ⟨s.heap.size,0,none⟩) 0 0) (gnB (gnS p fl) S.l 0)):=hid (by rw [<- N];exact BR.new _);have H5:=hid b5;clear b5;go_wp2_with fail;try rw [Ho]
      try rw [N]
      clear N Ho;go_loopw [17,18] (fun o i wr=>∃k:Nat,k<=S.l.length/\ i=.int .i64 k/\ Hid (Bl s wr)/\ Hid (BR wr s.heap.size o (gnB (gnS p fl) S.l k))) (fun _ i _=>S.l.length - (intOf i).toNat);case atStart=>exact⟨0,Nat.zero_le _,rfl,H5,H7⟩
      case round=>
       clear H5 H7;obtain⟨k,hk,rfl,G,HO⟩:=hrel;have Hi:=hid (Qaa Gi G);have A1:=L.bw G L.lt;obtain⟨k0,k1⟩:=A1.q2;by_cases Hf:k<S.l.length
       ·have i1:(0:Int)<=(k:Int):=Int.natCast_nonneg _;have i2:(k:Int)<(S.l.length:Int):=by omega
        obtain⟨ab,ao,rfl,Hz,Gd⟩:=(H1).resolve_left (by omega);obtain⟨qa,qc,⟨M,He⟩,sg,O,c2,c3,c4⟩:=Gd k Hf;have x0:=(Hi.cell (p:=⟨ab,ao+k*5,none⟩) Hz).trans M;have x1:=(Hi.cell (p:=⟨ab,ao+k*5+1,none⟩) Hz).trans O;have HC:=hid (QcL (gL S.l k).p p qa pa qc pc wr He.1 Gb.1 He.2 Gb.2 (sg.bw Hi) (Gh.bw Hi));have Hh:Hid (QaD (gL S.l k).p p=0↔(gL S.l k).p=p):=hid Qds;have Ha:Hid (gnB (gnS p fl) S.l (k+1)=gnB (gnS p fl) S.l k++[yes ((gL S.l k).p=p/\ (gL S.l k).fl=fl)]):=hid (Qe2 Hf);obtain⟨y,hy⟩:=zE (gL S.l k);rw [hy] at x0 x1 HC Hh Ha;obtain⟨lp,yf,yr,yq,yv⟩:=y;dsimp only at x0 x1 HC Hh Ha;obtain⟨C,hC⟩:=zE (QaD lp p);rw [hC] at Hh HC;clear hC hy Gd sg M O c2 c3 c4 He Hz A1;go_wp2_with fail;refine HC.mono ?_;rintro e w6 ⟨rfl,dn,Hl⟩;have H6:Hid (Bl s w6):=hid (by rw [Hl];exact Qat G dn);have o6:BR w6 s.heap.size u17 (gnB (gnS p fl) S.l k):=by rw [Hl];exact HO.bw (Qat zI dn)
        have y1:w6.cell? ⟨ab,ao+k*5+1,none⟩=some (.bool yf):=by rw [Hl];simpa using x1
        have m0:w6.cell? ⟨w.heap.size,0,none⟩=some (.slice (some ⟨ab,ao,none⟩) S.l.length c):=by rw [Hl];simpa using k0
        have Q:Hid (∀bb,yes (lp=p/\ yf=fl)=bb ->∃K b,(Builtin.append_ #[110,110] 110 #[u17,.slice (some ⟨w6.heap.size,0,none⟩) 1 1]).run Tryz.prog (w6.alloc (.cells #[.bool bb] 4))=.ok K b/\ BR b s.heap.size K (gnB (gnS p fl) S.l (k+1))/\ Bl s b):=hid (fun bb hbb=>by
         obtain⟨K,b,h1,h2,h3⟩:=QfH s.heap.size w6 u17 (gnB (gnS p fl) S.l k) bb o6 H6.size (by have:=Qio (gnS p fl) S.l k;omega);exact⟨K,b,h1,by rw [Ha.out,hbb];exact h2,H6.trans h3⟩)
        clear HC Hl o6 x0 x1 k0 k1 HO Ha;by_cases hz:C=0
        ·have d0:(C==0)=true:=by simpa using hz
         cases yf<;>cases fl
         ·obtain⟨K,b,r,u,q⟩:=Q true (Qah ⟨Hh.1 hz,rfl⟩);have H:=hid q;have I:=hid u;clear Q u q;go_wp2_with (at_builtin;refine Qab rfl _ _ _ _ rfl r (by rfl) (by rfl) rfl ?_;clear r);go_roundw;case rel=>exact⟨k+1,Hf,by go_num,H,I⟩
          case measure=>simp [intOf];omega
         ·obtain⟨K,b,r,u,q⟩:=Q false (Qaf (fun h=>by cases h.2));have H:=hid q;have I:=hid u;clear Q u q;go_wp2_with (at_builtin;refine Qab rfl _ _ _ _ rfl r (by rfl) (by rfl) rfl ?_;clear r);go_roundw;case rel=>exact⟨k+1,Hf,by go_num,H,I⟩
          case measure=>simp [intOf];omega
         ·obtain⟨K,b,r,u,q⟩:=Q false (Qaf (fun h=>by cases h.2));have H:=hid q;have I:=hid u;clear Q u q;go_wp2_with (at_builtin;refine Qab rfl _ _ _ _ rfl r (by rfl) (by rfl) rfl ?_;clear r);go_roundw;case rel=>exact⟨k+1,Hf,by go_num,H,I⟩
          case measure=>simp [intOf];omega
         ·obtain⟨K,b,r,u,q⟩:=Q true (Qah ⟨Hh.1 hz,rfl⟩);have H:=hid q;have I:=hid u;clear Q u q;go_wp2_with (at_builtin;refine Qab rfl _ _ _ _ rfl r (by rfl) (by rfl) rfl ?_;clear r);go_roundw;case rel=>exact⟨k+1,Hf,by go_num,H,I⟩
          case measure=>simp [intOf];omega
        ·have d0:(C==0)=false:=by simpa using hz
         obtain⟨K,b,r,u,q⟩:=Q false (Qaf (fun h=>hz (Hh.2 h.1)));have H:=hid q;have I:=hid u;clear Q u q;go_wp2_with (at_builtin;refine Qab rfl _ _ _ _ rfl r (by rfl) (by rfl) rfl ?_;clear r);go_roundw;case rel=>exact⟨k+1,Hf,by go_num,H,I⟩
         case measure=>simp [intOf];omega
       ·obtain rfl:k=S.l.length:=by omega
        obtain⟨gg,gc,Gp,H2,H0⟩:=HO.cells;subst Gp;rw [QcM];rw [QcM] at H0;obtain⟨w5,N⟩:=zE (wr.alloc (.cells #[] 106));have b5:Bl wr w5:=by rw [<- N];exact zO _ _
        have Hn:w5.ownsRow wr.heap.size 106 5 (.slice (some ⟨wr.heap.size,0,none⟩) 0 0) 0 []:=by
         rw [<- N];exact World.ownsRow_lit (base:=wr.heap.size) (e:=106) (size:=5) wr #[] 0 zL (by unfold maxLen;omega) rfl
        obtain⟨g7,c7,b,r,q,Gz,q0,q1,q2,q3,q4⟩:=QjJ wr.heap.size w5 wr.heap.size pa p.length pc fl J dq v Hn b5.size;have bW:Bl wr b:=b5.trans q;have Ge:QcF b (some ⟨g7,0,none⟩) [(⟨p,fl,J,dq,v⟩:Lf)]:=by
         refine .inr ⟨g7,0,rfl,Gz,fun i hi=> ?_⟩;obtain rfl:i=0:=by simpa using hi
         exact⟨pa,pc,⟨q0,Gb⟩,(Gh.bw Hi).bw bW,q1,q2,q3,q4⟩
        have D5:=(Hv.bw G Hv.lt).bw b5 (Hv.bw G Hv.lt).lt;obtain⟨t0,t1⟩:=D5.q2;have A7:=(L.bw G L.lt).bw bW (L.bw G L.lt).lt;obtain⟨t2,t3⟩:=A7.q2;have Hw:=Qaa G bW;have Hx:=Qaa Hi bW;have Hu:=hid (Qd4 (gnS p fl) [⟨p,fl,J,dq,v⟩] a c xa d gg gc (some ⟨g7,0,none⟩) c7 S b Gl Kb (H1.bw Hx) (H3.bw Hx) (Nat.lt_of_lt_of_le H2 bW.size) (fun i hi=>by
         rw [<- Qin hi];exact(bW.cell (p:=⟨gg,i,none⟩) H2).trans (H0 i hi)) Ge)
        obtain⟨X,hX⟩:=zE (chX S (dlS (gnS p fl) S.l [⟨p,fl,J,dq,v⟩]));obtain⟨Y,hY⟩:=zE (chY S (dlS (gnS p fl) S.l [⟨p,fl,J,dq,v⟩]));obtain⟨Cc,Hy⟩:=zE (chC S (dlS (gnS p fl) S.l [⟨p,fl,J,dq,v⟩]));rw [hX,hY,Hy] at Hu;have Hd:Hid (seX S J p fl true v=X/\ seY S J p fl true v=Y/\ seC S J p fl true v=Cc):=hid (by
         obtain⟨z1,z2,z3⟩:=Gx.out;rw [Gm.out] at z1 z2 z3;exact⟨z1.trans hX,z2.trans hY,z3.trans Hy⟩)
        have Ht:=hid Hw;have Gn:Hid (w.heap.size+3<=b.heap.size):=hid (by have h1:=Gv.out;have h2:=Hw.size;have h3:=V.size;omega);clear hX hY Hy H2 H0 Hw Hx HO A1 A7 bW Hn k0 k1;have k0:=(L.bw G L.lt).c0;clear b5 D5 Ge q0 q1 q2 q3 q4 Gz q G;go_wp2_with (at_builtin;refine Qab rfl _ _ _ _ rfl r (by rfl) (by rfl) rfl ?_;clear r);refine Hu.mono ?_;rintro e w4 ⟨ra,rc,rx,rd,Hp,Hq,Hs,Hr,rfl,ox,oy,b4⟩;have Hm:=Qaa V (Qaa Ht b4);have Hj:=hid (z.bw Hm z.lt);have Hk:=hid (g.bw Hm g.lt);have Hg:=hid (Qaa j Hm);have H9:=hid ox;have Ga:=hid oy;clear b4 Hm ox oy Hu t2 t3 k0 z g j;try clear t0 t1
        have z:=Hj;have g:=Hk;have j:=Hg;clear Hj Hk Hg;obtain⟨r0,r1,rf,q0,q1,qf,P⟩:=Qeo z g (.slice ra X.l.length rc) (.slice rx X.n rd) (.slice Hp Y.l.length Hq) (.slice Hs Y.n Hr);go_wp2_with fail;obtain⟨A,E⟩:=P.out;refine zF (v:=.tuple #[.agg #[.slice ra X.l.length rc,.slice rx X.n rd],.agg #[.slice Hp Y.l.length Hq,.slice Hs Y.n Hr],.int .i64 Cc]) (by simp [results,Tryz.results61,go_sem,A.c0,A.c1,E.c0,E.c1]) ?_;have hz:=Gn.out;rw [Hd.1,Hd.2.1,Hd.2.2];first
         | exact⟨ra,rc,rx,rd,Hp,Hq,Hs,Hr,rfl,Qek H9 (by omega) _ _ _ _,Qek Ga (by omega) _ _ _ _,Qa8 j _ _ _ _⟩
         | exact⟨ra,rc,rx,rd,Hp,Hq,Hs,⟨Hr,rfl⟩,Qek H9 (by omega) _ _ _ _,Qek Ga (by omega) _ _ _ _,Qa8 j _ _ _ _⟩
     | false=>
      have Gm:Hid (seD S rep p fl false v=dlS (gnS p fl) S.l []):=hid rfl;clear D;have L:=hid (H4.bw V H4.lt);have Gi:=hid (Qaa j V);obtain⟨w5,N⟩:=zE (s.alloc (.cells #[] 4));have b5:Bl s w5:=by rw [<- N];exact zO _ _
      have H7:Hid (BR w5 s.heap.size (.slice (some ⟨s.heap.size,0,none⟩) 0 0) (gnB (gnS p fl) S.l 0)):=hid (by rw [<- N];exact BR.new _);have H5:=hid b5;clear b5;go_wp2_with fail;try rw [Ho]
      try rw [N]
      clear N Ho;go_loopw [17,18] (fun o i wr=>∃k:Nat,k<=S.l.length/\ i=.int .i64 k/\ Hid (Bl s wr)/\ Hid (BR wr s.heap.size o (gnB (gnS p fl) S.l k))) (fun _ i _=>S.l.length - (intOf i).toNat);case atStart=>exact⟨0,Nat.zero_le _,rfl,H5,H7⟩
      case round=>
       clear H5 H7;obtain⟨k,hk,rfl,G,HO⟩:=hrel;have Hi:=hid (Qaa Gi G);have A1:=L.bw G L.lt;obtain⟨k0,k1⟩:=A1.q2;by_cases Hf:k<S.l.length
       ·have i1:(0:Int)<=(k:Int):=Int.natCast_nonneg _;have i2:(k:Int)<(S.l.length:Int):=by omega
        obtain⟨ab,ao,rfl,Hz,Gd⟩:=(H1).resolve_left (by omega);obtain⟨qa,qc,⟨M,He⟩,sg,O,c2,c3,c4⟩:=Gd k Hf;have x0:=(Hi.cell (p:=⟨ab,ao+k*5,none⟩) Hz).trans M;have x1:=(Hi.cell (p:=⟨ab,ao+k*5+1,none⟩) Hz).trans O;have HC:=hid (QcL (gL S.l k).p p qa pa qc pc wr He.1 Gb.1 He.2 Gb.2 (sg.bw Hi) (Gh.bw Hi));have Hh:Hid (QaD (gL S.l k).p p=0↔(gL S.l k).p=p):=hid Qds;have Ha:Hid (gnB (gnS p fl) S.l (k+1)=gnB (gnS p fl) S.l k++[yes ((gL S.l k).p=p/\ (gL S.l k).fl=fl)]):=hid (Qe2 Hf);obtain⟨y,hy⟩:=zE (gL S.l k);rw [hy] at x0 x1 HC Hh Ha;obtain⟨lp,yf,yr,yq,yv⟩:=y;dsimp only at x0 x1 HC Hh Ha;obtain⟨C,hC⟩:=zE (QaD lp p);rw [hC] at Hh HC;clear hC hy Gd sg M O c2 c3 c4 He Hz A1;go_wp2_with fail;refine HC.mono ?_;rintro e w6 ⟨rfl,dn,Hl⟩;have H6:Hid (Bl s w6):=hid (by rw [Hl];exact Qat G dn);have o6:BR w6 s.heap.size u17 (gnB (gnS p fl) S.l k):=by rw [Hl];exact HO.bw (Qat zI dn)
        have y1:w6.cell? ⟨ab,ao+k*5+1,none⟩=some (.bool yf):=by rw [Hl];simpa using x1
        have m0:w6.cell? ⟨w.heap.size,0,none⟩=some (.slice (some ⟨ab,ao,none⟩) S.l.length c):=by rw [Hl];simpa using k0
        have Q:Hid (∀bb,yes (lp=p/\ yf=fl)=bb ->∃K b,(Builtin.append_ #[110,110] 110 #[u17,.slice (some ⟨w6.heap.size,0,none⟩) 1 1]).run Tryz.prog (w6.alloc (.cells #[.bool bb] 4))=.ok K b/\ BR b s.heap.size K (gnB (gnS p fl) S.l (k+1))/\ Bl s b):=hid (fun bb hbb=>by
         obtain⟨K,b,h1,h2,h3⟩:=QfH s.heap.size w6 u17 (gnB (gnS p fl) S.l k) bb o6 H6.size (by have:=Qio (gnS p fl) S.l k;omega);exact⟨K,b,h1,by rw [Ha.out,hbb];exact h2,H6.trans h3⟩)
        clear HC Hl o6 x0 x1 k0 k1 HO Ha;by_cases hz:C=0
        ·have d0:(C==0)=true:=by simpa using hz
         cases yf<;>cases fl
         ·obtain⟨K,b,r,u,q⟩:=Q true (Qah ⟨Hh.1 hz,rfl⟩);have H:=hid q;have I:=hid u;clear Q u q;go_wp2_with (at_builtin;refine Qab rfl _ _ _ _ rfl r (by rfl) (by rfl) rfl ?_;clear r);go_roundw;case rel=>exact⟨k+1,Hf,by go_num,H,I⟩
          case measure=>simp [intOf];omega
         ·obtain⟨K,b,r,u,q⟩:=Q false (Qaf (fun h=>by cases h.2));have H:=hid q;have I:=hid u;clear Q u q;go_wp2_with (at_builtin;refine Qab rfl _ _ _ _ rfl r (by rfl) (by rfl) rfl ?_;clear r);go_roundw;case rel=>exact⟨k+1,Hf,by go_num,H,I⟩
          case measure=>simp [intOf];omega
         ·obtain⟨K,b,r,u,q⟩:=Q false (Qaf (fun h=>by cases h.2));have H:=hid q;have I:=hid u;clear Q u q;go_wp2_with (at_builtin;refine Qab rfl _ _ _ _ rfl r (by rfl) (by rfl) rfl ?_;clear r);go_roundw;case rel=>exact⟨k+1,Hf,by go_num,H,I⟩
          case measure=>simp [intOf];omega
         ·obtain⟨K,b,r,u,q⟩:=Q true (Qah ⟨Hh.1 hz,rfl⟩);have H:=hid q;have I:=hid u;clear Q u q;go_wp2_with (at_builtin;refine Qab rfl _ _ _ _ rfl r (by rfl) (by rfl) rfl ?_;clear r);go_roundw;case rel=>exact⟨k+1,Hf,by go_num,H,I⟩
          case measure=>simp [intOf];omega
        ·have d0:(C==0)=false:=by simpa using hz
         obtain⟨K,b,r,u,q⟩:=Q false (Qaf (fun h=>hz (Hh.2 h.1)));have H:=hid q;have I:=hid u;clear Q u q;go_wp2_with (at_builtin;refine Qab rfl _ _ _ _ rfl r (by rfl) (by rfl) rfl ?_;clear r);go_roundw;case rel=>exact⟨k+1,Hf,by go_num,H,I⟩
         case measure=>simp [intOf];omega
       ·obtain rfl:k=S.l.length:=by omega
        obtain⟨gg,gc,Gp,H2,H0⟩:=HO.cells;subst Gp;rw [QcM];rw [QcM] at H0;obtain⟨w5,N⟩:=zE (wr.alloc (.cells #[] 106));have b5:Bl wr w5:=by rw [<- N];exact zO _ _
        have Hn:w5.ownsRow wr.heap.size 106 5 (.slice (some ⟨wr.heap.size,0,none⟩) 0 0) 0 []:=by
         rw [<- N];exact World.ownsRow_lit (base:=wr.heap.size) (e:=106) (size:=5) wr #[] 0 zL (by unfold maxLen;omega) rfl
        have bW:=b5;have A7:=(L.bw G L.lt).bw bW (L.bw G L.lt).lt;obtain⟨t2,t3⟩:=A7.q2;have Hw:=Qaa G bW;have Hx:=Qaa Hi bW;have Hu:=hid (Qd4 (gnS p fl) [] a c xa d gg gc (some ⟨wr.heap.size,0,none⟩) 0 S w5 Gl (PtO.nil S) (H1.bw Hx) (H3.bw Hx) (Nat.lt_of_lt_of_le H2 bW.size) (fun i hi=>by
         rw [<- Qin hi];exact(bW.cell (p:=⟨gg,i,none⟩) H2).trans (H0 i hi)) (.inl rfl))
        obtain⟨X,hX⟩:=zE (chX S (dlS (gnS p fl) S.l []));obtain⟨Y,hY⟩:=zE (chY S (dlS (gnS p fl) S.l []));obtain⟨Cc,Hy⟩:=zE (chC S (dlS (gnS p fl) S.l []));rw [hX,hY,Hy] at Hu;have Hd:Hid (seX S rep p fl false v=X/\ seY S rep p fl false v=Y/\ seC S rep p fl false v=Cc):=hid (by
         obtain⟨z1,z2,z3⟩:=Gx.out;rw [Gm.out] at z1 z2 z3;exact⟨z1.trans hX,z2.trans hY,z3.trans Hy⟩)
        have Ht:=hid Hw;have Gn:Hid (w.heap.size+3<=w5.heap.size):=hid (by have h1:=Gv.out;have h2:=Hw.size;have h3:=V.size;omega);clear hX hY Hy H2 H0 Hw Hx HO A1 A7 bW Hn k0 k1;have k0:=(L.bw G L.lt).c0;clear b5 G;go_wp2_with fail;try rw [N]
        clear N;refine Hu.mono ?_;rintro e w4 ⟨ra,rc,rx,rd,Hp,Hq,Hs,Hr,rfl,ox,oy,b4⟩;have Hm:=Qaa V (Qaa Ht b4);have Hj:=hid (z.bw Hm z.lt);have Hk:=hid (g.bw Hm g.lt);have Hg:=hid (Qaa j Hm);have H9:=hid ox;have Ga:=hid oy;clear b4 Hm ox oy Hu t2 t3 k0 z g j;try clear t0 t1
        have z:=Hj;have g:=Hk;have j:=Hg;clear Hj Hk Hg;obtain⟨r0,r1,rf,q0,q1,qf,P⟩:=Qeo z g (.slice ra X.l.length rc) (.slice rx X.n rd) (.slice Hp Y.l.length Hq) (.slice Hs Y.n Hr);go_wp2_with fail;obtain⟨A,E⟩:=P.out;refine zF (v:=.tuple #[.agg #[.slice ra X.l.length rc,.slice rx X.n rd],.agg #[.slice Hp Y.l.length Hq,.slice Hs Y.n Hr],.int .i64 Cc]) (by simp [results,Tryz.results61,go_sem,A.c0,A.c1,E.c0,E.c1]) ?_;have hz:=Gn.out;rw [Hd.1,Hd.2.1,Hd.2.2];first
         | exact⟨ra,rc,rx,rd,Hp,Hq,Hs,Hr,rfl,Qek H9 (by omega) _ _ _ _,Qek Ga (by omega) _ _ _ _,Qa8 j _ _ _ _⟩
         | exact⟨ra,rc,rx,rd,Hp,Hq,Hs,⟨Hr,rfl⟩,Qek H9 (by omega) _ _ _ _,Qek Ga (by omega) _ _ _ _,Qa8 j _ _ _ _⟩
    ·have U:=hid (Qni (S:=S) (rep:=rep) (p:=p) (fl:=fl) (on:=on) (v:=v) Gr D);by_cases hr:0<=rep/\ rep<8
     ·have G2:0<=rep:=hr.1;have G3:rep<8:=hr.2;have G4:¬rep<0:=by omega
      have G5:¬8<=rep:=by omega
      cases on with
      | true=>
       obtain rfl:ok=false:=by rw [H8.out];exact Qaf (fun h=>D ⟨hr,fun _=>h.2⟩)
       clear D hr;have Hb:=hid (z.bw V z.lt);have Hc:=hid (g.bw V g.lt);have Hg:=hid (Qaa j V);clear z g j V Hv;have z:=Hb;have g:=Hc;have j:=Hg;clear Hb Hc Hg;obtain⟨r0,r1,rf,q0,q1,qf,P⟩:=Qeo z g (.slice none 0 0) (.slice none 0 0) (.slice none 0 0) (.slice none 0 0);go_wp2_with fail;try rw [Ho]
       obtain⟨A,E⟩:=P.out;refine zF (v:=.tuple #[.agg #[.slice none 0 0,.slice none 0 0],.agg #[.slice none 0 0,.slice none 0 0],.int .i64 3]) (by simp [results,Tryz.results61,go_sem,A.c0,A.c1,E.c0,E.c1]) ?_;rw [U.1,U.2.1,U.2.2];first
        | exact⟨none,0,none,0,none,0,none,0,rfl,SNc.mt _ _ _ _,SNc.mt _ _ _ _,Qa8 j _ _ _ _⟩
        | exact⟨none,0,none,0,none,0,none,⟨0,rfl⟩,SNc.mt _ _ _ _,SNc.mt _ _ _ _,Qa8 j _ _ _ _⟩
      | false=>exact absurd ⟨hr,fun h=>by cases h⟩ D
     ·by_cases G4:rep<0
      ·clear D hr;have Hb:=hid (z.bw V z.lt);have Hc:=hid (g.bw V g.lt);have Hg:=hid (Qaa j V);clear z g j V Hv;have z:=Hb;have g:=Hc;have j:=Hg;clear Hb Hc Hg;obtain⟨r0,r1,rf,q0,q1,qf,P⟩:=Qeo z g (.slice none 0 0) (.slice none 0 0) (.slice none 0 0) (.slice none 0 0);go_wp2_with fail;try rw [Ho]
       obtain⟨A,E⟩:=P.out;refine zF (v:=.tuple #[.agg #[.slice none 0 0,.slice none 0 0],.agg #[.slice none 0 0,.slice none 0 0],.int .i64 3]) (by simp [results,Tryz.results61,go_sem,A.c0,A.c1,E.c0,E.c1]) ?_;rw [U.1,U.2.1,U.2.2];first
        | exact⟨none,0,none,0,none,0,none,0,rfl,SNc.mt _ _ _ _,SNc.mt _ _ _ _,Qa8 j _ _ _ _⟩
        | exact⟨none,0,none,0,none,0,none,⟨0,rfl⟩,SNc.mt _ _ _ _,SNc.mt _ _ _ _,Qa8 j _ _ _ _⟩
      ·have G2:0<=rep:=by omega
       have G5:8<=rep:=by omega
       have G3:¬rep<8:=by omega
       clear D hr;have Hb:=hid (z.bw V z.lt);have Hc:=hid (g.bw V g.lt);have Hg:=hid (Qaa j V);clear z g j V Hv;have z:=Hb;have g:=Hc;have j:=Hg;clear Hb Hc Hg;obtain⟨r0,r1,rf,q0,q1,qf,P⟩:=Qeo z g (.slice none 0 0) (.slice none 0 0) (.slice none 0 0) (.slice none 0 0);go_wp2_with fail;try rw [Ho]
       obtain⟨A,E⟩:=P.out;refine zF (v:=.tuple #[.agg #[.slice none 0 0,.slice none 0 0],.agg #[.slice none 0 0,.slice none 0 0],.int .i64 3]) (by simp [results,Tryz.results61,go_sem,A.c0,A.c1,E.c0,E.c1]) ?_;rw [U.1,U.2.1,U.2.2];first
        | exact⟨none,0,none,0,none,0,none,0,rfl,SNc.mt _ _ _ _,SNc.mt _ _ _ _,Qa8 j _ _ _ _⟩
        | exact⟨none,0,none,0,none,0,none,⟨0,rfl⟩,SNc.mt _ _ _ _,SNc.mt _ _ _ _,Qa8 j _ _ _ _⟩
   ·have i0:(v.size:Int)>200:=by omega
    have U:Hid (seX S rep p fl on v=Sx.mt/\ seY S rep p fl on v=Sx.mt/\ seC S rep p fl on v=2):=hid (by
     have e:=Qh6 (p:=p) (v:=v) Gc (fun h=>Gf h.2);have:=Qmc (S:=S) (rep:=rep) (p:=p) (fl:=fl) (on:=on) (v:=v) (by rw [e];decide);rw [e] at this;exact this)
    clear Gf;obtain⟨r0,r1,rf,q0,q1,qf,P⟩:=Qeo z g (.slice none 0 0) (.slice none 0 0) (.slice none 0 0) (.slice none 0 0);go_wp2_with fail;obtain⟨A,E⟩:=P.out;refine zF (v:=.tuple #[.agg #[.slice none 0 0,.slice none 0 0],.agg #[.slice none 0 0,.slice none 0 0],.int .i64 2]) (by simp [results,Tryz.results61,go_sem,A.c0,A.c1,E.c0,E.c1]) ?_;rw [U.1,U.2.1,U.2.2];first
     | exact⟨none,0,none,0,none,0,none,0,rfl,SNc.mt _ _ _ _,SNc.mt _ _ _ _,Qa8 j _ _ _ _⟩
     | exact⟨none,0,none,0,none,0,none,⟨0,rfl⟩,SNc.mt _ _ _ _,SNc.mt _ _ _ _,Qa8 j _ _ _ _⟩
theorem JF.mono{c':Nat}{N:List Ky ->Option (Nat×Nat)}(h:JF w B J z N c x0)(hc:c<=c'):JF w B J z N c' x0:=⟨h.tre.mono hc,h.root,h.there⟩
def Qk2 (n:Nat)(o:Option (Nat×Nat)):Value:=.agg #[.map (mF o),.map (mS o),.map (some n)]
def JQ (J:List Lf)(z:List Ky)(c:Nat)(w:World)(e:Ending)(w':World):Prop:=(∃x0 N',e=.returned (.agg #[.map (some x0.1),.map (some x0.2)])/\ JF w' w.heap.size J z N' c x0)/\ Bl w w'
def Qmd (v0:World)(n:Nat)(h:Dt ->Bool):Prop:=∀w,Bl v0 w ->∀r q kl,keyOf Tryz.prog 104 (dtV (r,q))=some kl ->Cl 177 #[.map (some n),.agg #[.int .i64 r,.int .i64 q]] w fun e w''=>e=.returned (.bool (h (r,q)))/\ Bl w w''
structure JH (v0:World)(Na Nb:List Ky ->Option (Nat×Nat))(MA MB:List Ky ->Dt ->Option ByteArray)(ca cb na nb:Nat)(hA hB:Dt ->Bool)(J:List Lf):Prop where
 ta:Tre v0 0 Na MA ca
 tb:Tre v0 0 Nb MB cb
 ha:Qmd v0 na hA
 hb:Qmd v0 nb hB
 hJ:∀z,kmF (MB z) (MA z) hA (kmF (MA z) (MB z) hB (fun _=>none))=Mk J J.length z
 hAh:∀z y,Ah J (z++[y]) ->Na (z++[y])≠none \/Nb (z++[y])≠none
theorem MO.ltv {α β:Type}{kv:α ->Value}{vo:Option β ->Value}{f:α ->Option β}(h:MO w t kv vo mo c f)(hk:w.heap.size<=k):mo≠some k:=fun e=>by have:=h.lt k e;omega
theorem Rng.nomap {α β:Type}{kv:α ->Value}{vo:Option β ->Value}{cnt:Nat}{f:α ->Option β}{ds:List α}(h:Rng w t kv vo mo r c f ds cnt):∀k j,w.heap[r]? ≠some (.map k j):=by
 intro k j e;cases mo with
 | none=>rw [h.1] at e;cases e
 | some b=>
  obtain⟨D,p,⟨v,u,E,A,q,o,F,i,g,m,s⟩,y,z⟩:=h;rw [m] at e;cases e
theorem QgM {v0:World}{Na Nb:List Ky ->Option (Nat×Nat)}{MA MB:List Ky ->Dt ->Option ByteArray}{ca cb na nb:Nat}{hA hB:Dt ->Bool}(H:JH v0 Na Nb MA MB ca cb na nb hA hB J)(z:List Ky)(c':Nat)(hc:ca+cb<=c')(hc2:c'+(ca+cb)<=1048576)
  (hIH:∀y,(Na (z++[y])≠none \/Nb (z++[y])≠none) ->∀w,Bl v0 w ->Cl 139 #[Qk2 na (Na (z++[y])),Qk2 nb (Nb (z++[y]))] w (JQ J (z++[y]) c' w))
  (w:World) (hw:Bl v0 w):
  Cl 139 #[Qk2 na (Na z),Qk2 nb (Nb z)] w (JQ J z (c'+(ca+cb)) w):=by
 have Gi:=hid (H.ta.mo_marks z);have Gj:=hid (H.tb.mo_marks z);have Ga:=hid (H.ta.mo_kids z);have Gv:=hid (H.tb.mo_kids z);have Kg:=hid (fun(s:ByteArray)(k:Int)(G:Lit)(w:World)(hw:Bl v0 w)(P:keyOf Tryz.prog 208 (Qa5 (s,k))=some G)=>QkH z s k (some na) 0 ca Na MA w G P (H.ta.bw hw));have Kh:=hid (fun(s:ByteArray)(k:Int)(G:Lit)(w:World)(hw:Bl v0 w)(P:keyOf Tryz.prog 208 (Qa5 (s,k))=some G)=>QkH z s k (some nb) 0 cb Nb MB w G P (H.tb.bw hw));have Ko:=hid hIH;have HH:=hid H;have HV:=hid hw;have HC:=hid (And.intro hc hc2);unfold Qk2 at Kg Kh Ko ⊢;obtain⟨A,K7⟩:=zE (mF (Na z));obtain⟨L,K8⟩:=zE (mS (Na z));obtain⟨E,K9⟩:=zE (mF (Nb z));obtain⟨q,Ja⟩:=zE (mS (Nb z));rw [K7,K8] at Kg ⊢;rw [K9,Ja] at Kh ⊢;rw [K8] at Gi;rw [Ja] at Gj;rw [K7] at Ga;rw [K9] at Gv;clear K7 K8 K9 Ja H hIH hw hc hc2;obtain⟨W,hW⟩:=zE (((w.alloc (.cells #[.map A,.map L,.map (some na)] 160)).alloc (.cells #[.map E,.map q,.map (some nb)] 160)).alloc (.cells #[.map none,.map none] 156));have B0:Bl w W:=by rw [<- hW];exact(Qae _ _ _).alloc (by simp;omega) _
 have X0:Bx3 W w.heap.size (.map A) (.map L) (.map (some na)):=by
  rw [<- hW];exact((Bx3.made w _ _ _ _).bw (zO _ _) (Bx3.made w _ _ _ _).lt).bw (zO _ _) (by simp;omega)
 have X1:Bx3 W (w.heap.size+1) (.map E) (.map q) (.map (some nb)):=by
  rw [<- hW];have:=Bx3.made (w.alloc (.cells #[.map A,.map L,.map (some na)] 160)) (.map E) (.map q) (.map (some nb)) 160;exact(by simpa using this:Bx3 _ (w.heap.size+1) _ _ _).bw (zO _ _) (by simp)
 have X2:Bx2 W (w.heap.size+1+1) (.map none) (.map none):=by
  rw [<- hW];simpa using Bx2.made ((w.alloc (.cells #[.map A,.map L,.map (some na)] 160)).alloc (.cells #[.map E,.map q,.map (some nb)] 160)) (.map none) (.map none) 156
 have HX:=hid (And.intro X0 (And.intro X1 X2));have Kl:=hid B0;have Js:Hid (W.heap.size=w.heap.size+3):=hid (by rw [<- hW];simp);clear B0 X0 X1 X2;go_enter Tryz.func139,Tryz.ntmps139;go_wp2_with fail;try rw [hW]
 clear hW;refine(Qd7 W).mono ?_;rintro e w1 ⟨s,s',rfl,Jl,hs,Ju,m1,m2,Jk⟩;obtain⟨x0,rfl,rfl⟩:∃x0:Nat×Nat,x0.1=s/\ x0.2=s':=⟨(s,s'),rfl,rfl⟩;obtain⟨w2,G5⟩:=zE (w1.alloc (.cells #[.map (some x0.1),.map (some x0.2)] 156));have b2:Bl w1 w2:=by rw [<- G5];exact zO _ _
 have Gg:=Qaa Jk b2;have Gy:JB w2 w.heap.size w1.heap.size A L (some na) E q (some nb) x0:=⟨HX.1.bw Gg HX.1.lt,HX.2.1.bw Gg HX.2.1.lt,HX.2.2.bw Gg HX.2.2.lt,by rw [<- G5];exact Bx2.made _ _ _ _⟩;have K4:Hid (Bl v0 W):=hid (HV.trans (Kl.mono HV.size));have V2:Bl v0 w2:=K4.trans (Gg.mono K4.size);have Jh:=hid (Qa3.same m1 (b2.block _ m1.lt));have o:Hid (x0.1<w1.heap.size/\ x0.2<w1.heap.size/\ x0.1≠x0.2/\ w.heap.size+3<=x0.1/\ w.heap.size+3<=x0.2/\ v0.heap.size<=x0.1/\ v0.heap.size<=x0.2):=hid (by
  have t:=Js.out;have h2:=K4.size;exact⟨m1.lt,m2.lt,Jl,by omega,by omega,by omega,by omega⟩)
 have Gk:Hid (L≠some x0.2/\ q≠some x0.2/\ A≠some x0.1/\ E≠some x0.1):=hid ⟨Gi.ltv o.2.2.2.2.2.2,Gj.ltv o.2.2.2.2.2.2,Ga.ltv o.2.2.2.2.2.1,Gv.ltv o.2.2.2.2.2.1⟩;have Gw:=hid (Qed A L E q (some x0.1) (some na) x0.2 nb ca cb 0 (MA z) (MB z) (fun _=>none) hB w2 (Gi.bw V2 (fun b e=>Gi.lt b e)) (Gj.bw V2 (fun b e=>Gj.lt b e)) (Qa3.same m2 (b2.block _ m2.lt)) Gk.1 Gk.2.1 (by have:=HC.out;omega)
  (fun w' hg=>HH.hb w' (V2.grown hg V2.size (fun k e=>by cases e;exact o.2.2.2.2.2.2))))
 obtain⟨p0,p1,p2⟩:=Gy.a.q3;obtain⟨p3,p4,p5⟩:=Gy.b.q3;obtain⟨p6,p7⟩:=Gy.j.q2;have Gt:=hid Gy;have K1:=hid V2;have Km:=hid (Kl.trans (Gg.mono Kl.size));have Gb:Hid (w1.heap.size<w2.heap.size):=hid (by rw [<- G5];simp);clear Gy V2 b2 Gg Jl hs Ju m1 m2 Jk;go_wp2_with fail;try rw [G5]
 clear G5;refine Gw.mono ?_;rintro e w3 ⟨rfl,m3,g3⟩;have nr:∀k,some x0.2=some k ->k≠w.heap.size/\ k≠w.heap.size+1/\ k≠w.heap.size+1+1/\ k≠w1.heap.size:=fun k e=>by
  have t:=o.out;injection e with e;omega
 have Gz:=Gt.gr g3 nr;have V3:Bl v0 w3:=K1.grown g3 K1.size (fun k e=>by cases e;exact o.2.2.2.2.2.2);have Gx:=hid (Qed E q A L (some x0.1) (some nb) x0.2 na cb ca (0+ca) (MB z) (MA z) (kmF (MA z) (MB z) hB (fun _=>none)) hA w3 (Gj.bw V3 (fun b e=>Gj.lt b e)) (Gi.bw V3 (fun b e=>Gi.lt b e)) m3 Gk.2.1 Gk.1 (by have:=HC.out;omega)
  (fun w' hg=>HH.ha w' (V3.grown hg V3.size (fun k e=>by cases e;exact o.2.2.2.2.2.2))))
 clear p0 p1 p2 p3 p4 p5 p6 p7;obtain⟨p0,p1,p2⟩:=Gz.a.q3;obtain⟨p3,p4,p5⟩:=Gz.b.q3;obtain⟨p6,p7⟩:=Gz.j.q2;have Gu:=hid Gz;have K2:=hid V3;have Jf:=hid g3;have Jp:=hid nr;clear Gz V3 m3 g3 Gw nr;go_wp2_with fail;refine Gx.mono ?_;rintro e U ⟨rfl,m4,g4⟩;have K5:=Gu.gr g4 Jp;have V4:Bl v0 U:=K2.grown g4 K2.size (fun k e=>by cases e;exact o.2.2.2.2.2.2);have Kk:=Jf.trans g4;have K3:Hid (Bl w U):=hid (Km.grown Kk Km.size (fun k e=>by have:=o.out;cases e;omega));have Ke:Hid (w1.heap.size<U.heap.size):=hid (Nat.lt_of_lt_of_le Gb Kk.size);have Jg:Hid (JT U w.heap.size J z (fun _=>False) (fun r=>if r=[] then some x0 else none) c' x0):=hid ((JT.start (Qa3.same Jh (Kk.block _ (Nat.lt_trans o.1 Gb) (fun e=>o.2.2.1 (by injection e)))) (by rw [<- HH.hJ z];exact m4) o.2.2.1 (by have:=o.out;omega)).mono (by have:=HC.out;omega));clear p0 p1 p2 p3 p4 p5 p6 p7;have p0:=K5.a.c0;have Kq:=hid K5;have Ki:=hid V4;have Kr:=hid (Ga.bw V4 (fun b e=>Ga.lt b e));have Ji:Hid (∀k,some x0.1=some k ->k≠w.heap.size/\ k≠w.heap.size+1/\ k≠w.heap.size+1+1/\ k≠w1.heap.size):=hid (fun k e=>by
  have t:=o.out;injection e with e;omega)
 have Kf:Hid (w.heap.size<=U.heap.size):=hid K3.size;have Jx:Hid (∀b,A=some b ->b<v0.heap.size):=hid (fun b e=>Ga.lt b e);have Jy:Hid (∀b,E=some b ->b<v0.heap.size):=hid (fun b e=>Gv.lt b e);clear K5 V4 m4 g4 Kk Gx Jf K1 K2 Gt Gu Jh Km Gb;go_wp2_with (at_range;refine QaB _ rfl _ 153 rfl 208 156 Qas Tryz.underlying153 Qa5 QaQ A ca (fun y=>Na (z++[y])) rfl Kr ?_;intro w0 K6 Ho Hv Jc);have Gp:Hid (U.grownBy w0 (some x0.1)):=hid (Hv.but _);have Gs:Hid (JT w0 w.heap.size J z (fun u=>u∈([]:List Ky)) (fun r=>if r=[] then some x0 else none) (c'+([]:List Ky).length) x0):=hid ((Jg.kept' (r:=U.heap.size) (Hv.but _) (fun es cl e=>by have:=(Array.getElem?_eq_some_iff.1 e).1;omega)).congr (fun u=>by simp));have Hh:=hid (Kq.gr Hv (fun k e=>by cases e));clear Hv Jc Jg p0;try go_frame
 go_loopw [] (fun wr=>∃(i:List Ky) (Ge:Nat) (N:List Ky ->Option (Nat×Nat)),Rng wr 208 Qa5 QaQ A U.heap.size ca (fun y=>Na (z++[y])) i Ge/\ Hid (JT wr w.heap.size J z (fun u=>u∈i) N (c'+i.length) x0)/\ Hid (JB wr w.heap.size w1.heap.size A L (some na) E q (some nb) x0)/\ Hid (U.grownBy wr (some x0.1))) (fun wr=>wr.rangeLeft (A.getD 0) U.heap.size);case atStart=>exact⟨[],_,_,Ho,Gs,Hh,Gp⟩
 case round=>
  clear Ho Gs Gp Hh;obtain⟨i,Ge,N,Hx,Gh,R,H1⟩:=hrel;have Ha:=hid Hx;go_wp2_with (at_next;refine QaG _ rfl _ rfl 208 Qas Qa5 (fun _ _=>QaZ) (fun key G P=>Qb0 P) QaQ A U.heap.size ca (fun y=>Na (z++[y])) i Ge rfl Hx ?_ ?_)
  ·intro P;have Kt:=hid P;have Je:Hid (i.length<=ca):=hid (by have:=Ha.len;omega);obtain⟨V,hV⟩:∃V,V=wr:=⟨_,rfl⟩;subst hV;have V5:Bl v0 V:=Ki.grown H1 Ki.size (fun k e=>by have:=o.out;cases e;omega);have Jj:=hid V5;have Gd:Hid (Bl w V):=hid (K3.grown H1 K3.size (fun k e=>by have:=o.out;cases e;omega));have Kz:Hid (w1.heap.size<V.heap.size):=hid (Nat.lt_of_lt_of_le Ke H1.size);have K0:Hid (w.heap.size<=V.heap.size):=hid Gd.size;have Ks:=hid (Gv.bw V5 (fun b e=>Gv.lt b e));have p0:=R.b.c0;clear P Hx V5 Ha Kf;go_wp2_with (at_range;refine QaB _ rfl _ 153 rfl 208 156 Qas Tryz.underlying153 Qa5 QaQ E cb (fun y=>Nb (z++[y])) rfl Ks ?_;intro w0 K6 Ho Hv Jc);have Gp:Hid (V.grownBy w0 (some x0.1)):=hid (Hv.but _);have Gs:Hid (JT w0 w.heap.size J z (fun u=>u∈i \/u∈([]:List Ky)) N (c'+i.length+([]:List Ky).length) x0):=hid ((Gh.kept' (r:=V.heap.size) (Hv.but _) (fun es cl e=>by have:=(Array.getElem?_eq_some_iff.1 e).1;omega)).congr (fun u=>by simp));have Hh:=hid (R.gr Hv (fun k e=>by cases e));clear Hv Jc p0;try go_frame
   clear H1 Gh R;go_loopw [] (fun wr=>∃(S:List Ky) (Ge:Nat) (N:List Ky ->Option (Nat×Nat)),Rng wr 208 Qa5 QaQ E V.heap.size cb (fun y=>Nb (z++[y])) S Ge/\ Hid (JT wr w.heap.size J z (fun u=>u∈i \/u∈S) N (c'+i.length+S.length) x0)/\ Hid (JB wr w.heap.size w1.heap.size A L (some na) E q (some nb) x0)/\ Hid (V.grownBy wr (some x0.1))) (fun wr=>wr.rangeLeft (E.getD 0) V.heap.size);case atStart=>exact⟨[],_,_,Ho,Gs,Hh,Gp⟩
   case round=>
    clear Ho Gs Gp Hh;obtain⟨S,Ge,N,Hx,Gh,R,H1⟩:=hrel;have Ha:=hid Hx;go_wp2_with (at_next;refine QaG _ rfl _ rfl 208 Qas Qa5 (fun _ _=>QaZ) (fun key G P=>Qb0 P) QaQ E V.heap.size cb (fun y=>Nb (z++[y])) S Ge rfl Hx ?_ ?_)
    ·intro P;have HE:Hid (JF wr w.heap.size J z N (c'+(ca+cb)) x0):=hid ((Gh.full (fun y hy=>by
      rcases HH.hAh z y hy with h|h
      ·exact .inl ((Kt.2 y).2 h)
      ·exact .inr ((P.2 y).2 h))).mono (by have t:=Ha.len;have h2:=Je.out;omega))
     have Jn:Hid (Bl w wr):=hid (Gd.grown H1 Gd.size (fun k e=>by have:=o.out;cases e;omega));obtain⟨r0,r1⟩:=R.r.q2;have f0:=R.r.f 0;have f1:=R.r.f 1;obtain⟨j0,j1⟩:=R.j.q2;have Jm:=hid (R.r.set (.map (some x0.1)) (.map (some x0.2)));clear P Hx;go_wp2_with fail;obtain⟨s0,s1⟩:=Jm.q2;refine zF (v:=.agg #[.map (some x0.1),.map (some x0.2)]) (by simp [results,Tryz.results139,go_sem,s0,s1]) ⟨⟨x0,N,rfl,?_⟩,?_⟩
     ·have hb:=R.r;exact⟨(HE.tre.set _ hb.c0).set (v:=.map none) _ (by simp [World.cell?_setCell_other,hb.c1]),HE.root,HE.there⟩
     ·exact(Jn.setCell (by simp;omega) _).setCell (by simp;omega) _
    ·intro xs m Jv Jw I Gf bm G3 G0 G4 G G1 Hp Hl Hw Jd Jb;have Kx:Hid (Na (z++[(xs,m)])≠none \/Nb (z++[(xs,m)])≠none):=hid (Or.inr (by rw [show Nb (z++[(xs,m)])=_ from G0];simp));have H2:=hid G1;have Kn:Hid (c'+i.length+S.length<1048576):=hid (by have t:=Ha.len;have h2:=HC.out;have h3:=Je.out;omega);have Kd:Hid (∀g,Rng g 208 Qa5 QaQ E V.heap.size cb (fun y=>Nb (z++[y])) (S++[(xs,m)]) Gf ->g.rangeLeft (E.getD 0) V.heap.size<wr.rangeLeft (E.getD 0) V.heap.size):=hid (fun g h9=>by
      have t:=Ha.out;rw [G3] at h9 t ⊢;show g.rangeLeft bm _<wr.rangeLeft bm _;rw [h9.left_eq,t.left_eq];exact Hl)
     have Jq:=hid G4;have Gq:Hid (V.grownBy I (some x0.1)):=hid (H1.andThen Hw (fun j e=>by cases e;exact .inl zL));have Kc:=hid (Gh.kept' Hw Ha.nomap);have H8:=hid (R.gr Hw (fun k e=>by have t:=Kz.out;have h2:=o.out;cases e;omega));have Hq:=hid Hp;obtain⟨Hz,G6⟩:=zE (I.alloc (.cells #[.string xs,.int .i64 m] 208));have Kj:Bl I Hz:=by rw [<- G6];exact zO _ _
     have H9:Hid (Bx2 Hz I.heap.size (.string xs) (.int .i64 m)):=hid (by rw [<- G6];exact Bx2.made _ _ _ _);have Hi:=hid (H8.bw Kj);have H4:Hid (V.grownBy Hz (some x0.1)):=hid (Gq.trans (Qb4 Kj _));have Gc:Hid (Bl v0 Hz):=hid (Jj.grown H4 Jj.size (fun k e=>by have:=o.out;cases e;omega));have G2:=(Ga.bw Gc (fun b e=>Ga.lt b e)).look_ok Qas Tryz.underlying153 (Qdo Hz) (x:=(xs,m)) H2;have q0:=Hi.a.c0;obtain⟨q1,q2⟩:=H9.q2;have Gl:=hid Kj;clear G0 G4 G1 Hx Hp Hl Hw Jd G3 Kj;dsimp only [Qa5,QaQ] at Jb G2 ⊢;cases hna:Na (z++[(xs,m)]) with
     | some y9=>
      rw [hna] at G2;obtain⟨p,Hy⟩:=zE (Hz.alloc (.cells #[.map (some y9.1),.map (some y9.2)] 156));have Q:Bl Hz p:=by rw [<- Hy];exact zO _ _
      have B6:=Qaa Gl Q;have Hr:=hid (Hq.same (fun b e=>B6.block b (Hq.mlt b e)) (B6.block _ Hq.lt));have H7:=hid (Kc.bw B6);have Hc:=hid (Hi.bw Q);have H0:Hid (V.grownBy p (some x0.1)):=hid (H4.trans (Qb4 Q _));have Jo:Hid ((xs,m)∈i):=hid ((Kt.2 _).2 (by show Na (z++[(xs,m)])≠none;rw [hna];simp));clear hna Q B6;dsimp only [Option.isSome] at G2;go_wp2_with fail;try rw [Hy]
      go_roundw;case rel=>exact⟨_,_,N,Hr,hid ((H7.congr (fun u=>by
       constructor
       ·rintro(h|h)
        ·exact .inl h
        ·exact .inr (by simp [h])
       ·rintro(h|h)
        ·exact .inl h
        ·rcases List.mem_append.1 h with h|h
         ·exact .inr h
         ·rw [List.mem_singleton.1 h];exact .inl Jo)).mono (by simp)),Hc,H0⟩
      case measure=>exact Kd p Hr
     | none=>
      rw [hna] at G2;have Kw:Hid (¬((xs,m)∈i \/(xs,m)∈S)):=hid (fun h=>h.elim (fun h=>(Kt.2 _).1 h hna) Jq);obtain⟨p,Hy⟩:=zE (Hz.alloc (.cells #[.map none,.map none] 156));have Q:Bl Hz p:=by rw [<- Hy];exact zO _ _
      have B6:=Qaa Gl Q;have Hr:=hid (Hq.same (fun b e=>B6.block b (Hq.mlt b e)) (B6.block _ Hq.lt));have H7:=hid (Kc.bw B6);have Hc:=hid (Hi.bw Q);have Hs:=hid (H9.bw Q H9.lt);have H0:Hid (V.grownBy p (some x0.1)):=hid (H4.trans (Qb4 Q _));have X:Hid (Bl v0 p):=hid (Gc.trans (Q.mono Gc.size));have Kv:Hid (∀k,some x0.1=some k ->k≠I.heap.size):=hid (fun k e=>by have t:=o.out;have h2:=Kz.out;have h3:=Gq.size;cases e;omega);have Ku:Hid (∀b,E=some b ->some x0.1≠some b):=hid (fun b e h=>Gk.2.2.2 (by rw [e,h]));have Kp:Hid (some x0.1≠some V.heap.size):=hid (fun e=>by have t:=o.out;have h2:=Kz.out;injection e with e;omega);have Jr:=hid Hy;clear Q B6 hna Hy;dsimp only [Option.isSome] at G2;have Kf:=K0;obtain⟨G8,Hd⟩:=zE (mF (Na (z++[(xs,m)])));obtain⟨G9,He⟩:=zE (mS (Na (z++[(xs,m)])));obtain⟨Ka,Hf⟩:=zE (mF (Nb (z++[(xs,m)])));obtain⟨Kb,Hg⟩:=zE (mS (Nb (z++[(xs,m)])));have Gm:Hid (∀w1,Bl p w1 ->Cl 165 #[.agg #[.map A,.map L,.map (some na)],.agg #[.string xs,.int .i64 m]] w1 (Rt w1 (.agg #[.map G8,.map G9,.map (some na)]))):=hid (fun w1 q=>by have:=Kg xs m G w1 (X.trans (q.mono X.size)) H2;rw [Hd,He] at this;exact this);have Gn:Hid (∀w1,Bl p w1 ->Cl 165 #[.agg #[.map E,.map q,.map (some nb)],.agg #[.string xs,.int .i64 m]] w1 (Rt w1 (.agg #[.map Ka,.map Kb,.map (some nb)]))):=hid (fun w1 q=>by have:=Kh xs m G w1 (X.trans (q.mono X.size)) H2;rw [Hf,Hg] at this;exact this);have Go:Hid (∀w1,Bl p w1 ->Cl 139 #[.agg #[.map G8,.map G9,.map (some na)],.agg #[.map Ka,.map Kb,.map (some nb)]] w1 (JQ J (z++[(xs,m)]) c' w1)):=hid (fun w1 q=>by have:=Ko (xs,m) Kx w1 (X.trans (q.mono X.size));rw [Hd,He,Hf,Hg] at this;exact this);have T:Hid (∀w',Bl p w' ->(w'.cell? ⟨w1.heap.size,0,none⟩=some (.map (some x0.1))/\ w'.cell? ⟨w1.heap.size,1,none⟩=some (.map (some x0.2))/\ w'.cell? ⟨I.heap.size,0,none⟩=some (.string xs)/\ w'.cell? ⟨I.heap.size,1,none⟩=some (.int .i64 m)/\ w'.cell? ⟨w.heap.size,0,none⟩=some (.map A)/\ w'.cell? ⟨w.heap.size,1,none⟩=some (.map L)/\ w'.cell? ⟨w.heap.size,2,none⟩=some (.map (some na))/\ w'.cell? ⟨w.heap.size+1,0,none⟩=some (.map E)/\ w'.cell? ⟨w.heap.size+1,1,none⟩=some (.map q)/\ w'.cell? ⟨w.heap.size+1,2,none⟩=some (.map (some nb)))):=hid (fun w1 q=>(Hc.bw q).sees (Hs.bw q Hs.lt));have Gr:Hid (∀g O Z,Bl p g ->∀B,JF g B J (z++[(xs,m)]) Z c' O ->Cl 164 #[.agg #[.map (some x0.1),.map (some x0.2)],.agg #[.string xs,.int .i64 m],.agg #[.map (some O.1),.map (some O.2)]] g fun e w'=>e=.returned (.tuple #[])/\ g.grownBy w' (some x0.1)/\
        (Qcl (fun u=>Z [u]) (Mk J J.length (z++[(xs,m)])) ->Qa3 w' 208 Qa5 QaQ x0.1 (c'+i.length+S.length+1) (QcI (fun u=>N [u]) (xs,m) (some O)))/\ (¬Qcl (fun u=>Z [u]) (Mk J J.length (z++[(xs,m)])) ->Bl g w')):=hid (fun g O Z b9 B t=>by
       have hj:=H7.bw b9;have Hu:=t.mono (show c'<=c'+i.length+S.length by omega);exact QmA x0 O xs m (c'+i.length+S.length) (fun u=>N [u]) (fun u=>Z [u]) (Mk J J.length (z++[(xs,m)])) g G H2 (hj.tre.kids [] x0 hj.root) (Hu.tre.kids [] O Hu.root) ((Hu.tre.marks [] O Hu.root).ext fun d=>by simp) Kn)
      clear Hd He Hf Hg;go_wp2_with fail;rw [Jr.out];refine zS T (fun qh=> ?_);refine tZ 0 55 ?_;refine tZ 1 56 ?_;refine tZ 2 57 ?_;refine tZ 3 58 ?_;refine tZ 5 60 ?_;refine tZ 6 61 ?_;refine cZ 4 ?_;intro K M;go_simp;refine(Gm _ zI.drew).mono ?_;rintro e w7 ⟨rfl,C⟩;have Ht:Bl p w7:=⟨C.os,C.tape,C.output,C.size,C.block⟩;refine M.out _ _ (T _ Ht) (fun qh=> ?_);clear M K;try simp only [zP]
      refine cZ 7 ?_;intro K M;go_simp;refine(Gn _ Ht).mono ?_;rintro e w8 ⟨rfl,b8⟩;have D:=Qaa Ht b8;refine M.out _ _ (T _ D) (fun qh=> ?_);clear M K;try simp only [zP]
      refine cZ 8 ?_;intro K M;go_simp;refine(Go _ D).mono ?_;rintro e g ⟨⟨O,Z,rfl,t⟩,b9⟩;have Y:=Qaa D b9;refine M.out _ _ (T _ Y) (fun qh=> ?_);clear M K;try simp only [zP]
      have H5:=hid t;clear t;refine cZ 9 ?_;intro K M;go_simp;refine(Gr g O Z Y _ H5).mono ?_;rintro e G7 ⟨rfl,F,Hm,Hn⟩;have Hb:=hid ((Hc.bw Y).gr F Ji);refine M.out _ _ (Hb.sees ((Hs.bw Y Hs.lt).gr F Kv)) (fun qh=> ?_);clear M K;try simp only [zP]
      refine zD ?_;obtain⟨Jt,Hk⟩:=(H7.bw D).round b9 (H5.mono (show c'<=c'+i.length+S.length by omega)) (Nat.le_trans (Nat.le_trans Kf H0.size) D.size) Kw F Hm Hn;have H3:Hid (V.grownBy G7 (some x0.1)):=hid ((H0.trans (Qb4 Y _)).trans F);have Hj:=hid ((Hr.same (fun b e=>Y.block b (Hr.mlt b e)) (Y.block _ Hr.lt)).kept F Ku Kp);have H6:=hid Hk;clear qh C Ht b8 D b9 Y F Hm Hn Hk T Gm Gn Go Gr H5;go_wp2_with fail;go_roundw;case rel=>exact⟨_,_,_,Hj,hid (by simpa [Nat.add_assoc] using H6.congr (fun u=>by simp [or_assoc])),Hb,H3⟩
      case measure=>exact Kd G7 Hj
  ·intro xs m Jv Jw I Gf bm G3 G0 G4 G G1 Hp Hl Hw Jd Jb;have Kx:Hid (Na (z++[(xs,m)])≠none \/Nb (z++[(xs,m)])≠none):=hid (Or.inl (by rw [show Na (z++[(xs,m)])=_ from G0];simp));have Kw:Hid (¬(xs,m)∈i):=hid G4;have H2:=hid G1;have Kn:Hid (c'+i.length<1048576):=hid (by have t:=Ha.len;have h2:=HC.out;omega);have Kd:Hid (∀g,Rng g 208 Qa5 QaQ A U.heap.size ca (fun y=>Na (z++[y])) (i++[(xs,m)]) Gf ->g.rangeLeft (A.getD 0) U.heap.size<wr.rangeLeft (A.getD 0) U.heap.size):=hid (fun g h9=>by
    have t:=Ha.out;rw [G3] at h9 t ⊢;show g.rangeLeft bm _<wr.rangeLeft bm _;rw [h9.left_eq,t.left_eq];exact Hl)
   have Gq:Hid (U.grownBy I (some x0.1)):=hid (H1.andThen Hw (fun j e=>by cases e;exact .inl zL));have Kc:=hid (Gh.kept' Hw Ha.nomap);have H8:=hid (R.gr Hw (fun k e=>by have t:=Ke.out;have h2:=o.out;cases e;omega));have Hq:=hid Hp;obtain⟨p,Hy⟩:=zE (I.alloc (.cells #[.string xs,.int .i64 m] 208));have Q:Bl I p:=by rw [<- Hy];exact zO _ _
   have Hs:Hid (Bx2 p I.heap.size (.string xs) (.int .i64 m)):=hid (by rw [<- Hy];exact Bx2.made _ _ _ _);have Hr:=hid (Hq.same (fun b e=>Q.block b (Hq.mlt b e)) (Q.block _ Hq.lt));have H7:=hid (Kc.bw Q);have Hc:=hid (H8.bw Q);have H0:Hid (U.grownBy p (some x0.1)):=hid (Gq.trans (Qb4 Q _));have X:Hid (Bl v0 p):=hid (Ki.grown H0 Ki.size (fun k e=>by have:=o.out;cases e;omega));have Kv:Hid (∀k,some x0.1=some k ->k≠I.heap.size):=hid (fun k e=>by have t:=o.out;have h2:=Ke.out;have h3:=Gq.size;cases e;omega);have Ku:Hid (∀b,A=some b ->some x0.1≠some b):=hid (fun b e h=>Gk.2.2.1 (by rw [e,h]));have Kp:Hid (some x0.1≠some U.heap.size):=hid (fun e=>by have t:=o.out;have h2:=Ke.out;injection e with e;omega);clear G0 G4 G1 Hx Hp Hl Hw Jd G3 Q;dsimp only [Qa5,QaQ] at Jb ⊢;obtain⟨G8,Hd⟩:=zE (mF (Na (z++[(xs,m)])));obtain⟨G9,He⟩:=zE (mS (Na (z++[(xs,m)])));obtain⟨Ka,Hf⟩:=zE (mF (Nb (z++[(xs,m)])));obtain⟨Kb,Hg⟩:=zE (mS (Nb (z++[(xs,m)])));have Gm:Hid (∀w1,Bl p w1 ->Cl 165 #[.agg #[.map A,.map L,.map (some na)],.agg #[.string xs,.int .i64 m]] w1 (Rt w1 (.agg #[.map G8,.map G9,.map (some na)]))):=hid (fun w1 q=>by have:=Kg xs m G w1 (X.trans (q.mono X.size)) H2;rw [Hd,He] at this;exact this);have Gn:Hid (∀w1,Bl p w1 ->Cl 165 #[.agg #[.map E,.map q,.map (some nb)],.agg #[.string xs,.int .i64 m]] w1 (Rt w1 (.agg #[.map Ka,.map Kb,.map (some nb)]))):=hid (fun w1 q=>by have:=Kh xs m G w1 (X.trans (q.mono X.size)) H2;rw [Hf,Hg] at this;exact this);have Go:Hid (∀w1,Bl p w1 ->Cl 139 #[.agg #[.map G8,.map G9,.map (some na)],.agg #[.map Ka,.map Kb,.map (some nb)]] w1 (JQ J (z++[(xs,m)]) c' w1)):=hid (fun w1 q=>by have:=Ko (xs,m) Kx w1 (X.trans (q.mono X.size));rw [Hd,He,Hf,Hg] at this;exact this);have T:Hid (∀w',Bl p w' ->(w'.cell? ⟨w1.heap.size,0,none⟩=some (.map (some x0.1))/\ w'.cell? ⟨w1.heap.size,1,none⟩=some (.map (some x0.2))/\ w'.cell? ⟨I.heap.size,0,none⟩=some (.string xs)/\ w'.cell? ⟨I.heap.size,1,none⟩=some (.int .i64 m)/\ w'.cell? ⟨w.heap.size,0,none⟩=some (.map A)/\ w'.cell? ⟨w.heap.size,1,none⟩=some (.map L)/\ w'.cell? ⟨w.heap.size,2,none⟩=some (.map (some na))/\ w'.cell? ⟨w.heap.size+1,0,none⟩=some (.map E)/\ w'.cell? ⟨w.heap.size+1,1,none⟩=some (.map q)/\ w'.cell? ⟨w.heap.size+1,2,none⟩=some (.map (some nb)))):=hid (fun w1 q=>(Hc.bw q).sees (Hs.bw q Hs.lt));have Gr:Hid (∀g O Z,Bl p g ->∀B,JF g B J (z++[(xs,m)]) Z c' O ->Cl 164 #[.agg #[.map (some x0.1),.map (some x0.2)],.agg #[.string xs,.int .i64 m],.agg #[.map (some O.1),.map (some O.2)]] g fun e w'=>e=.returned (.tuple #[])/\ g.grownBy w' (some x0.1)/\
     (Qcl (fun u=>Z [u]) (Mk J J.length (z++[(xs,m)])) ->Qa3 w' 208 Qa5 QaQ x0.1 (c'+i.length+1) (QcI (fun u=>N [u]) (xs,m) (some O)))/\ (¬Qcl (fun u=>Z [u]) (Mk J J.length (z++[(xs,m)])) ->Bl g w')):=hid (fun g O Z b9 B t=>by
    have hj:=H7.bw b9;have Hu:=t.mono (show c'<=c'+i.length by omega);exact QmA x0 O xs m (c'+i.length) (fun u=>N [u]) (fun u=>Z [u]) (Mk J J.length (z++[(xs,m)])) g G H2 (hj.tre.kids [] x0 hj.root) (Hu.tre.kids [] O Hu.root) ((Hu.tre.marks [] O Hu.root).ext fun d=>by simp) Kn)
   clear Hd He Hf Hg;go_wp2_with fail;refine zS T (fun qh=> ?_);refine tZ 0 27 ?_;refine tZ 1 28 ?_;refine tZ 2 29 ?_;refine tZ 3 30 ?_;refine tZ 5 32 ?_;refine tZ 6 33 ?_;refine cZ 4 ?_;intro K M;go_simp;refine(Gm _ zI.drew).mono ?_;rintro e w7 ⟨rfl,C⟩;have Ht:Bl p w7:=⟨C.os,C.tape,C.output,C.size,C.block⟩;refine M.out _ _ (T _ Ht) (fun qh=> ?_);clear M K;try simp only [zP]
   refine cZ 7 ?_;intro K M;go_simp;refine(Gn _ Ht).mono ?_;rintro e w8 ⟨rfl,b8⟩;have D:=Qaa Ht b8;refine M.out _ _ (T _ D) (fun qh=> ?_);clear M K;try simp only [zP]
   refine cZ 8 ?_;intro K M;go_simp;refine(Go _ D).mono ?_;rintro e g ⟨⟨O,Z,rfl,t⟩,b9⟩;have Y:=Qaa D b9;refine M.out _ _ (T _ Y) (fun qh=> ?_);clear M K;try simp only [zP]
   have H5:=hid t;clear t;refine cZ 9 ?_;intro K M;go_simp;refine(Gr g O Z Y _ H5).mono ?_;rintro e G7 ⟨rfl,F,Hm,Hn⟩;have Hb:=hid ((Hc.bw Y).gr F Ji);refine M.out _ _ (Hb.sees ((Hs.bw Y Hs.lt).gr F Kv)) (fun qh=> ?_);clear M K;try simp only [zP]
   refine zD ?_;obtain⟨Jt,Hk⟩:=(H7.bw D).round b9 (H5.mono (show c'<=c'+i.length by omega)) (Nat.le_trans (Nat.le_trans Kf H0.size) D.size) Kw F Hm Hn;have H3:Hid (U.grownBy G7 (some x0.1)):=hid ((H0.trans (Qb4 Y _)).trans F);have Hj:=hid ((Hr.same (fun b e=>Y.block b (Hr.mlt b e)) (Y.block _ Hr.lt)).kept F Ku Kp);have H6:=hid Hk;clear qh C Ht b8 D b9 Y F Hm Hn Hk T Gm Gn Go Gr H5;go_wp2_with fail;go_roundw;case rel=>exact⟨_,_,_,Hj,hid (by simpa [Nat.add_assoc] using H6.congr (fun u=>by simp)),Hb,H3⟩
   case measure=>exact Kd G7 Hj
theorem Qec {v0:World}{Na Nb:List Ky ->Option (Nat×Nat)}{MA MB:List Ky ->Dt ->Option ByteArray}{ca cb na nb:Nat}{hA hB:Dt ->Bool}{J:List Lf}(H:JH v0 Na Nb MA MB ca cb na nb hA hB J)(hd:∀p,(Na p≠none \/Nb p≠none) ->p.length<=8)(hc:10*(ca+cb)<=1048576):
  ∀d z,z.length+d=8 ->∀w,Bl v0 w ->Cl 139 #[Qk2 na (Na z),Qk2 nb (Nb z)] w (JQ J z ((d+2)*(ca+cb)) w)
 | 0,z,hz,w,hw=>by
  have:=QgM H z (ca+cb) zL (by omega) (fun y hy=>absurd (hd _ hy) (by simp;omega)) w hw;rw [show (0+2)*(ca+cb)=ca+cb+(ca+cb) by omega];exact this
 | d+1,z,hz,w,hw=>by
  have e:(d+2)*(ca+cb)+(ca+cb)=(d+1+2)*(ca+cb):=by rw [show d+1+2=(d+2)+1 by omega,Nat.add_mul (d+2) 1,Nat.one_mul]
  have j:(d+1+2)*(ca+cb)<=10*(ca+cb):=Nat.mul_le_mul_right _ (by omega);have k:1*(ca+cb)<=(d+2)*(ca+cb):=Nat.mul_le_mul_right _ (by omega);rw [<- e];exact QgM H z ((d+2)*(ca+cb)) (by omega) (by omega) (fun y hy=>Qec H hd hc d (z++[y]) (by simp;omega)) w hw
theorem Qjo (J:List Lf)(z:List Ky):cW J z<=J.length:=List.length_filter_le _ _
theorem QmR (J:List Lf)(z:List Ky):mW J z<=J.length:=List.length_filter_le _ _
theorem QiX (J:List Lf)(z:List Ky):∀ds:List Ky,(ds.map fun y=>cW J (z++[y])).sum<=ds.length*J.length
 | []=>Nat.zero_le _
 | y::r=>by
  have j:=QiX J z r;have k:=Qjo J (z++[y]);simp only [List.map_cons,List.sum_cons,List.length_cons,Nat.add_mul,Nat.one_mul];omega
structure TJ (w:World)(B:Nat)(J:List Lf)(N:List Ky ->Option (Nat×Nat))(c:Nat):Prop where
 tre:Tre w B N (fun r=>Mk J J.length r) c
 there:∀z y,(N (z++[y])).isSome=true↔Ah J (z++[y])
 dis:Dis J J.length
theorem JF.tj{N:List Ky ->Option (Nat×Nat)}(h:JF w B J [] N c x0)(hd:Dis J J.length):TJ w B J N c:=
 ⟨by simpa using h.tre,fun z y=>by
  cases z with
  | nil=>simpa using h.there y []
  | cons u r=>simpa using h.there u (r++[y]),hd⟩
theorem TJ.bw{N:List Ky ->Option (Nat×Nat)}(h:TJ w B J N c)(hb:Bl w w'):TJ w' B J N c:=⟨h.tre.bw hb,h.there,h.dis⟩
theorem TJ.deep{N:List Ky ->Option (Nat×Nat)}(h:TJ w B J N c)(h8:∀x∈J,(Way x).length<=8):∀p,N p≠none ->p.length<=8:=fun p hp=>by
 by_cases e:p=[]
 ·rw [e];simp
 ·obtain⟨z,y,rfl⟩:∃z y,p=z++[y]:=⟨p.dropLast,p.getLast e,(List.dropLast_concat_getLast e).symm⟩;have j:(N (z++[y])).isSome=true:=by
   cases hv:N (z++[y]) with
   | none=>exact absurd hv hp
   | some v=>rfl
  obtain⟨x,m,k⟩:=(h.there z y).1 j;exact Nat.le_trans k.length_le (h8 x m)
theorem Qfg {v0:World}{N:List Ky ->Option (Nat×Nat)}(H:TJ v0 B J N c)(hc:c<=1048576)(hJ:J.length<=1048576)(z:List Ky)(x:Nat×Nat)(hx:N z=some x)
  (hIH:∀y g,N (z++[y])=some g ->∀w,Bl v0 w ->Cl 141 #[.agg #[.map (some g.1),.map (some g.2)]] w (Rt w (.int .i64 (cW J (z++[y])))))
  (w:World) (hw:Bl v0 w):
  Cl 141 #[.agg #[.map (some x.1),.map (some x.2)]] w (Rt w (.int .i64 (cW J z))):=by
 have HT:=hid (H.bw hw);have HV:=hid hw;have HX:=hid hx;have HI:=hid hIH;obtain⟨W,I⟩:=zE (w.alloc (.cells #[.map (some x.1),.map (some x.2)] 156));have o:Bl w W:=by rw [<- I];exact zO _ _
 have X0:Bx2 W w.heap.size (.map (some x.1)) (.map (some x.2)):=by rw [<- I];exact Bx2.made _ _ _ _
 have Ht:=(HT.tre.bw o).marks z x hx;obtain⟨D,G⟩:=Ht;obtain⟨m,s⟩:=zE (mW J z);have Hs:∀ty,(Builtin.len_ #[154] ty #[.map (some x.2)]).run Tryz.prog W=.ok (.int .i64 (m:Nat)) W:=fun ty=>by rw [<- s,<- Qi7 H.dis G];exact G.own.len Tryz.underlying154 ty
 have Hx:m<=1048576:=by rw [<- s];exact Nat.le_trans (QmR J z) hJ
 have HM:=hid s;have Hl:=hid ((HT.tre.bw o).kids z x hx);have F:=hid o;obtain⟨x0,g⟩:=X0.q2;have S:=hid (And.intro hc hJ);have Ho:=hid H.there;clear H hc hx hIH hw o X0 G s hJ;go_enter Tryz.func141,Tryz.ntmps141;go_wp2_with (at_range;refine QaB _ rfl _ 153 rfl 208 156 Qas Tryz.underlying153 Qa5 QaQ (some x.1) c (fun y=>N (z++[y])) rfl Hl ?_;intro w0 Hq Hc r Hv);have R:Hid (Bl W w0):=hid ⟨r.os,r.tape,r.output,r.size,fun k q=>r.block k q (by simp)⟩;clear r Hv Hs x0 g I;try go_frame
 go_loopw [3] (fun t wr=>∃(j:List Ky) (Z T:Nat),t=.int .i64 T/\ Rng wr 208 Qa5 QaQ (some x.1) W.heap.size c (fun y=>N (z++[y])) j Z/\ Hid (T=m+(j.map fun y=>cW J (z++[y])).sum)/\ Hid (Bl W wr)) (fun t wr=>wr.rangeLeft x.1 W.heap.size);case atStart=>exact⟨[],_,m,rfl,Hc,hid (by simp),R⟩
 case round=>
  clear Hc R;obtain⟨j,Z,T,rfl,A,Y,Q⟩:=hrel;have Ha:=hid A;go_wp2_with (at_next;refine QaG _ rfl _ rfl 208 Qas Qa5 (fun _ _=>QaZ) (fun key kl q=>Qb0 q) QaQ (some x.1) W.heap.size c (fun y=>N (z++[y])) j Z rfl A ?_ ?_)
  ·intro q;have HE:Hid (T=cW J z):=hid (by
    rw [Y.out,QhQ z j q.1 J (fun u hu y hp=>(q.2 y).2 (fun v=>by
     have:=(Ho z y).2 ⟨u,hu,hp⟩;rw [show N (z++[y])=none from v] at this;cases this)),HM.out])
   clear q A;go_wp2_with fail;go_ret;exact⟨by have h:=HE.out;subst h;rfl,Qaa F Q⟩
  ·intro xs M X C E He Hi Hu kl Hr Hd Hb Hj Hw Hh;have Hf:=hid (fun w1 (b1:Bl v0 w1)=>HI.out (xs,M) (X,C) Hi w1 b1);obtain⟨n,v⟩:=zE (cW J (z++[(xs,M)]));rw [v] at Hf;have k1:n<=1048576:=by rw [<- v];exact Nat.le_trans (Qjo _ _) S.2
   have k2:T<=1099512676352:=by
    have h1:=QiX J z j;have h2:=Ha.len;have h3:=S.out;have h4:j.length*J.length<=1048576*1048576:=Nat.mul_le_mul (by omega) (by omega);rw [Y.out];omega
   have Hn:Hid (T+n=m+((j++[(xs,M)]).map fun y=>cW J (z++[y])).sum):=hid (by rw [Y.out];simp [v];omega);have Hm:Hid (∀w9,Rng w9 208 Qa5 QaQ (some x.1) W.heap.size c (fun y=>N (z++[y])) (j++[(xs,M)]) He ->w9.rangeLeft x.1 W.heap.size<wr.rangeLeft x.1 W.heap.size):=hid (fun w9 h9=>by
    rw [h9.left_eq,Ha.left_eq];exact Hb)
   have P:Hid (Bl W E):=hid (Q.grown Hj Q.size (fun k e=>by cases e;exact Nat.le_refl _));have U:=hid Hd;obtain⟨L,K⟩:=zE (E.alloc (.cells #[.map (some X),.map (some C)] 156));have i:Bl E L:=by rw [<- K];exact zO _ _
   have K6:Bx2 L E.heap.size (.map (some X)) (.map (some C)):=by rw [<- K];exact Bx2.made _ _ _ _
   have O:=hid (P.trans (i.mono P.size));have Hp:Hid (Bl v0 L):=hid (HV.trans ((Qaa F O).mono HV.size));have V:=hid (U.same (fun b e=>i.block b (U.mlt b e)) (i.block _ U.lt));obtain⟨c0,c1⟩:=K6.q2;clear Hi Hu Hr A Hd Hb Hj Hw i K6 v;dsimp only [Qa5,QaQ] at Hh ⊢;go_wp2_with fail;refine(Hf _ Hp).mono ?_;rintro e w7 ⟨rfl,p⟩;have Hk:=hid (O.trans (p.mono O.size));have Hg:=hid (V.same (fun b e=>p.block b (V.mlt b e)) (p.block _ V.lt));clear p c0 c1 Hh K;go_wp2_with fail;go_roundw;case rel=>exact⟨_,_,T+n,by go_num,Hg,Hn,Hk⟩
   case measure=>exact Hm w7 Hg
theorem Qkp {v0:World}{B c:Nat}{J:List Lf}{N:List Ky ->Option (Nat×Nat)}(H:TJ v0 B J N c)(hc:c<=1048576)(hJ:J.length<=1048576)(h8:∀x∈J,(Way x).length<=8):
  ∀d z x,z.length+d=8 ->N z=some x ->∀w,Bl v0 w ->Cl 141 #[.agg #[.map (some x.1),.map (some x.2)]] w (Rt w (.int .i64 (cW J z)))
 | 0,z,x,hz,hx,w,hw=>Qfg H hc hJ z x hx (fun y x1 h1=>absurd (H.deep h8 (z++[y]) (by rw [h1];simp)) (by simp;omega)) w hw
 | d+1,z,x,hz,hx,w,hw=>Qfg H hc hJ z x hx (fun y x1 h1=>Qkp H hc hJ h8 d (z++[y]) x1 (by simp;omega) h1) w hw
theorem Qlt{ts:List Dt}(h:w.ownsRow B 104 2 (.slice (some ⟨g,0,none⟩) m cap) m (Ds.kRow ts))(hl:ts.length=m):∀i,i<m ->∃d,ts[i]? =some d/\ w.cell? ⟨g,i*2,none⟩=some (.int .i64 d.1)/\ w.cell? ⟨g,i*2+1,none⟩=some (.int .i64 d.2):=by
 rcases h.2 with ⟨v,_⟩|⟨t,z,k,y,s,u,o,b,p,r⟩
 ·cases v
 ·cases y;intro i hi;have hi':i<ts.length:=by omega
  have q:ts.toArray[i]! =ts[i]:=by rw [getElem!_pos _ _ (by simpa using hi')];simp
  refine⟨ts[i],by simp [hi'],?_,?_⟩
  ·have j:(k.toList.take (m*2))[i*2]? =(Ds.kRow ts)[i*2]? :=by rw [r]
   rw [List.getElem?_take_of_lt (by omega),Ds.kRow_get ts (i*2) (by omega)] at j;rw [show i*2/2=i by omega,show i*2%2=0 by omega,q] at j;simp [World.cell?,u,<- Array.getElem?_toList,j,Ds.kCells]
  ·have j:(k.toList.take (m*2))[i*2+1]? =(Ds.kRow ts)[i*2+1]? :=by rw [r]
   rw [List.getElem?_take_of_lt (by omega),Ds.kRow_get ts (i*2+1) (by omega)] at j;rw [show (i*2+1)/2=i by omega,show (i*2+1)%2=1 by omega,q] at j;simp [World.cell?,u,<- Array.getElem?_toList,j,Ds.kCells]
theorem Qlu{ts:List Dt}(h:w.ownsRow B 104 2 v ts.length (Ds.kRow ts)):∃a j,v=.slice a ts.length j/\ ts.length<=j/\ j<=9223372036854775807/\ (0<ts.length ->∃g,a=some ⟨g,0,none⟩/\ B<=g/\ g<w.heap.size/\∀i,i<ts.length ->∃d,ts[i]? =some d/\ w.cell? ⟨g,i*2,none⟩=some (.int .i64 d.1)/\ w.cell? ⟨g,i*2+1,none⟩=some (.int .i64 d.2)):=by
 rcases h.2 with ⟨rfl,k⟩|⟨g,j,y,rfl,u,r,m,q,z,t⟩
 ·exact⟨none,0,by rw [k],by omega,by omega,fun hh=>by omega⟩
 ·exact⟨_,j,rfl,m,by unfold maxLen at q;omega,fun _=>⟨g,rfl,u,(Array.getElem?_eq_some_iff.1 r).1,Qlt h rfl⟩⟩
theorem Qlv(h:w.ownsRow B 208 2 (.slice (some ⟨g,0,none⟩) m cap) m (kRow ts))(hl:ts.length=m):∀i,i<m ->∃d,ts[i]? =some d/\ w.cell? ⟨g,i*2,none⟩=some (.string d.1)/\ w.cell? ⟨g,i*2+1,none⟩=some (.int .i64 d.2):=by
 rcases h.2 with ⟨v,_⟩|⟨t,z,k,y,s,u,o,b,p,r⟩
 ·cases v
 ·cases y;intro i hi;have hi':i<ts.length:=by omega
  have q:ts.toArray[i]! =ts[i]:=by rw [getElem!_pos _ _ (by simpa using hi')];simp
  refine⟨ts[i],by simp [hi'],?_,?_⟩
  ·have j:(k.toList.take (m*2))[i*2]? =(kRow ts)[i*2]? :=by rw [r]
   rw [List.getElem?_take_of_lt (by omega),kRow_get ts (i*2) (by omega)] at j;rw [show i*2/2=i by omega,show i*2%2=0 by omega,q] at j;simp [World.cell?,u,<- Array.getElem?_toList,j,kCells]
  ·have j:(k.toList.take (m*2))[i*2+1]? =(kRow ts)[i*2+1]? :=by rw [r]
   rw [List.getElem?_take_of_lt (by omega),kRow_get ts (i*2+1) (by omega)] at j;rw [show (i*2+1)/2=i by omega,show (i*2+1)%2=1 by omega,q] at j;simp [World.cell?,u,<- Array.getElem?_toList,j,kCells]
theorem QmF(h:w.ownsRow B 208 2 v ts.length (kRow ts)):∃a j,v=.slice a ts.length j/\ ts.length<=j/\ j<=9223372036854775807/\ (0<ts.length ->∃g,a=some ⟨g,0,none⟩/\ B<=g/\ g<w.heap.size/\∀i,i<ts.length ->∃d,ts[i]? =some d/\ w.cell? ⟨g,i*2,none⟩=some (.string d.1)/\ w.cell? ⟨g,i*2+1,none⟩=some (.int .i64 d.2)):=by
 rcases h.2 with ⟨rfl,k⟩|⟨g,j,y,rfl,u,r,m,q,z,t⟩
 ·exact⟨none,0,by rw [k],by omega,by omega,fun hh=>by omega⟩
 ·exact⟨_,j,rfl,m,by unfold maxLen at q;omega,fun _=>⟨g,rfl,u,(Array.getElem?_eq_some_iff.1 r).1,Qlv h rfl⟩⟩
theorem QjA {p:List ByteArray}{x:Lf}{y:Ky}(hx:Qc1 x)(h:nx p x=some y):(y.2=1 \/y.2=2) \/(y.2=3/\ p.length+2<=8):=by
 rw [Qb8] at h;obtain⟨⟨_,q⟩,e⟩:=h;have j:=congrArg Prod.snd e;unfold Qar at j;dsimp only at j;by_cases m:p.length+1<x.p.length
 ·rw [if_pos m] at j;have:=hx.1.2.1;exact .inr ⟨j.symm,by omega⟩
 ·rw [if_neg m] at j;rcases QdQ x.fl with k|k<;>rw [k] at j
  ·exact .inl (.inl j.symm)
  ·exact .inl (.inr j.symm)
theorem TJ.nki{N:List Ky ->Option (Nat×Nat)}(h:TJ w B J N c)(h0:N []≠none):NkI J J.length N:=fun z=>by
 by_cases e:z=[]
 ·rw [e];refine⟨fun _=> .inl rfl,fun _=> ?_⟩;cases hv:N [] with
  | none=>exact absurd hv h0
  | some v=>rfl
 ·obtain⟨u,y,rfl⟩:∃u y,z=u++[y]:=⟨z.dropLast,z.getLast e,(List.dropLast_concat_getLast e).symm⟩;rw [h.there u y];constructor
  ·rintro⟨x,g,m⟩;obtain⟨j,k,q⟩:=Qai.1 g;exact .inr ⟨j,k,by rw [q];exact m⟩
  ·rintro(r|⟨j,k,m⟩)
   ·exact absurd r e
   ·exact⟨gL J j,Qai.2 ⟨j,k,rfl⟩,m⟩
theorem QjN (l:List Lf)(p:List ByteArray)(s:ByteArray)(d:Dt):Mk l l.length (Qac p 3++[(s,3)]) d=none:=by
 refine Classical.byContradiction fun hn=> ?_;obtain⟨j,k,e,_⟩:=Qdp.1 hn;rw [<- QeR] at e;have:=(QdM e.symm (by simp)).2;rcases QdQ (gL l j).fl with h|h<;>omega
theorem QlC{N:List Ky ->Option (Nat×Nat)}(hN:NkI l l.length N)(p:List ByteArray)(y u:Ky)(hy:y.2≠3):N (Qac p 3++[y]++[u])=none:=by
 cases hv:N (Qac p 3++[y]++[u]) with
 | none=>rfl
 | some v=>
  exfalso;have q:(N (Qac p 3++[y]++[u])).isSome=true:=by rw [hv];rfl
  rcases (hN _).1 q with h|⟨j,o,m⟩
  ·simp at h
  ·have z:=m.length_le;simp only [List.length_append,List.length_singleton,Qav,Way] at z;have k:(Way (gL l j))[p.length]? =some y:=by
    obtain⟨t,g⟩:=m;rw [<- g];simp [Qav]
   unfold Way at k;rw [QaO (by omega),if_pos (by omega)] at k;have r:=congrArg Prod.snd (Option.some.inj k);exact hy r.symm
noncomputable def gK (l:List Lf)(f:Nat)(p:List ByteArray)(y:Ky):List Lf:=if y.2=3 then wL l f (p++[y.1]) else dsK l p y l.length
theorem QnW (l:List Lf)(f:Nat)(p:List ByteArray):wL l (f+1) p=(kS l p l.length).flatMap (gK l f p):=rfl
theorem Qhw {α:Type}(g:α ->List Lf)(ts:List α)(k:Nat):((ts.take k).flatMap g).length<=(ts.flatMap g).length:=by
 have:ts.flatMap g=(ts.take k).flatMap g++(ts.drop k).flatMap g:=by rw [<- List.flatMap_append,List.take_append_drop]
 rw [this,List.length_append];omega
theorem Qes (Bt c:Nat)(N:List Ky ->Option (Nat×Nat))(M:List Ky ->Dt ->Option ByteArray)(z:List Ky)(w:World)(hT:Tre w Bt N M c)(hc:c<=1048576)(hz:∀u,N (z++[u])=none)(bv vw:Value):
  Cl 143 #[.agg #[.map (mF (N z)),.map (mS (N z))],bv,vw] w (Rt w bv):=by
 obtain⟨W,j⟩:=zE (w.alloc (.cells #[.map (mF (N z)),.map (mS (N z))] 156));have q:Bl w W:=by rw [<- j];exact zO _ _
 have m:Bx2 W w.heap.size (.map (mF (N z))) (.map (mS (N z))):=by rw [<- j];exact Bx2.made _ _ _ _
 have k:=hid (Qcw Bt c N M z W (hT.bw q) hc);obtain⟨Y,r⟩:=zE (mF (N z));obtain⟨Z,v⟩:=zE (mS (N z));rw [r,v] at m k j;rw [r,v];obtain⟨k0,E⟩:=m.q2;have t:=hid q;have i:=hid hz;clear m q hT r v hz;go_enter Tryz.func143,Tryz.ntmps143;go_wp2_with fail;try rw [j]
 clear j;refine k.mono ?_;rintro e w1 ⟨G,O,rfl,A,g,s,h,y⟩;obtain rfl:O=[]:=List.eq_nil_iff_forall_not_mem.2 fun x hx=>(g x).1 hx (by unfold Qiy;exact i x);obtain⟨Q,U,rfl,b,V,p⟩:=QmF h;have o:=hid (Qaa t y);simp only [List.length_nil] at b ⊢;clear A g s h y p k0 E k;go_wp2_with fail;refine wp_loop_rounds 1 ?_;rw [rounds_succ];go_wp2_with fail;go_ret;exact⟨rfl,o⟩
theorem Qc3 {R F T:Nat ->Int}{n:Nat}(l:List Lf)(w0:World)(Bt c:Nat)(N:List Ky ->Option (Nat×Nat))(hT:Tre w0 Bt N (Mk l l.length) c)(hN:NkI l l.length N)(hc:c<=1048576)(hlv:QbT R F T n l l.length)(hbd:LvB l):∀(f:Nat) (p:List ByteArray),p.length+f=8 ->1<=f ->∀(bv:Value) (l0:List Lf) (vw:Value) (w:World),Bl w0 w ->LB w w0.heap.size bv l0 ->Qg8 w vw p ->(∀g,vw.ownBlock=some g ->bv.ownBlock≠some g) ->l0.length+(wL l f p).length<=1000000 ->
  Cl 143 #[.agg #[.map (mF (N (Qac p 3))),.map (mS (N (Qac p 3)))],bv,vw] w fun e w'=>∃v,e=.returned v/\ LB w' w0.heap.size v (l0++wL l f p)/\ Gr w w' bv v
 | 0,_,_,E,_,_,_,_,_,_,_,_,_=>by omega
 | f+1,p,hpf,_,bv,l0,vw,w,hb,ho,hvw,hne,hl=>by
  obtain⟨k1,k2⟩:=Qfs p hlv l.length zL;rw [QnW] at hl ⊢;have Li:Hid (∀s,p.length+2<=8 ->∀(bv:Value) (l0:List Lf) (vw:Value) (w:World),Bl w0 w ->LB w w0.heap.size bv l0 ->Qg8 w vw (p++[s]) ->(∀g,vw.ownBlock=some g ->bv.ownBlock≠some g) ->l0.length+(wL l f (p++[s])).length<=1000000 ->Cl 143 #[.agg #[.map (mF (N (Qac p 3++[(s,3)]))),.map (mS (N (Qac p 3++[(s,3)])))],bv,vw] w fun e w'=>∃v,e=.returned v/\ LB w' w0.heap.size v (l0++wL l f (p++[s]))/\ Gr w w' bv v):=hid (fun s Le bv l0 vw w E m h3 h4 h5=>by
   rw [<- QeR];exact Qc3 l w0 Bt c N hT hN hc hlv hbd f (p++[s]) (by simp;omega) (by omega) bv l0 vw w E m h3 h4 h5)
  obtain⟨W,hW⟩:=zE (w.alloc (.cells #[.map (mF (N (Qac p 3))),.map (mS (N (Qac p 3)))] 156));have b0:Bl w W:=by rw [<- hW];exact zO _ _
  have X0:Bx2 W w.heap.size (.map (mF (N (Qac p 3)))) (.map (mS (N (Qac p 3)))):=by rw [<- hW];exact Bx2.made _ _ _ _
  have zW:W.heap.size=w.heap.size+1:=by rw [<- hW];simp
  have Jq:Bl w0 W:=hb.trans (b0.mono hb.size);have Jh:=hid (Qcw Bt c N (Mk l l.length) (Qac p 3) W (hT.bw Jq) hc);obtain⟨m0,K1⟩:=zE (mF (N (Qac p 3)));obtain⟨m1,Gb⟩:=zE (mS (N (Qac p 3)));rw [K1,Gb] at X0 Jh hW;rw [K1,Gb];obtain⟨q0,q1⟩:=X0.q2;have HX:=hid X0;have Lh:=hid b0;have K4:=hid Jq;have HO:=hid (ho.bw b0);have J6:=hid (hvw.bw b0);have HT:=hid hT;have J4:=hid hN;have Ll:=hid K1;have Lm:=hid hne;have Lp:Hid (∀g,vw.ownBlock=some g ->g<w.heap.size):=hid hvw.lt;have Gl:Hid (∀g,bv.ownBlock=some g ->w0.heap.size<=g/\ g<w.heap.size):=hid ho.lt;have Gf:=hid k2;have J3:=hid hl;have J7:=hid zW;have L5:Hid (w0.heap.size<=w.heap.size):=hid hb.size;clear X0 b0 Jq ho K1 Gb k1 k2 hvw hne hl zW hb hN;go_enter Tryz.func143,Tryz.ntmps143;go_wp2_with fail;try rw [hW]
  clear hW;refine Jh.mono ?_;rintro e w1 ⟨vd,V,rfl,Kk,He,Gw,K2,b1⟩;have Kf:=Qiv (p:=p) hlv J4 Kk He;obtain⟨da,dc,rfl,Lu,Lv,La⟩:=QmF K2;have Ly:V.length<=1000:=by rw [Kf];have:=Qfr l p l.length;have:=hbd.len;omega
  have HD:Hid (0<V.length ->∃g,da=some ⟨g,0,none⟩/\ W.heap.size<=g/\ g<w1.heap.size/\∀i,i<V.length ->∃y∈V,V[i]? =some y/\ w1.cell? ⟨g,i*2,none⟩=some (.string y.1)/\ w1.cell? ⟨g,i*2+1,none⟩=some (.int .i64 y.2)):=hid (fun h0=>by
   obtain⟨g,S,e2,e3,e4⟩:=La h0;refine⟨g,S,e2,e3,fun i hi=> ?_⟩;obtain⟨d,f1,f2,f3⟩:=e4 i hi;exact⟨d,List.mem_of_getElem? f1,f1,f2,f3⟩)
  have J2:Hid (∀y∈V,y.1.size<=40/\ ((y.2=1 \/y.2=2) \/(y.2=3/\ p.length+2<=8))):=hid (fun y hy=>by
   rw [Kf] at hy;obtain⟨j,hj,e⟩:=(Gf y).1 hy;exact⟨Qgm (hlv j hj).1 e,QjA (hlv j hj).1 e⟩)
  have Lo:Hid (kS l p l.length=V):=hid Kf.symm;rw [<- Kf] at J3;have Lk:Hid (∀y∈V,∀w',Bl w0 w' ->(Instr.lookup 153 (.map m0) (.agg #[.string y.1,.int .i64 y.2]) false).run Tryz.prog w'=.ok (.agg #[.map (mF (N (Qac p 3++[y]))),.map (mS (N (Qac p 3++[y])))]) w'):=hid (fun y hy w' hb'=>by
   have hl:=J2 y hy;obtain⟨kl,Js⟩:=QgN (s:=y.1) (k:=y.2) (by unfold maxLen;omega) (wfI (by omega) (by omega));have:=(HT.bw hb').look (Qac p 3) y Js;rw [Ll.out] at this;exact this)
  have X1:=HX.bw b1 HX.lt;have Lq:=hid X1;have J5:=hid (HO.bw b1);have Jg:=hid (J6.bw b1);have J1:=hid (K4.trans (b1.mono K4.size));have K3:=hid (Qaa Lh b1);have Ji:Hid (w0.heap.size<=w1.heap.size/\ w.heap.size<w1.heap.size):=hid (by have E:=J1.size;have m:=b1.size;have h3:=J7.out;omega);clear q0 q1 K2 Kk He Gw La Kf b1 Jh X1 HX HO K4 J6;go_wp2_with fail;go_loopw [1,16] (fun b' i wr=>∃(k:Nat),k<=V.length/\ i=.int .i64 k/\ Hid (LB wr w0.heap.size b' (l0++(V.take k).flatMap (gK l f p)))/\ Hid (Gr w1 wr bv b')) (fun _ i _=>V.length - (intOf i).toNat);case atStart=>exact⟨0,Nat.zero_le _,rfl,hid (by simpa using J5.out),hid (Gr.refl _ _)⟩
  case round=>
   clear J5;obtain⟨k,hk,rfl,G9,Hx⟩:=hrel;by_cases Ju:k<V.length
   ·obtain⟨g,rfl,L7,L8,Lb⟩:=HD (by omega);obtain⟨y,Jz,Lg,H9,Ga⟩:=Lb k Ju;have Gv:some g≠bv.ownBlock:=fun e=>by have E:=(Gl g e.symm).2;have m:=J7.out;omega
    have Kd:some w.heap.size≠bv.ownBlock:=fun e=>by have:=(Gl _ e.symm).2;omega
    have c1:=Hx.g.cell H9 Gv;have c2:=Hx.g.cell Ga Gv;have n0:=Hx.g.cell Lq.c0 Kd;have Jy:=J2 y Jz;have Ks:Hid (Bl w0 wr):=hid (J1.trans (Hx.bw Ji.1 (fun k hk=>(Gl k hk).1)));have Ln:Hid (Qg8 wr vw p):=hid (Jg.move Hx.g.size (fun g hg=>Hx.g.block g (by have E:=Lp g hg;have m:=Ji.2;omega) (fun e=>Lm.out g hg e.symm)));have G0:Hid (∀g,u1.ownBlock=some g ->w0.heap.size<=g/\ g<wr.heap.size):=hid G9.lt;have Kx:Hid ((V.take (k+1)).flatMap (gK l f p)=(V.take k).flatMap (gK l f p)++gK l f p y):=hid (by rw [List.take_add_one,Lg];simp);have H8:Hid ((l0++(V.take k).flatMap (gK l f p)).length+(gK l f p y).length<=1000000):=hid (by
     have E:=Qhw (gK l f p) V (k+1);rw [Kx.out,List.length_append] at E;have m:=J3.out;simp only [List.length_append] at m ⊢;omega)
    obtain⟨L0,Jm⟩:=zE (l0++(V.take k).flatMap (gK l f p));have Hz:Hid (∀w',Bl w0 w' ->(Instr.lookup 153 (.map m0) (.agg #[.string y.1,.int .i64 y.2]) false).run Tryz.prog w'=.ok (.agg #[.map (mF (N (Qac p 3++[y]))),.map (mS (N (Qac p 3++[y])))]) w'):=hid (fun w' h=>Lk.out y Jz w' h);obtain⟨ls,Kq,Lc,Kg,Ld,Ki⟩:∃ls Kq:List Lf,gK l f p y=ls++Kq/\ (∀Hm:List Dt,Hm.Pairwise (fun x y=>Qb6 x y<0) ->(∀d,d∈Hm↔Mk l l.length (Qac p 3++[y]) d≠none) ->Hm=ls.map fun x=>((x.r,x.q):Dt))/\ (∀x∈ls,x=⟨p++[y.1],decide (y.2=2),x.r,x.q,x.v⟩/\ Mk l l.length (Qac p 3++[y]) (x.r,x.q)=some x.v/\ (0<=x.r/\ x.r<8)/\ (0<=x.q/\ x.q<=1000000000))/\
      (∀(bv:Value) (l0:List Lf) (vw:Value) (w:World),Bl w0 w ->LB w w0.heap.size bv l0 ->Qg8 w vw (p++[y.1]) ->(∀g,vw.ownBlock=some g ->bv.ownBlock≠some g) ->l0.length+Kq.length<=1000000 ->Cl 143 #[.agg #[.map (mF (N (Qac p 3++[y]))),.map (mS (N (Qac p 3++[y])))],bv,vw] w fun e w'=>∃v,e=.returned v/\ LB w' w0.heap.size v (l0++Kq)/\ Gr w w' bv v):=by
     rcases Jy.2 with L6|⟨h3,Le⟩
     ·have Kn:y.2≠3:=by omega
      refine⟨dsK l p y l.length,[],by unfold gK;rw [if_neg Kn,List.append_nil],fun Hm E m=>Qfi hlv Kn E m,fun x hx=> ?_,fun bv l0 vw w E m h3 h4 h5=> ?_⟩
      ·have hv:=Qfy Kn hbd.dis hx;obtain⟨j,hj,e,rfl⟩:=Qbs.1 hx;have hp:=QbQ Kn e;refine⟨?_,hv,hbd.rep j hj,hbd.seq j hj⟩;obtain⟨x,hx⟩:=zE (gL l j);rw [hx] at hp ⊢;obtain⟨xp,xf,X,L,xv⟩:=x;have S:xp=p++[y.1]:=hp.1;have e2:kd xf=y.2:=hp.2;have e3:xf=decide (y.2=2):=by rw [<- e2];cases xf<;>simp [kd]
       rw [<- S,<- e3]
      ·refine(Qes Bt c N (Mk l l.length) (Qac p 3++[y]) w (HT.bw E) hc (fun u=>QlC J4 p y u Kn) bv vw).mono ?_;rintro e w' ⟨rfl,b⟩;exact⟨bv,rfl,by rw [List.append_nil];exact m.bw b,Gr.of_below b⟩
     ·obtain⟨s,Y⟩:=y;have h3:Y=3:=h3;subst h3;refine⟨[],wL l f (p++[s]),by unfold gK;rw [if_pos rfl,List.nil_append],fun Hm E m=> ?_,fun x hx=>(by cases hx),Li s Le⟩;exact List.eq_nil_iff_forall_not_mem.2 fun d hd=>(m d).1 hd (QjN l p s d)
    have Lj:=hid Kg;have Ku:=hid Ld;have Kw:=hid Ki;have Kv:Hid (∀w',Bl w0 w' ->∀x∈ls,(Instr.lookup 154 (.map (mS (N (Qac p 3++[y])))) (.agg #[.int .i64 x.r,.int .i64 x.q]) false).run Tryz.prog w'=.ok (.agg #[.string x.v]) w'):=hid (fun w' hb' x hx=>by
     have hv:=Ku x hx;have T':=HT.bw hb';cases e:N (Qac p 3++[y]) with
     | none=>have h:=hv.2.1;rw [T'.none' _ e] at h;cases h
     | some x1=>
      obtain⟨kl,Js⟩:=Qfh (r:=x.r) (q:=x.q) (wfI (by omega) (by omega)) (wfI (by omega) (by omega));have:=(T'.marks _ x1 e).look Qa1 Tryz.underlying154 (QeU w') (x:=(x.r,x.q)) Js;rw [hv.2.1] at this;exact this)
    have Hq:Hid (∀w',Bl w0 w' ->Cl 159 #[.agg #[.map (mF (N (Qac p 3++[y]))),.map (mS (N (Qac p 3++[y])))]] w' fun e H6=>∃(v:Value) (V:List Dt),e=.returned v/\ V=(ls.map fun x=>((x.r,x.q):Dt))/\ H6.ownsRow w'.heap.size 104 2 v V.length (Ds.kRow V)/\ Bl w' H6):=hid (fun w' hb'=>by
     refine(Ds.sortedDotsC Bt c N (Mk l l.length) (Qac p 3++[y]) w' (HT.bw hb') hc).mono ?_;rintro e H6 ⟨v,Hm,rfl,E,m,_,h4,h5⟩;exact⟨v,Hm,rfl,Lj Hm E m,h4,h5⟩)
    obtain⟨a1,J8⟩:=zE (mF (N (Qac p 3++[y])));obtain⟨a2,Jp⟩:=zE (mS (N (Qac p 3++[y])));rw [J8,Jp] at Hz Kw Hq;rw [Jp] at Kv;rw [Lc] at Kx H8;rw [Jm] at H8 G9;have G4:Hid (l0++(V.take (k+1)).flatMap (gK l f p)=L0++(ls++Kq)):=hid (by rw [Kx.out,<- Jm];simp);obtain⟨s,Y⟩:=y;dsimp only at c1 c2 Jy Hz Kv Kw Ku;have L4:Hid (s.size<=40):=hid Jy.1;obtain⟨A,Jn⟩:=zE (wr.alloc (.cells #[.string s,.int .i64 Y] 208));have D1:Bx2 A wr.heap.size (.string s) (.int .i64 Y):=by rw [<- Jn];exact Bx2.made _ _ _ _
    have K0:Bl wr A:=by rw [<- Jn];exact zO _ _
    obtain⟨Q,Jo⟩:=zE (A.alloc (.cells #[.map a1,.map a2] 156));have Jj:Bl A Q:=by rw [<- Jo];exact zO _ _
    have Hh:Hid (Bx2 Q A.heap.size (.map a1) (.map a2)):=hid (by rw [<- Jo];exact Bx2.made _ _ _ _);have H7:=hid (D1.bw Jj D1.lt);have Kr:=hid (Qaa K0 Jj);have Hy:Hid (Bl w0 Q):=hid (Ks.trans (Kr.mono Ks.size));have Jf:=hid (Ln.bw Kr);have Kz:Hid (wr.heap.size<A.heap.size/\ A.heap.size<Q.heap.size):=hid ⟨D1.lt,Hh.lt⟩;have Kt:=hid (fun w'(hb':Bl Q w')=>Qmv vw p w' (by omega) (Jf.bw hb'));obtain⟨q0,q1⟩:=D1.q2;have L2:=(K0.cell (p:=⟨w.heap.size,0,none⟩) (by have E:=Ji.2;have m:=Hx.g.size;show w.heap.size<wr.heap.size;omega)).trans n0;have Lz:=Hz A (Ks.trans (K0.mono Ks.size));have H3:Hid (∀w',Bl Q w' ->w'.cell? ⟨wr.heap.size,0,none⟩=some (.string s)):=hid (fun w' b=>(H7.bw b H7.lt).c0);clear D1 K0 Jj H9 Ga Lb Jz Lg Kd Gv Ld Kg Ki Lc Jm J8 Jp Hz Kx;go_wp2_with fail;refine zS H3 (fun qh=> ?_);clear q0 q1 L2 Lz n0 c1 c2 Jn Jo;refine tZ 0 24 ?_;refine tZ 2 26 ?_;refine tZ 3 27 ?_;refine Qa0 (i:=1) (j:=4) (d:=some 25) (d':=some 28) (by kernel_rfl) (by kernel_rfl) (by kernel_rfl) ?_ ?_
    ·
     intro o ho K2 K z;simp only [gZa,gZb,gZc,gZd] at ho;subst ho;go_simp;refine(Kt _ zI.drew).mono ?_;rintro e w3 ⟨v3,rfl,b3,o3⟩;have H4:Bl Q w3:=⟨b3.os,b3.tape,b3.output,b3.size,b3.block⟩;refine z.out _ _ (H3 _ H4) (fun qh=> ?_);clear z K;try simp only [zP]
     refine cZ 4 ?_;intro K z;go_simp;have Hr:Bl Q (w3.alloc (.cells #[.string s] 9)):=H4.alloc H4.size _;refine z.out _ _ (H3 _ Hr) (fun qh=> ?_);clear z K;try simp only [zP]
     have o4:(w3.alloc (.cells #[.string s] 9)).ownsRow Q.heap.size 9 1 v3 p.length (QcH p):=World.ownsRow.alloc o3 _;obtain⟨J,Hd,w5,Hc,o5,g5,Jv⟩:=Qk6 o4 Hr.size (by omega) s w3.heap.size (by simp);have Gp:Bl Q w5:=Hr.grown g5 Hr.size (fun k e=>(World.ownsRow.lt o4 k e).1);refine cZ 5 ?_;intro K z;refine QaP _ _ _ _ rfl Hc (by rfl) (by rfl) rfl ?_;refine z.out _ _ (H3 _ Gp) (fun qh=> ?_);clear z K;try simp only [zP]
     refine tZ 6 10 ?_;refine zD ?_;have H0:=hid o5;have Hj:=hid Gp;clear qh b3 H4 Hr o3 o4 o5 g5 Gp Hc H3 Kt Jv;obtain⟨bu,Jr⟩:∃b,b=u1:=⟨_,rfl⟩;subst Jr;obtain⟨M,Jw⟩:∃b,b=wr:=⟨_,rfl⟩;subst Jw;have Hf:Hid (Bl w0 w5):=hid (Hy.trans (Hj.mono Hy.size));have K5:=Hh.bw Hj Hh.lt;obtain⟨Gy,Gz⟩:=K5.q2;have Gh:=hid K5;have Ge:=hid (H7.bw Hj H7.lt);have Je:Hid (Q.heap.size<=J/\ J<w5.heap.size):=hid (World.ownsRow.lt H0 J rfl);clear K5;go_wp2_with fail;refine(Hq w5 Hf).mono ?_;rintro e Z ⟨L3,Hm,rfl,He,Hw,b6⟩;obtain⟨Jl,Lt,rfl,Ht,Ke,Hu⟩:=Qlu Hw;have Kj:Hm.length=ls.length:=by rw [He];simp
     have K7:Hid (0<ls.length ->∃I,Jl=some ⟨I,0,none⟩/\ w5.heap.size<=I/\ I<Z.heap.size/\∀i,i<ls.length ->∃x∈ls,ls[i]? =some x/\ Z.cell? ⟨I,i*2,none⟩=some (.int .i64 x.r)/\ Z.cell? ⟨I,i*2+1,none⟩=some (.int .i64 x.q)):=hid (fun h0=>by
      obtain⟨I,S,e2,e3,e4⟩:=Hu (by omega);refine⟨I,S,e2,e3,fun i hi=> ?_⟩;obtain⟨d,f1,f2,f3⟩:=e4 i (by omega);rw [He] at f1;simp only [List.getElem?_map,Option.map_eq_some_iff] at f1;obtain⟨x,f4,f5⟩:=f1;subst f5;exact⟨x,List.mem_of_getElem? f4,f4,f2,f3⟩)
     rw [Kj] at Ht ⊢;have Jt:ls.length<=1000000:=by have:=H8.out;simp only [List.length_append] at this;omega
     have G1:=Qaa Hj b6;have Gc:=Qaa Kr G1;have Gd:=hid Gc;have G8:Hid (LB Z w0.heap.size bu L0):=hid (G9.bw Gc);have Gm:Hid (Z.ownsRow Q.heap.size 9 1 (.slice (some ⟨J,0,none⟩) (p.length+1) Hd) (p.length+1) (QcH (p++[s]))):=hid (Qa6 H0 (fun g hg=>b6.block g (World.ownsRow.lt H0 g hg).2));have K6:=hid (Ge.bw b6 Ge.lt);have G6:=hid (Gh.bw b6 Gh.lt);have Hn:Hid (Bl w0 Z):=hid (Hf.trans (b6.mono Hf.size));have O:Hid (M.heap.size<A.heap.size/\ A.heap.size<Q.heap.size/\ Q.heap.size<=w5.heap.size/\ w5.heap.size<=Z.heap.size/\ w0.heap.size<=Z.heap.size):=hid ⟨Kz.1,Kz.2,Hj.size,b6.size,Hn.size⟩;clear Hw Hu He Kj b6 G1 Gc Gy Gz Ge Gh H0 Hj Hh H7 Hq;go_wp2_with fail;go_loopw [1,33] (fun b' i wr=>∃(t:Nat),t<=ls.length/\ i=.int .i64 t/\ Hid (LB wr w0.heap.size b' (L0++ls.take t))/\ Hid (Gr Z wr bu b')) (fun _ i _=>ls.length - (intOf i).toNat);case atStart=>exact⟨0,Nat.zero_le _,rfl,hid (by simpa using G8.out),hid (Gr.refl _ _)⟩
     case round=>
      clear G8;obtain⟨t,ht,rfl,H1,G⟩:=hrel;have Hl:Hid (∀b,M.heap.size<=b ->some b≠bu.ownBlock):=hid (fun b hb e=>by have:=(G0 b e.symm).2;omega);have Hb:Hid (∀b,((M.heap.size<=b/\ b<Z.heap.size) \/wr.heap.size<=b) ->some b≠u1.ownBlock):=hid (fun b hb e=>by
       have E:=(H1.lt b e.symm).2;rcases G.l with m|⟨j,m,h3⟩
       ·rw [m] at e;have:=(G0 b e.symm).2;have:=O.out;omega
       ·rw [m] at e;have e:b=j:=by injection e
        omega)
      have L1:=G.g.size;have Gf:=hid (G.g.cell G6.c0 (Hl _ (by have:=O.out;show M.heap.size<=A.heap.size;omega)));have Gg:=hid (G.g.cell G6.c1 (Hl _ (by have:=O.out;show M.heap.size<=A.heap.size;omega)));have G5:=hid (G.g.cell K6.c1 (Hl _ zL));have Hg:Hid (Bl w0 wr):=hid (Hn.trans (G.bw O.2.2.2.2 (fun k hk=>(G0 k hk).1)));have H2:Hid (wr.ownsRow Q.heap.size 9 1 (.slice (some ⟨J,0,none⟩) (p.length+1) Hd) (p.length+1) (QcH (p++[s]))):=hid (Qa6 Gm (fun g hg=>G.g.block g (World.ownsRow.lt Gm g hg).2 (Hl g (by have E:=(World.ownsRow.lt Gm g hg).1;have m:=O.out;omega))));by_cases Gw:t<ls.length
      ·obtain⟨I,rfl,Gt,Gu,Hv⟩:=K7 (by omega);obtain⟨x,Gx,Km,H9,Ga⟩:=Hv t Gw;have c1:=G.g.cell H9 (Hl I (by have m:=O.out;show M.heap.size<=I;omega));have c2:=G.g.cell Ga (Hl I (by have m:=O.out;show M.heap.size<=I;omega));have H5:=Ku x Gx;have Gk:Hid (∀w',Bl w0 w' ->(Instr.lookup 154 (.map a2) (.agg #[.int .i64 x.r,.int .i64 x.q]) false).run Tryz.prog w'=.ok (.agg #[.string x.v]) w'):=hid (fun w' h=>Kv.out w' h x Gx);have Go:Hid (ls.take (t+1)=ls.take t++[x]):=hid (by rw [List.take_add_one,Km];rfl);obtain⟨xp,xf,X,L,xv⟩:=x;dsimp only at c1 c2 H5 Gk;have Jx:xp=p++[s]:=congrArg Lf.p H5.1;have Kl:xf=decide (Y=2):=congrArg Lf.fl H5.1;subst Jx;have Lx:(Y==2)=xf:=by rw [Kl];rfl
       have Lw:∀w:World,(Instr.field 165 (.agg #[.string xv]) 0).run Tryz.prog w=.ok (.string xv) w:=fun w=>by kernel_rfl
       obtain⟨U,Gq⟩:=zE (wr.alloc (.cells #[.int .i64 X,.int .i64 L] 104));have Hi:Bl wr U:=by rw [<- Gq];exact zO _ _
       have DV:Bx2 U wr.heap.size (.int .i64 X) (.int .i64 L):=by rw [<- Gq];exact Bx2.made _ _ _ _
       have Hp:=hid DV;have Hk:Hid (Bl w0 U):=hid (Hg.trans (Hi.mono Hg.size));have G7:=hid (H1.bw Hi);have Ka:=hid (QcV (Qa6 H2 (fun g hg=>Hi.block g (World.ownsRow.lt H2 g hg).2)) (show (p++[s]).length=p.length+1 by simp));have Ho:Hid (∀w',Bl U w' ->Cl 168 #[.slice (some ⟨J,0,none⟩) (p.length+1) Hd] w' fun e H6=>∃q cap,e=.returned (.slice (some ⟨q,0,none⟩) (p.length+1) cap)/\ Bl w' H6/\ H6.ownsRow w'.heap.size 9 1 (.slice (some ⟨q,0,none⟩) (p.length+1) cap) (p.length+1) (QcH (p++[s]))):=hid (fun w' hb'=>by
        have hw:=Ka.2.same (hb'.block J Ka.2.lt);exact QhT J (p.length+1) Hd (p++[s]) w' (by simp) (by omega) hw.lt (fun t ht=>hw.cell ht))
       have G2:Hid (∀B q7 C,Bl U B ->B.ownsRow U.heap.size 9 1 (.slice (some ⟨q7,0,none⟩) (p.length+1) C) (p.length+1) (QcH (p++[s])) ->∃q' Ha n' w3,(Builtin.append_ #[35,35] 35 #[u1,.slice (some ⟨B.heap.size,0,none⟩) 1 1]).run Tryz.prog (B.alloc (.cells #[.slice (some ⟨q7,0,none⟩) (p.length+1) C,.bool xf,.int .i64 X,.int .i64 L,.string xv] 106))=.ok (.slice (some ⟨q',0,none⟩) n' Ha) w3/\
         LB w3 w0.heap.size (.slice (some ⟨q',0,none⟩) n' Ha) (L0++ls.take (t+1))/\ Gr B w3 u1 (.slice (some ⟨q',0,none⟩) n' Ha)):=hid (fun B q7 C P o7=>by
        have Kh:=World.ownsRow.lt o7 q7 rfl;have Gs:p.length+1<=C/\ C<=9223372036854775807:=by
         rcases o7.2 with ⟨h0,_⟩|⟨g',Ha,Ls,hv,Kc,hb,E,m,h3,h4⟩
         ·cases h0
         ·injection hv with S e2 e3;unfold maxLen at m;omega
        obtain⟨q',Ha,w3,S,e2,e3⟩:=G7.app P Hk.size (by have E:=H8.out;simp only [List.length_append,List.length_take] at E ⊢;omega) ⟨p++[s],xf,X,L,xv⟩ q7 C Kh.1 Kh.2 (by simpa using (QcV o7 (show (p++[s]).length=p.length+1 by simp)).2) (by simpa using Gs);refine⟨q',Ha,_,w3,by simpa using S,?_,e3⟩;rw [Go.out,<- List.append_assoc];exact e2)
       have Gn:Hid (∀w',Bl w0 w' ->w'.cell? ⟨M.heap.size,1,none⟩=some (.int .i64 Y) ->w'.cell? ⟨A.heap.size,1,none⟩=some (.map a2) ->w'.cell? ⟨wr.heap.size,0,none⟩=some (.int .i64 X) ->w'.cell? ⟨wr.heap.size,1,none⟩=some (.int .i64 L) ->(w'.cell? ⟨M.heap.size,1,none⟩=some (.int .i64 Y)/\ w'.cell? ⟨A.heap.size,1,none⟩=some (.map a2)/\ w'.cell? ⟨wr.heap.size,0,none⟩=some (.int .i64 X)/\ w'.cell? ⟨wr.heap.size,1,none⟩=some (.int .i64 L)/\ (Instr.lookup 154 (.map a2) (.agg #[.int .i64 X,.int .i64 L]) false).run Tryz.prog w'=.ok (.agg #[.string xv]) w')):=hid (fun w' E m h3 h4 h5=>⟨m,h3,h4,h5,Gk w' E⟩);have Gj:=hid ((Hi.cell (p:=⟨M.heap.size,1,none⟩) (by have:=O.out;show M.heap.size<wr.heap.size;omega)).trans G5);have Gi:=hid ((Hi.cell (p:=⟨A.heap.size,1,none⟩) (by have:=O.out;show A.heap.size<wr.heap.size;omega)).trans Gg);have D:Hid (∀w',Bl U w' ->(w'.cell? ⟨M.heap.size,1,none⟩=some (.int .i64 Y)/\ w'.cell? ⟨A.heap.size,1,none⟩=some (.map a2)/\ w'.cell? ⟨wr.heap.size,0,none⟩=some (.int .i64 X)/\ w'.cell? ⟨wr.heap.size,1,none⟩=some (.int .i64 L)/\ (Instr.lookup 154 (.map a2) (.agg #[.int .i64 X,.int .i64 L]) false).run Tryz.prog w'=.ok (.agg #[.string xv]) w')):=hid (fun w' b=>by
        have hz:=Hp.lt;have h6:=O.out;exact Gn w' (Hk.trans (b.mono Hk.size)) ((b.cell (p:=⟨M.heap.size,1,none⟩) (by show M.heap.size<U.heap.size;omega)).trans Gj) ((b.cell (p:=⟨A.heap.size,1,none⟩) (by show A.heap.size<U.heap.size;omega)).trans Gi) (Hp.bw b Hp.lt).c0 (Hp.bw b Hp.lt).c1)
       have Ja:Hid (Gr Z U bu u1):=hid (G.trans (Gr.of_below Hi));have Lr:Hid (wr.heap.size<U.heap.size):=hid DV.lt;clear Hi DV H9 Ga Hv Gx Km H5 H1 G Kl Gk G5 Gg Gf H2 Gt Gu;go_wp2_with fail;refine zS D (fun qh=> ?_);clear c1 c2 Gq;refine tZ 0 37 ?_;refine tZ 1 38 ?_;refine tZ 3 40 ?_;refine tZ 4 41 ?_;refine tZ 5 42 ?_;refine tZ 6 43 ?_;refine tZ 7 44 ?_;refine tZ 8 45 ?_;refine tZ 9 46 ?_;refine tZ 10 47 ?_;refine tZ 11 48 ?_;refine cZ 2 ?_;intro K z;go_simp;refine(Ho _ zI.drew).mono ?_;rintro e B ⟨q7,C,rfl,P,o7⟩;have H:Bl U B:=⟨P.os,P.tape,P.output,P.size,P.block⟩;refine z.out _ _ (D _ H) (fun qh=> ?_);clear z K;try simp only [zP]
       refine tZ 12 49 ?_;refine cZ 13 ?_;intro K z;go_simp;obtain⟨q8,Jk,n8,w8,Hc,Ko,g8⟩:=G2 B q7 C H o7;have Kb:Bl U (B.alloc (.cells #[.slice (some ⟨q7,0,none⟩) (p.length+1) C,.bool xf,.int .i64 X,.int .i64 L,.string xv] 106)):=H.alloc H.size _;refine z.out _ _ (D _ Kb) (fun qh=> ?_);clear z K;try simp only [zP]
       refine cZ 14 ?_;intro K z;refine QaP _ _ _ _ rfl Hc (by rfl) (by rfl) rfl ?_;have t1:=(D _ H).1;have t2:=(D _ H).2.1;have t3:=(D _ H).2.2.1;have t4:=(D _ H).2.2.2.1;have Hs:Bl w0 w8:=(Hk.trans (H.mono Hk.size)).trans (g8.bw (by have E:=Hk.size;have m:=H.size;omega) (fun k hk=>(G7.lt k hk).1));refine z.out _ _ (Gn _ Hs (g8.g.cell t1 (Hb _ (.inl ⟨Nat.le_refl _,by have:=O.out;show M.heap.size<Z.heap.size;omega⟩))) (g8.g.cell t2 (Hb _ (.inl ⟨by have:=O.out;show M.heap.size<=A.heap.size;omega,by have:=O.out;show A.heap.size<Z.heap.size;omega⟩))) (g8.g.cell t3 (Hb _ (.inr zL))) (g8.g.cell t4 (Hb _ (.inr zL)))) (fun qh=> ?_);clear z K;try simp only [zP]
       refine tZ 15 1 ?_;refine zD ?_;have Jb:=hid Ko;have K8:=hid ((Ja.trans (Gr.of_below H)).trans g8);clear qh P H Kb o7 Hc Ko g8 t1 t2 t3 t4 Hs D Gn G2 Ho;go_wp2_with fail;go_roundw;case rel=>exact⟨t+1,Gw,by go_num,Jb,K8⟩
       case measure=>simp [intOf];omega
      ·obtain rfl:t=ls.length:=by omega
       have Jd:Hid (LB wr w0.heap.size u1 (L0++ls)):=hid (by have:=H1.out;rw [List.take_length] at this;exact this);have Gy:=Gf.out;have Gz:=Gg.out;have G3:=hid (Kw u1 (L0++ls) (.slice (some ⟨J,0,none⟩) (p.length+1) Hd) wr Hg Jd (QcV H2 (show (p++[s]).length=p.length+1 by simp)).1 (fun g hg e=>by
        have S:J=g:=by simpa [Value.ownBlock] using hg
        subst S;exact Hb J (.inl (by have E:=Je.out;have m:=O.out;omega)) e.symm) (by have:=H8.out;simp only [List.length_append] at this ⊢;omega))
       go_wp2_with fail;refine G3.mono ?_;rintro e w9 ⟨v9,rfl,Kp,g9⟩;have Jc:Hid (LB w9 w0.heap.size v9 (l0++(V.take (k+1)).flatMap (gK l f p))):=hid (by rw [G4.out,<- List.append_assoc];exact Kp);have K9:Hid (Gr w1 w9 bv v9):=hid (((Hx.trans (Gr.of_below Gd)).trans G).trans g9);clear Kp g9 G3 Gy Gz;go_wp2_with fail;go_roundw;case rel=>exact⟨k+1,Ju,by go_num,Jc,K9⟩
       case measure=>simp [intOf];omega
    ·
     intro o ho K2 K z;simp only [gZa,gZb,gZc,gZd] at ho;subst ho;go_simp;have H4:Bl Q (Q.drew.alloc (.cells #[.string s] 9)):=(zI.drew).alloc zL _;refine z.out _ _ (H3 _ H4) (fun qh=> ?_);clear z K;try simp only [zP]
     refine cZ 1 ?_;intro K z;go_simp;refine(Kt _ H4).mono ?_;rintro e w4 ⟨v3,rfl,b4,o4⟩;have Hr:Bl Q w4:=Qaa H4 b4;refine z.out _ _ (H3 _ Hr) (fun qh=> ?_);clear z K;try simp only [zP]
     have Gb:=Bx1.made Q.drew (.string s) 9;have J9:w4.cell? ⟨Q.heap.size,0,none⟩=some (.string s):=(b4.cell (p:=⟨Q.heap.size,0,none⟩) Gb.lt).trans Gb.c0;have J0:w4.ownsRow Q.heap.size 9 1 v3 p.length (QcH p):=Qb2 o4 (Nat.le_of_lt Gb.lt);obtain⟨J,Hd,w5,Hc,o5,g5,Jv⟩:=Qk6 J0 Hr.size (by omega) s Q.heap.size J9;have Gp:Bl Q w5:=Hr.grown g5 Hr.size (fun k e=>(World.ownsRow.lt J0 k e).1);refine cZ 5 ?_;intro K z;refine QaP _ _ _ _ rfl Hc (by rfl) (by rfl) rfl ?_;refine z.out _ _ (H3 _ Gp) (fun qh=> ?_);clear z K;try simp only [zP]
     refine tZ 6 10 ?_;refine zD ?_;have H0:=hid o5;have Hj:=hid Gp;clear qh H4 Hr b4 Gb J9 o4 J0 o5 g5 Gp Hc H3 Kt Jv;obtain⟨bu,Jr⟩:∃b,b=u1:=⟨_,rfl⟩;subst Jr;obtain⟨M,Jw⟩:∃b,b=wr:=⟨_,rfl⟩;subst Jw;have Hf:Hid (Bl w0 w5):=hid (Hy.trans (Hj.mono Hy.size));have K5:=Hh.bw Hj Hh.lt;obtain⟨Gy,Gz⟩:=K5.q2;have Gh:=hid K5;have Ge:=hid (H7.bw Hj H7.lt);have Je:Hid (Q.heap.size<=J/\ J<w5.heap.size):=hid (World.ownsRow.lt H0 J rfl);clear K5;go_wp2_with fail;refine(Hq w5 Hf).mono ?_;rintro e Z ⟨L3,Hm,rfl,He,Hw,b6⟩;obtain⟨Jl,Lt,rfl,Ht,Ke,Hu⟩:=Qlu Hw;have Kj:Hm.length=ls.length:=by rw [He];simp
     have K7:Hid (0<ls.length ->∃I,Jl=some ⟨I,0,none⟩/\ w5.heap.size<=I/\ I<Z.heap.size/\∀i,i<ls.length ->∃x∈ls,ls[i]? =some x/\ Z.cell? ⟨I,i*2,none⟩=some (.int .i64 x.r)/\ Z.cell? ⟨I,i*2+1,none⟩=some (.int .i64 x.q)):=hid (fun h0=>by
      obtain⟨I,S,e2,e3,e4⟩:=Hu (by omega);refine⟨I,S,e2,e3,fun i hi=> ?_⟩;obtain⟨d,f1,f2,f3⟩:=e4 i (by omega);rw [He] at f1;simp only [List.getElem?_map,Option.map_eq_some_iff] at f1;obtain⟨x,f4,f5⟩:=f1;subst f5;exact⟨x,List.mem_of_getElem? f4,f4,f2,f3⟩)
     rw [Kj] at Ht ⊢;have Jt:ls.length<=1000000:=by have:=H8.out;simp only [List.length_append] at this;omega
     have G1:=Qaa Hj b6;have Gc:=Qaa Kr G1;have Gd:=hid Gc;have G8:Hid (LB Z w0.heap.size bu L0):=hid (G9.bw Gc);have Gm:Hid (Z.ownsRow Q.heap.size 9 1 (.slice (some ⟨J,0,none⟩) (p.length+1) Hd) (p.length+1) (QcH (p++[s]))):=hid (Qa6 H0 (fun g hg=>b6.block g (World.ownsRow.lt H0 g hg).2));have K6:=hid (Ge.bw b6 Ge.lt);have G6:=hid (Gh.bw b6 Gh.lt);have Hn:Hid (Bl w0 Z):=hid (Hf.trans (b6.mono Hf.size));have O:Hid (M.heap.size<A.heap.size/\ A.heap.size<Q.heap.size/\ Q.heap.size<=w5.heap.size/\ w5.heap.size<=Z.heap.size/\ w0.heap.size<=Z.heap.size):=hid ⟨Kz.1,Kz.2,Hj.size,b6.size,Hn.size⟩;clear Hw Hu He Kj b6 G1 Gc Gy Gz Ge Gh H0 Hj Hh H7 Hq;go_wp2_with fail;go_loopw [1,33] (fun b' i wr=>∃(t:Nat),t<=ls.length/\ i=.int .i64 t/\ Hid (LB wr w0.heap.size b' (L0++ls.take t))/\ Hid (Gr Z wr bu b')) (fun _ i _=>ls.length - (intOf i).toNat);case atStart=>exact⟨0,Nat.zero_le _,rfl,hid (by simpa using G8.out),hid (Gr.refl _ _)⟩
     case round=>
      clear G8;obtain⟨t,ht,rfl,H1,G⟩:=hrel;have Hl:Hid (∀b,M.heap.size<=b ->some b≠bu.ownBlock):=hid (fun b hb e=>by have:=(G0 b e.symm).2;omega);have Hb:Hid (∀b,((M.heap.size<=b/\ b<Z.heap.size) \/wr.heap.size<=b) ->some b≠u1.ownBlock):=hid (fun b hb e=>by
       have E:=(H1.lt b e.symm).2;rcases G.l with m|⟨j,m,h3⟩
       ·rw [m] at e;have:=(G0 b e.symm).2;have:=O.out;omega
       ·rw [m] at e;have e:b=j:=by injection e
        omega)
      have L1:=G.g.size;have Gf:=hid (G.g.cell G6.c0 (Hl _ (by have:=O.out;show M.heap.size<=A.heap.size;omega)));have Gg:=hid (G.g.cell G6.c1 (Hl _ (by have:=O.out;show M.heap.size<=A.heap.size;omega)));have G5:=hid (G.g.cell K6.c1 (Hl _ zL));have Hg:Hid (Bl w0 wr):=hid (Hn.trans (G.bw O.2.2.2.2 (fun k hk=>(G0 k hk).1)));have H2:Hid (wr.ownsRow Q.heap.size 9 1 (.slice (some ⟨J,0,none⟩) (p.length+1) Hd) (p.length+1) (QcH (p++[s]))):=hid (Qa6 Gm (fun g hg=>G.g.block g (World.ownsRow.lt Gm g hg).2 (Hl g (by have E:=(World.ownsRow.lt Gm g hg).1;have m:=O.out;omega))));by_cases Gw:t<ls.length
      ·obtain⟨I,rfl,Gt,Gu,Hv⟩:=K7 (by omega);obtain⟨x,Gx,Km,H9,Ga⟩:=Hv t Gw;have c1:=G.g.cell H9 (Hl I (by have m:=O.out;show M.heap.size<=I;omega));have c2:=G.g.cell Ga (Hl I (by have m:=O.out;show M.heap.size<=I;omega));have H5:=Ku x Gx;have Gk:Hid (∀w',Bl w0 w' ->(Instr.lookup 154 (.map a2) (.agg #[.int .i64 x.r,.int .i64 x.q]) false).run Tryz.prog w'=.ok (.agg #[.string x.v]) w'):=hid (fun w' h=>Kv.out w' h x Gx);have Go:Hid (ls.take (t+1)=ls.take t++[x]):=hid (by rw [List.take_add_one,Km];rfl);obtain⟨xp,xf,X,L,xv⟩:=x;dsimp only at c1 c2 H5 Gk;have Jx:xp=p++[s]:=congrArg Lf.p H5.1;have Kl:xf=decide (Y=2):=congrArg Lf.fl H5.1;subst Jx;have Lx:(Y==2)=xf:=by rw [Kl];rfl
       have Lw:∀w:World,(Instr.field 165 (.agg #[.string xv]) 0).run Tryz.prog w=.ok (.string xv) w:=fun w=>by kernel_rfl
       obtain⟨U,Gq⟩:=zE (wr.alloc (.cells #[.int .i64 X,.int .i64 L] 104));have Hi:Bl wr U:=by rw [<- Gq];exact zO _ _
       have DV:Bx2 U wr.heap.size (.int .i64 X) (.int .i64 L):=by rw [<- Gq];exact Bx2.made _ _ _ _
       have Hp:=hid DV;have Hk:Hid (Bl w0 U):=hid (Hg.trans (Hi.mono Hg.size));have G7:=hid (H1.bw Hi);have Ka:=hid (QcV (Qa6 H2 (fun g hg=>Hi.block g (World.ownsRow.lt H2 g hg).2)) (show (p++[s]).length=p.length+1 by simp));have Ho:Hid (∀w',Bl U w' ->Cl 168 #[.slice (some ⟨J,0,none⟩) (p.length+1) Hd] w' fun e H6=>∃q cap,e=.returned (.slice (some ⟨q,0,none⟩) (p.length+1) cap)/\ Bl w' H6/\ H6.ownsRow w'.heap.size 9 1 (.slice (some ⟨q,0,none⟩) (p.length+1) cap) (p.length+1) (QcH (p++[s]))):=hid (fun w' hb'=>by
        have hw:=Ka.2.same (hb'.block J Ka.2.lt);exact QhT J (p.length+1) Hd (p++[s]) w' (by simp) (by omega) hw.lt (fun t ht=>hw.cell ht))
       have G2:Hid (∀B q7 C,Bl U B ->B.ownsRow U.heap.size 9 1 (.slice (some ⟨q7,0,none⟩) (p.length+1) C) (p.length+1) (QcH (p++[s])) ->∃q' Ha n' w3,(Builtin.append_ #[35,35] 35 #[u1,.slice (some ⟨B.heap.size,0,none⟩) 1 1]).run Tryz.prog (B.alloc (.cells #[.slice (some ⟨q7,0,none⟩) (p.length+1) C,.bool xf,.int .i64 X,.int .i64 L,.string xv] 106))=.ok (.slice (some ⟨q',0,none⟩) n' Ha) w3/\
         LB w3 w0.heap.size (.slice (some ⟨q',0,none⟩) n' Ha) (L0++ls.take (t+1))/\ Gr B w3 u1 (.slice (some ⟨q',0,none⟩) n' Ha)):=hid (fun B q7 C P o7=>by
        have Kh:=World.ownsRow.lt o7 q7 rfl;have Gs:p.length+1<=C/\ C<=9223372036854775807:=by
         rcases o7.2 with ⟨h0,_⟩|⟨g',Ha,Ls,hv,Kc,hb,E,m,h3,h4⟩
         ·cases h0
         ·injection hv with S e2 e3;unfold maxLen at m;omega
        obtain⟨q',Ha,w3,S,e2,e3⟩:=G7.app P Hk.size (by have E:=H8.out;simp only [List.length_append,List.length_take] at E ⊢;omega) ⟨p++[s],xf,X,L,xv⟩ q7 C Kh.1 Kh.2 (by simpa using (QcV o7 (show (p++[s]).length=p.length+1 by simp)).2) (by simpa using Gs);refine⟨q',Ha,_,w3,by simpa using S,?_,e3⟩;rw [Go.out,<- List.append_assoc];exact e2)
       have Gn:Hid (∀w',Bl w0 w' ->w'.cell? ⟨M.heap.size,1,none⟩=some (.int .i64 Y) ->w'.cell? ⟨A.heap.size,1,none⟩=some (.map a2) ->w'.cell? ⟨wr.heap.size,0,none⟩=some (.int .i64 X) ->w'.cell? ⟨wr.heap.size,1,none⟩=some (.int .i64 L) ->(w'.cell? ⟨M.heap.size,1,none⟩=some (.int .i64 Y)/\ w'.cell? ⟨A.heap.size,1,none⟩=some (.map a2)/\ w'.cell? ⟨wr.heap.size,0,none⟩=some (.int .i64 X)/\ w'.cell? ⟨wr.heap.size,1,none⟩=some (.int .i64 L)/\ (Instr.lookup 154 (.map a2) (.agg #[.int .i64 X,.int .i64 L]) false).run Tryz.prog w'=.ok (.agg #[.string xv]) w')):=hid (fun w' E m h3 h4 h5=>⟨m,h3,h4,h5,Gk w' E⟩);have Gj:=hid ((Hi.cell (p:=⟨M.heap.size,1,none⟩) (by have:=O.out;show M.heap.size<wr.heap.size;omega)).trans G5);have Gi:=hid ((Hi.cell (p:=⟨A.heap.size,1,none⟩) (by have:=O.out;show A.heap.size<wr.heap.size;omega)).trans Gg);have D:Hid (∀w',Bl U w' ->(w'.cell? ⟨M.heap.size,1,none⟩=some (.int .i64 Y)/\ w'.cell? ⟨A.heap.size,1,none⟩=some (.map a2)/\ w'.cell? ⟨wr.heap.size,0,none⟩=some (.int .i64 X)/\ w'.cell? ⟨wr.heap.size,1,none⟩=some (.int .i64 L)/\ (Instr.lookup 154 (.map a2) (.agg #[.int .i64 X,.int .i64 L]) false).run Tryz.prog w'=.ok (.agg #[.string xv]) w')):=hid (fun w' b=>by
        have hz:=Hp.lt;have h6:=O.out;exact Gn w' (Hk.trans (b.mono Hk.size)) ((b.cell (p:=⟨M.heap.size,1,none⟩) (by show M.heap.size<U.heap.size;omega)).trans Gj) ((b.cell (p:=⟨A.heap.size,1,none⟩) (by show A.heap.size<U.heap.size;omega)).trans Gi) (Hp.bw b Hp.lt).c0 (Hp.bw b Hp.lt).c1)
       have Ja:Hid (Gr Z U bu u1):=hid (G.trans (Gr.of_below Hi));have Lr:Hid (wr.heap.size<U.heap.size):=hid DV.lt;clear Hi DV H9 Ga Hv Gx Km H5 H1 G Kl Gk G5 Gg Gf H2 Gt Gu;go_wp2_with fail;refine zS D (fun qh=> ?_);clear c1 c2 Gq;refine tZ 0 37 ?_;refine tZ 1 38 ?_;refine tZ 3 40 ?_;refine tZ 4 41 ?_;refine tZ 5 42 ?_;refine tZ 6 43 ?_;refine tZ 7 44 ?_;refine tZ 8 45 ?_;refine tZ 9 46 ?_;refine tZ 10 47 ?_;refine tZ 11 48 ?_;refine cZ 2 ?_;intro K z;go_simp;refine(Ho _ zI.drew).mono ?_;rintro e B ⟨q7,C,rfl,P,o7⟩;have H:Bl U B:=⟨P.os,P.tape,P.output,P.size,P.block⟩;refine z.out _ _ (D _ H) (fun qh=> ?_);clear z K;try simp only [zP]
       refine tZ 12 49 ?_;refine cZ 13 ?_;intro K z;go_simp;obtain⟨q8,Jk,n8,w8,Hc,Ko,g8⟩:=G2 B q7 C H o7;have Kb:Bl U (B.alloc (.cells #[.slice (some ⟨q7,0,none⟩) (p.length+1) C,.bool xf,.int .i64 X,.int .i64 L,.string xv] 106)):=H.alloc H.size _;refine z.out _ _ (D _ Kb) (fun qh=> ?_);clear z K;try simp only [zP]
       refine cZ 14 ?_;intro K z;refine QaP _ _ _ _ rfl Hc (by rfl) (by rfl) rfl ?_;have t1:=(D _ H).1;have t2:=(D _ H).2.1;have t3:=(D _ H).2.2.1;have t4:=(D _ H).2.2.2.1;have Hs:Bl w0 w8:=(Hk.trans (H.mono Hk.size)).trans (g8.bw (by have E:=Hk.size;have m:=H.size;omega) (fun k hk=>(G7.lt k hk).1));refine z.out _ _ (Gn _ Hs (g8.g.cell t1 (Hb _ (.inl ⟨Nat.le_refl _,by have:=O.out;show M.heap.size<Z.heap.size;omega⟩))) (g8.g.cell t2 (Hb _ (.inl ⟨by have:=O.out;show M.heap.size<=A.heap.size;omega,by have:=O.out;show A.heap.size<Z.heap.size;omega⟩))) (g8.g.cell t3 (Hb _ (.inr zL))) (g8.g.cell t4 (Hb _ (.inr zL)))) (fun qh=> ?_);clear z K;try simp only [zP]
       refine tZ 15 1 ?_;refine zD ?_;have Jb:=hid Ko;have K8:=hid ((Ja.trans (Gr.of_below H)).trans g8);clear qh P H Kb o7 Hc Ko g8 t1 t2 t3 t4 Hs D Gn G2 Ho;go_wp2_with fail;go_roundw;case rel=>exact⟨t+1,Gw,by go_num,Jb,K8⟩
       case measure=>simp [intOf];omega
      ·obtain rfl:t=ls.length:=by omega
       have Jd:Hid (LB wr w0.heap.size u1 (L0++ls)):=hid (by have:=H1.out;rw [List.take_length] at this;exact this);have Gy:=Gf.out;have Gz:=Gg.out;have G3:=hid (Kw u1 (L0++ls) (.slice (some ⟨J,0,none⟩) (p.length+1) Hd) wr Hg Jd (QcV H2 (show (p++[s]).length=p.length+1 by simp)).1 (fun g hg e=>by
        have S:J=g:=by simpa [Value.ownBlock] using hg
        subst S;exact Hb J (.inl (by have E:=Je.out;have m:=O.out;omega)) e.symm) (by have:=H8.out;simp only [List.length_append] at this ⊢;omega))
       go_wp2_with fail;refine G3.mono ?_;rintro e w9 ⟨v9,rfl,Kp,g9⟩;have Jc:Hid (LB w9 w0.heap.size v9 (l0++(V.take (k+1)).flatMap (gK l f p))):=hid (by rw [G4.out,<- List.append_assoc];exact Kp);have K9:Hid (Gr w1 w9 bv v9):=hid (((Hx.trans (Gr.of_below Gd)).trans G).trans g9);clear Kp g9 G3 Gy Gz;go_wp2_with fail;go_roundw;case rel=>exact⟨k+1,Ju,by go_num,Jc,K9⟩
       case measure=>simp [intOf];omega
   ·obtain rfl:k=V.length:=by omega
    have HF:Hid (l0++(V.take V.length).flatMap (gK l f p)=l0++(kS l p l.length).flatMap (gK l f p)):=hid (by rw [List.take_length,Lo.out]);go_wp2_with fail;go_ret;exact⟨_,rfl,by rw [<- HF.out];exact G9,(Gr.of_below (b:=bv) K3).trans Hx⟩
def LvJ (w:World)(z0:Nat×Nat)(bd:Nat)(J:List Lf)(ul:List Rn):Prop:=∃N B c n D G L,JF w B J [] N c z0/\ c<=1048576/\ QeV w bd n D G L/\ QdA L 8=ul/\ (∀r,L r≠[] ->0<=r/\ r<8)/\ (∀r,(L r).length<=4000)
theorem LvJ.bw(h:LvJ w z0 bd J ul)(hb:Bl w w'):LvJ w' z0 bd J ul:=by
 obtain⟨N,B,c,n,D,G,L,j,k,m,q⟩:=h;exact⟨N,B,c,n,D,G,L,⟨j.tre.bw hb,j.root,j.there⟩,k,m.bw hb,q⟩
theorem LvJ.far(h:LvJ w z0 bd J ul){t:Nat}{ty:TypeId}(m:∃v f,w.heap[t]? =some (.cells v ty f))(hty:ty≠233)(hg:w.grownBy w' (some t)):LvJ w' z0 bd J ul:=by
 obtain⟨N,B,c,n,D,G,L,k,s,u,A⟩:=h;obtain⟨v,f,m⟩:=m;refine⟨N,B,c,n,D,G,L,⟨k.tre.same fun p x hx=>⟨hg.block _ (k.tre.lt hx).1 (fun e=> ?_),hg.block _ (k.tre.lt hx).2 (fun e=> ?_)⟩,k.root,k.there⟩,s,u.gr hg (fun e=> ?_) (fun r g hrg e=> ?_),A⟩
 ·obtain⟨y,z,q⟩:=(k.tre.kids p x hx).obj;injection e with e;rw [e,m] at q;cases q
 ·obtain⟨y,z,q⟩:=(k.tre.marks p x hx).obj;injection e with e;rw [e,m] at q;cases q
 ·obtain⟨y,O,j,_⟩:=u.own;injection e with e;rw [e,m] at j;cases j
 ·rcases (u.rows r).2 with ⟨b,_⟩|⟨i,M,Q,E,_,j,_⟩
  ·rw [b] at hrg;cases hrg
  ·rw [E] at hrg;have o:i=g:=by simpa [Value.ownBlock] using hrg
   injection e with e;rw [o,e,m] at j;injection j with j;injection j with _ j;exact hty j
theorem Qnx (w:World)(t:Nat)(u0 u1 u2:Value):w.grownBy (((w.setCell ⟨t,0,none⟩ u0).setCell ⟨t,1,none⟩ u1).setCell ⟨t,2,none⟩ u2) (some t):=by
 have j:w.grownBy (w.setCell ⟨t,0,none⟩ u0) (some t):=Qan w ⟨t,0,none⟩ u0;have k:(w.setCell ⟨t,0,none⟩ u0).grownBy ((w.setCell ⟨t,0,none⟩ u0).setCell ⟨t,1,none⟩ u1) (some t):=Qan _ ⟨t,1,none⟩ u1;have m:((w.setCell ⟨t,0,none⟩ u0).setCell ⟨t,1,none⟩ u1).grownBy (((w.setCell ⟨t,0,none⟩ u0).setCell ⟨t,1,none⟩ u1).setCell ⟨t,2,none⟩ u2) (some t):=Qan _ ⟨t,2,none⟩ u2;exact(j.trans k).trans m
theorem Qkz(h:StW S.R S.F S.T S.n S.l)(h':StW S'.R S'.F S'.T S'.n S'.l)(hl:(jnS S S').l.length<=1000):LvB (jnS S S').l:=
 ⟨fun i hi=>(Qge h h' _ (Qai.2 ⟨i,hi,rfl⟩)).1,fun i hi=>(Qge h h' _ (Qai.2 ⟨i,hi,rfl⟩)).2.1,fun i hi=>(Qge h h' _ (Qai.2 ⟨i,hi,rfl⟩)).2.2.1,hl,QgL h h'⟩
def Qmr (n:Nat)(A B:Nat ->Int)(i:Nat):Int:=if i<n then A i else B (i - n)
theorem QmH(h:StW S.R S.F S.T S.n S.l)(h':StW S'.R S'.F S'.T S'.n S'.l):QbT (Qmr S.n S.R S'.R) (Qmr S.n S.F S'.F) (Qmr S.n S.T S'.T) (S.n+S'.n) (jnS S S').l (jnS S S').l.length:=
 QnF h h' fun z j=>by
  rcases j with j|j
  ·obtain⟨k,m,q,r,u⟩:=QcP _ _ _ _ _ _ _ j;refine Qe5 (k:=k) (by omega) ?_;unfold Qmr;rw [if_pos m,if_pos m,if_pos m];exact⟨q,r,u⟩
  ·obtain⟨k,m,q,r,u⟩:=QcP _ _ _ _ _ _ _ j;refine Qe5 (k:=S.n+k) (by omega) ?_;unfold Qmr;rw [if_neg (by omega),if_neg (by omega),if_neg (by omega),show S.n+k - S.n=k by omega];exact⟨q,r,u⟩
theorem Qn0 {x:Lf}(h:x.p.length<=8):(Way x).length<=8:=by unfold Way;rw [Qav];exact h
def OpA (w:World)(x0:Nat×Nat)(bm:Nat)(S:Sx):Prop:=∃n D G N B,n<=2000/\ Qaz w bm n D G (Lk S.R S.F S.T S.n)/\ Tre w B N (Mk S.l S.l.length) (9*S.l.length)/\ N []=some x0/\ NkI S.l S.l.length N
theorem OpA.bw(h:OpA w x0 bm S)(hb:Bl w w'):OpA w' x0 bm S:=by
 obtain⟨n,D,G,N,B,j,k,m,q,r⟩:=h;exact⟨n,D,G,N,B,j,k.bw hb,m.bw hb,q,r⟩
theorem Bx3.far{b t:Nat}(h:Bx3 w b v0 v1 v2)(hg:w.grownBy w' (some t))(hne:b≠t):Bx3 w' b v0 v1 v2:=h.gr hg (fun k e=>by injection e with e;omega)
theorem QiB{N:List Ky ->Option (Nat×Nat)}(h:NkI l l.length N)(h8:∀x∈l,x.p.length<=8):∀p,N p≠none ->p.length<=8:=fun p hp=>by
 have k:(N p).isSome=true:=by
  cases hv:N p with
  | none=>exact absurd hv hp
  | some v=>rfl
 rcases (h p).1 k with e|⟨j,m,q⟩
 ·rw [e];simp
 ·exact Nat.le_trans q.length_le (Qn0 (h8 _ (Qai.2 ⟨j,m,rfl⟩)))
theorem QmT{N:List Ky ->Option (Nat×Nat)}(h:NkI l l.length N){x:Lf}(hx:x∈l)(hp:z <+:Way x):N z≠none:=fun hn=>by
 obtain⟨j,k,e⟩:=Qai.1 hx;have:=(h z).2 (.inr ⟨j,k,by rw [e];exact hp⟩);rw [hn] at this;cases this
theorem QjC {w0:World}(h:OpA w0 x0 bm S)(h':OpA w0 y0 bm' S')(hs:StW S.R S.F S.T S.n S.l)(hs':StW S'.R S'.F S'.T S'.n S'.l)(w:World)(hb:Bl w0 w):
  Cl 139 #[.agg #[.map (some x0.1),.map (some x0.2),.map (some bm)],.agg #[.map (some y0.1),.map (some y0.2),.map (some bm')]] w fun e w'=>(∃z0 N,e=.returned (.agg #[.map (some z0.1),.map (some z0.2)])/\ JF w' w.heap.size (jnS S S').l [] N (10*(9*S.l.length+9*S'.l.length)) z0)/\ Bl w w':=by
 obtain⟨Z,D,G,N,B,J,t,E,r1,v⟩:=h;obtain⟨I,Q,U,u,O,K,o,M,r2,g⟩:=h';have s:=hs.1;have A:=hs'.1;have H:JH w0 N u (Mk S.l S.l.length) (Mk S'.l S'.l.length) (9*S.l.length) (9*S'.l.length) bm bm' (fun d=>QbG S.R S.F S.T d.1 d.2 d.2 S.n) (fun d=>QbG S'.R S'.F S'.T d.1 d.2 d.2 S'.n) (jnS S S').l:=by
  refine⟨E.lower (Nat.zero_le _),M.lower (Nat.zero_le _),fun w hw r q kl hk=> ?_,fun w hw r q kl hk=> ?_,fun z=>QmL hs hs' z,fun z y ha=> ?_⟩
  ·have:=QnD (t.bw hw) r q (QcZ hk).1 (Qcg S.n s.1 r).1 (Nat.le_trans (Qbo S.R S.F S.T S.n r) (by omega));rw [Qe7] at this;exact this
  ·have:=QnD (o.bw hw) r q (QcZ hk).1 (Qcg S'.n A.1 r).1 (Nat.le_trans (Qbo S'.R S'.F S'.T S'.n r) (by omega));rw [Qe7] at this;exact this
  ·obtain⟨x,k,j⟩:=ha;rcases Qd1 x k with m|m
   ·exact .inl (QmT v m j)
   ·exact .inr (QmT g m.1 j)
 have i:∀p,(N p≠none \/u p≠none) ->p.length<=8:=fun p j=>by
  rcases j with j|j
  ·exact QiB v (fun x k=>(QdJ hs x k).2.2.2) p j
  ·exact QiB g (fun x k=>(QdJ hs' x k).2.2.2) p j
 have V:=hs.2.1;have Y:=hs'.2.1;have:=Qec H i (by omega) 8 [] rfl w hb;unfold Qk2 at this;rw [r1,r2] at this;exact this.mono fun e w' ⟨⟨z0,N1,e1,e2⟩,b⟩=>⟨⟨z0,N1,e1,e2⟩,b⟩
theorem Qfq(w:World)(h:OpA w x0 bm S)(h':OpA w y0 bm' S')(hs:StW S.R S.F S.T S.n S.l)(hs':StW S'.R S'.F S'.T S'.n S'.l):
  Cl 109 #[.agg #[.map (some x0.1),.map (some x0.2),.map (some bm)],.agg #[.map (some y0.1),.map (some y0.2),.map (some bm')]] w fun e w'=>(∃j k,e=.returned (.agg #[.map (some j.1),.map (some j.2),.map (some k)])/\ LvJ w' j k (jnS S S').l (jnU S S'))/\ Bl w w':=by
 have g:=hs.1;have o:=hs'.1;have hl:=hs.2.1;have He:=hs'.2.1;obtain⟨W,y⟩:=zE (((w.alloc (.cells #[.map (some x0.1),.map (some x0.2),.map (some bm)] 160)).alloc (.cells #[.map (some y0.1),.map (some y0.2),.map (some bm')] 160)).alloc (.cells #[.map none,.map none,.map none] 160));have z:Bl w W:=by rw [<- y];exact(Qae _ _ _).alloc (by simp;omega) _
 have A0:Bx3 W w.heap.size (.map (some x0.1)) (.map (some x0.2)) (.map (some bm)):=by
  rw [<- y];exact((Bx3.made w _ _ _ _).bw (zO _ _) (Bx3.made w _ _ _ _).lt).bw (zO _ _) (by simp;omega)
 have B0:Bx3 W (w.heap.size+1) (.map (some y0.1)) (.map (some y0.2)) (.map (some bm')):=by
  rw [<- y];have:=Bx3.made (w.alloc (.cells #[.map (some x0.1),.map (some x0.2),.map (some bm)] 160)) (.map (some y0.1)) (.map (some y0.2)) (.map (some bm')) 160;exact(by simpa using this:Bx3 _ (w.heap.size+1) _ _ _).bw (zO _ _) (by simp)
 have R0:Bx3 W (w.heap.size+1+1) (.map none) (.map none) (.map none):=by
  rw [<- y];simpa using Bx3.made ((w.alloc (.cells #[.map (some x0.1),.map (some x0.2),.map (some bm)] 160)).alloc (.cells #[.map (some y0.1),.map (some y0.2),.map (some bm')] 160)) (.map none) (.map none) (.map none) 160
 have Hb:=hid (fun w1 (m:Bl W w1)=>QjC (h.bw z) (h'.bw z) hs hs' w1 m);have Hd:Hid (∀w1,Bl W w1 ->Cl 140 #[.map (some bm),.map (some bm')] w1 fun e w'=>(∃k n D G L,e=.returned (.map (some k))/\ QeV w' k n D G L/\ QdA L 8=jnU S S'/\ (∀r,L r≠[] ->0<=r/\ r<8)/\ (∀r,(L r).length<=4000))/\ Bl w1 w'):=hid (fun w1 m=>by
  obtain⟨nA,D,G,N,B,zA,g1,_⟩:=(h.bw z).bw m;obtain⟨nB,D',G',N',B',zB,g2,_⟩:=(h'.bw z).bw m;refine(QlW g1 g2 (fun r=>(Qcg S.n g.1 r).1) (fun r=>(Qcg S'.n o.1 r).1) (fun r=>Nat.le_trans (Qbo S.R S.F S.T S.n r) g.2) (fun r=>Nat.le_trans (Qbo S'.R S'.F S'.T S'.n r) o.2) (Nat.le_trans g1.size_le zA) (Nat.le_trans g2.size_le zB)).mono ?_;rintro e w3 ⟨k,P,D,G,L,rfl,Hn,O,i,b3⟩;refine⟨⟨k,P,D,G,L,rfl,O,(Qke g.1 o.1 i.s (fun r x=>i.done r rfl x)).symm,fun r hr=> ?_,fun r=> ?_⟩,b3⟩
  ·obtain⟨x,hx⟩:=(i.s r).inh hr;rcases (i.done r rfl x).1 hx with h|h
   ·exact QdT S.n g.1 r (QkL h)
   ·exact QdT S'.n o.1 r (QkL h)
  ·have h1:=i.len r;have h2:=Qbo S.R S.F S.T S.n r;have h3:=Qbo S'.R S'.F S'.T S'.n r;omega)
 have p:=hid A0;have A:=hid B0;have I:=hid R0;have Hh:=hid z;have Hm:Hid (∃C f,W.heap[w.heap.size+1+1]? =some (.cells C 160 f)):=hid (by
  rw [<- y];have:=heap_alloc_new ((w.alloc (.cells #[.map (some x0.1),.map (some x0.2),.map (some bm)] 160)).alloc (.cells #[.map (some y0.1),.map (some y0.2),.map (some bm')] 160)) (.cells #[.map none,.map none,.map none] 160);exact⟨_,_,by simpa using this⟩)
 have Hj:=hid (And.intro hl He);have E:Hid (∀w',Bl W w' ->(w'.cell? ⟨w.heap.size,0,none⟩=some (.map (some x0.1))/\ w'.cell? ⟨w.heap.size,1,none⟩=some (.map (some x0.2))/\ w'.cell? ⟨w.heap.size,2,none⟩=some (.map (some bm))/\ w'.cell? ⟨w.heap.size+1,0,none⟩=some (.map (some y0.1))/\ w'.cell? ⟨w.heap.size+1,1,none⟩=some (.map (some y0.2))/\ w'.cell? ⟨w.heap.size+1,2,none⟩=some (.map (some bm')))):=hid (fun w' b=>by
  have U:=p.bw b p.lt;have V:=A.bw b A.lt;exact⟨U.c0,U.c1,U.c2,V.c0,V.c1,V.c2⟩)
 clear A0 B0 R0 z h h' hs hs' g o hl He;go_enter Tryz.func109,Tryz.ntmps109;go_wp2_with fail;try rw [y]
 clear y;refine zS E (fun qh=> ?_);refine tZ 0 5 ?_;refine tZ 1 6 ?_;refine tZ 3 8 ?_;refine tZ 4 9 ?_;refine tZ 5 10 ?_;refine tZ 6 11 ?_;refine cZ 2 ?_;intro K q;go_simp;refine(Hb _ zI.drew).mono ?_;rintro e w1 ⟨⟨j,N,rfl,jf⟩,m⟩;have M:Bl W w1:=⟨m.os,m.tape,m.output,m.size,m.block⟩;have H:=hid jf;clear jf;refine q.out _ _ (E _ M) (fun qh=> ?_);clear q K;try simp only [zP]
 refine cZ 7 ?_;intro K q;go_simp;refine(Hd _ M).mono ?_;rintro e Q ⟨⟨k,P,D,G,L,rfl,O,Hf,Hg,Ha⟩,X⟩;have u:=Qaa M X;have J:=I.bw u I.lt;have Hk:Hid (LvJ Q j k (jnS S S').l (jnU S S')):=hid ⟨N,_,_,P,D,G,L,⟨H.tre.bw X,H.root,H.there⟩,by have:=Hj.out;omega,O,Hf,Hg,Ha⟩;clear O Hf Hg Ha;refine q.out _ _ (E _ u) (fun qh=> ?_);clear q K;try simp only [zP]
 refine tZ 8 13 ?_;obtain⟨t0,t1,t2,tf⟩:=J.p3;have Hl:=hid (J.set (.map (some j.1)) (.map (some j.2)) (.map (some k)));have Y:=hid ((p.bw u p.lt).far (Qnx Q (w.heap.size+1+1) (.map (some j.1)) (.map (some j.2)) (.map (some k))) (by omega));have Z:=hid ((A.bw u A.lt).far (Qnx Q (w.heap.size+1+1) (.map (some j.1)) (.map (some j.2)) (.map (some k))) (by omega));have Hc:=hid (Hk.far (t:=w.heap.size+1+1) (by obtain⟨C,f,e⟩:=Hm.out;exact⟨C,f,(u.block _ I.lt).trans e⟩) (by decide) (Qnx Q (w.heap.size+1+1) (.map (some j.1)) (.map (some j.2)) (.map (some k))));have Hi:=hid (Qaa Hh u);refine cZ 9 ?_;intro K q;go_simp;refine q.out _ _ ⟨Y.c0,Y.c1,Y.c2,Z.c0,Z.c1,Z.c2⟩ (fun qh=> ?_);clear q K;try simp only [zP]
 refine zD ?_;clear qh m M X u J t0 t1 t2 tf E Hb Hd;go_wp2_with fail;obtain⟨s0,s1,s2⟩:=Hl.q3;refine zF (v:=.agg #[.map (some j.1),.map (some j.2),.map (some k)]) (by simp [results,Tryz.results109,go_sem,s0,s1,s2]) ?_;first|refine⟨⟨j.1,j.2,k,rfl,Hc⟩,?_⟩|refine⟨⟨j,k,rfl,Hc⟩,?_⟩
 exact((Hi.setCell (by simp;omega) _).setCell (by simp;omega) _).setCell (by simp;omega) _
theorem Qg4(w:World)(h:LvJ w z0 bd J ul)(hd:Dis J J.length)(h8:∀x∈J,x.p.length<=8)(hJ:J.length<=1048576)(hu:ul.length<=1048576):
  Cl 110 #[.agg #[.map (some z0.1),.map (some z0.2),.map (some bd)]] w (Rt w (.bool (decide (J.length<=1000) && decide (ul.length<=1000)))):=by
 obtain⟨W,k⟩:=zE (w.alloc (.cells #[.map (some z0.1),.map (some z0.2),.map (some bd)] 160));have A:Bl w W:=by rw [<- k];exact zO _ _
 have s:Bx3 W w.heap.size (.map (some z0.1)) (.map (some z0.2)) (.map (some bd)):=by rw [<- k];exact Bx3.made _ _ _ _ _
 obtain⟨N,B,c,n,D,G,L,E,U,Y,Z,H,I⟩:=h.bw A;have v:=hid (Qkp (E.tj hd) U hJ (fun x hx=>Qn0 (h8 x hx)) 8 [] z0 rfl E.root W zI);rw [Qmq] at v;have q:=hid (fun w1 (j:Bl W w1)=>Qld (Y.bw j) H I);rw [Z] at q;have t:=hid A;have g:=hid s;obtain⟨k0,T⟩:=s.q2;obtain⟨m,K⟩:=zE J.length;obtain⟨u,X⟩:=zE ul.length;rw [K] at v hJ ⊢;rw [X] at q hu ⊢;obtain⟨V,M⟩:=zE ((decide (m<=1000) && decide (u<=1000)));rw [M];have b:=hid M;clear A s h E U Y Z H I hd h8 K X M;by_cases O:m<=1000
 ·have C:(m:Int)<=1000:=by omega
  by_cases Q:u<=1000
  ·have F:(u:Int)<=1000:=by omega
   have y:Hid (V=true):=hid (by rw [<- b.out];simp [O,Q]);go_enter Tryz.func110,Tryz.ntmps110;go_wp2_with fail;try rw [k]
   clear k;refine v.mono ?_;rintro e w1 ⟨rfl,j⟩;have R:=(g.bw j g.lt).c2;have r:=hid (Qaa t j);have i:=hid (q w1 j);clear j q;go_wp2_with fail;refine i.mono ?_;rintro e S ⟨rfl,z⟩;have o:=hid (Qaa r z);clear z;go_wp2_with fail;go_ret;exact⟨Qay y.symm,o⟩
  ·have F:¬(u:Int)<=1000:=by omega
   have P:decide ((u:Int)<=1000)=false:=by simpa using F
   have y:Hid (V=false):=hid (by rw [<- b.out];simp [Q]);go_enter Tryz.func110,Tryz.ntmps110;go_wp2_with fail;try rw [k]
   clear k;refine v.mono ?_;rintro e w1 ⟨rfl,j⟩;have R:=(g.bw j g.lt).c2;have r:=hid (Qaa t j);have i:=hid (q w1 j);clear j q;go_wp2_with fail;refine i.mono ?_;rintro e S ⟨rfl,z⟩;have o:=hid (Qaa r z);clear z;go_wp2_with fail;go_ret;exact⟨Qay y.symm,o⟩
 ·have C:¬(m:Int)<=1000:=by omega
  have P:decide ((m:Int)<=1000)=false:=by simpa using C
  have y:Hid (V=false):=hid (by rw [<- b.out];simp [O]);go_enter Tryz.func110,Tryz.ntmps110;go_wp2_with fail;try rw [k]
  clear k;refine v.mono ?_;rintro e w1 ⟨rfl,j⟩;have r:=hid (Qaa t j);clear j q;go_wp2_with fail;go_ret;exact⟨Qay y.symm,r⟩
end Go.Proofs.YtgmjgboibfdaeaaGreatDoor
