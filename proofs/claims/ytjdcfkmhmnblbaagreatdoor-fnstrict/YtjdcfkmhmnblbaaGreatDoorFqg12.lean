import Derived.Test.YtjdcfkmhmnblbaaGreatDoorFqg11
import Derived.Test.YtjdcfkmhmnblbaaGreatDoorFqg10
import Derived.Test.YtjdcfkmhmnblbaaGreatDoorFqg04
import Derived.Deep.CutRange
import Derived.Test.YtjdcfkmhmnblbaaGreatDoorFqg05
import Derived.Test.YtjdcfkmhmnblbaaGreatDoorFqg02
import Derived.Test.YtjdcfkmhmnblbaaGreatDoorFqg08
set_option linter.unusedVariables false
set_option linter.unusedSimpArgs false
set_option maxRecDepth 100000
set_option maxHeartbeats 40000000
namespace Go.Proofs.YtjdcfkmhmnblbaaGreatDoor
open Go.ChangeShapes Go.WideShapes Go.ChangeAt Go.RowKit Go.Maps
def seP (S:Sx)(rep:Int)(p:List ByteArray)(fl on:Bool)(v:ByteArray):List Lf:=if on then [nxY S rep p fl v] else []
def QlA (S:Sx)(rep:Int)(on:Bool):Prop:=(0<=rep/\ rep<8)/\ (on=true ->Qbj S.R S.T rep S.n+1<=1000000000)
noncomputable def seD (S:Sx)(rep:Int)(p:List ByteArray)(fl on:Bool)(v:ByteArray):Sx:=dlS (gnS p fl) S.l (seP S rep p fl on v)
noncomputable def seC (S:Sx)(rep:Int)(p:List ByteArray)(fl on:Bool)(v:ByteArray):Int:=if ocC S p v=0 then(if yes (QlA S rep on)=true then chC S (seD S rep p fl on v) else 3) else ocC S p v
noncomputable def seX (S:Sx)(rep:Int)(p:List ByteArray)(fl on:Bool)(v:ByteArray):Sx:=if ocC S p v=0 then(if yes (QlA S rep on)=true then chX S (seD S rep p fl on v) else Sx.mt) else Sx.mt
noncomputable def seY (S:Sx)(rep:Int)(p:List ByteArray)(fl on:Bool)(v:ByteArray):Sx:=if ocC S p v=0 then(if yes (QlA S rep on)=true then chY S (seD S rep p fl on v) else Sx.mt) else Sx.mt
section
variable {S : Sx} {rep : Int} {p : List ByteArray} {fl on : Bool} {v : ByteArray}
theorem Qos (h:ocC S p v≠0):seX S rep p fl on v=Sx.mt/\ seY S rep p fl on v=Sx.mt/\ seC S rep p fl on v=ocC S p v:=by unfold seX seY seC;rw [if_neg h,if_neg h,if_neg h];exact⟨rfl,rfl,rfl⟩
theorem Qpk (h:ocC S p v=0)(hn:¬QlA S rep on):seX S rep p fl on v=Sx.mt/\ seY S rep p fl on v=Sx.mt/\ seC S rep p fl on v=3:=by unfold seX seY seC;rw [if_pos h,if_pos h,if_pos h,Qaj hn];exact⟨rfl,rfl,rfl⟩
theorem Qpl (h:ocC S p v=0)(hn:QlA S rep on):seX S rep p fl on v=chX S (seD S rep p fl on v)/\ seY S rep p fl on v=chY S (seD S rep p fl on v)/\ seC S rep p fl on v=chC S (seD S rep p fl on v):=by unfold seX seY seC;rw [if_pos h,if_pos h,if_pos h,Qal hn];exact⟨rfl,rfl,rfl⟩
theorem Qob (hs:QaQ S.R S.F S.T S.n S.l)(hp:QaS p)(hv:v.size<=200)(hf:fl=true ->emB v=true)(h:QlA S rep on):PtO S (seP S rep p fl on v):=by
 unfold seP;cases on with
 | true=>exact Ql3 hs hp hv hf ⟨h.1,h.2 rfl⟩
 | false=>exact PtO.nil S
theorem Qk7 (hs:QaQ S.R S.F S.T S.n S.l):Qce S.R S.F S.T rep S.n=yes (QnO S rep):=by
 have j:=Qhb hs.1 rep;have e:Qce S.R S.F S.T rep S.n=QaL rep (Qbj S.R S.T rep S.n+1) (Qbj S.R S.T rep S.n+1):=by unfold Qce;rw [hs.1];rfl
 rw [e];by_cases h:QnO S rep
 ·rw [Qal h];exact QbF ⟨h.1.1,h.1.2,by omega,by omega,h.2⟩
 ·rw [Qaj h];exact Qa7 (fun hh=>h ⟨⟨hh.1,hh.2.1⟩,by omega⟩)
end
theorem Qk3 (B:Nat)(w:World)(g0:Nat)(pa:Option Addr)(m pc:Nat)(fl:Bool)(r q:Int)(v:ByteArray)(h:w.ownsRow B 77 5 (.slice (some ⟨g0,0,none⟩) 0 0) 0 [])(hB:B<=w.heap.size):
  ∃g c w',(Builtin.append_ #[24,24] 24 #[.slice (some ⟨g0,0,none⟩) 0 0,.slice (some ⟨w.heap.size,0,none⟩) 1 1]).run Tryz.prog (w.alloc (.cells #[.slice pa m pc,.bool fl,.int .i64 r,.int .i64 q,.string v] 77))=.ok (.slice (some ⟨g,0,none⟩) 1 c) w'/\ Below B w w'/\ g<w'.heap.size/\ w'.cell? ⟨g,0,none⟩=some (.slice pa m pc)/\ w'.cell? ⟨g,1,none⟩=some (.bool fl)/\ w'.cell? ⟨g,2,none⟩=some (.int .i64 r)/\ w'.cell? ⟨g,3,none⟩=some (.int .i64 q)/\ w'.cell? ⟨g,4,none⟩=some (.string v):=by
 obtain⟨Z,O,U,V,Y⟩:=info_parts Qd0;have o:Below w.heap.size w (w.alloc (.cells #[.slice pa m pc,.bool fl,.int .i64 r,.int .i64 q,.string v] 77)):=zO _ _;have t:=World.ownsRow.alloc h (.cells #[.slice pa m pc,.bool fl,.int .i64 r,.int .i64 q,.string v] 77);have p:=QcA w (.slice pa m pc) (.bool fl) (.int .i64 r) (.int .i64 q) (.string v) 77;obtain⟨z,b⟩:∃z,w.alloc (.cells #[.slice pa m pc,.bool fl,.int .i64 r,.int .i64 q,.string v] 77)=z:=⟨_,rfl⟩;rw [b] at t p o ⊢;have L:z.heap.size=w.heap.size+1:=by rw [<- b];simp
 obtain⟨v',A,Q,i,E,H,I⟩:=run_append_own_at (P:=Tryz.prog) z B 24 24 77 Z _ 5 64 Tryz.underlying24 O U V Y rfl (by decide) (.slice (some ⟨g0,0,none⟩) 0 0) 0 [] t ⟨w.heap.size,0,none⟩ 1 1 [.slice pa m pc,.bool fl,.int .i64 r,.int .i64 q,.string v] rfl p (fun u hu=>by
  simp only [List.mem_cons,List.not_mem_nil,or_false] at hu;rcases hu with e|e|e|e|e<;>rw [e]<;>rfl) (by unfold maxLen;omega) (by omega) (by omega)
 rcases i.2 with ⟨s,J⟩|⟨g,cap,G,s,K,M,r1,r2,N,X⟩
 ·omega
 subst s;have y:∀j,j<5 ->A.cell? ⟨g,j,none⟩=([.slice pa m pc,.bool fl,.int .i64 r,.int .i64 q,.string v]:List Value)[j]? :=fun j hj=>World.ownsRow.cellAt i j (by omega);refine⟨g,cap,A,Q,?_,(Array.getElem?_eq_some_iff.1 M).1,y 0 (by omega),y 1 (by omega),y 2 (by omega),y 3 (by omega),y 4 (by omega)⟩;exact(o.mono hB).grown E (by omega) (fun k hk=>(World.ownsRow.lt t k hk).1)
theorem Ql0 (a:Option Addr)(c:Nat)(xa:Option Addr)(d:Nat)(pa:Option Addr)(pc:Nat)(S:Sx)(rep:Int)(p:List ByteArray)(fl on:Bool)(v:ByteArray)(w:World)(hm:S.Sm)(hT:I64 S.T)(h1:Qdy w a S.l)(h3:Qb5 w xa S.n S.R S.F S.T)(hp:p.length<=1048576)(hpc:p.length<=pc/\ pc<=9223372036854775807)(hseg:QaT w pa p)(hv:v.size<=1048576)(hfv:fl=true ->emB v=true):
  Calls Tryz.prog 89 #[.agg #[.slice a S.l.length c,.slice xa S.n d],.int .i64 rep,.slice pa p.length pc,.bool fl,.bool on,.string v] w fun e w'=>∃a m x t a' m' x' t',e=.returned (.tuple #[.agg #[.slice a (seX S rep p fl on v).l.length m,.slice x (seX S rep p fl on v).n t],.agg #[.slice a' (seY S rep p fl on v).l.length m',.slice x' (seY S rep p fl on v).n t'],.int .i64 (seC S rep p fl on v)])/\ SNc w' w.heap.size a m x (seX S rep p fl on v)/\ SNc w' w.heap.size a' m' x' (seY S rep p fl on v)/\ Below w.heap.size w w':=by
 obtain⟨W,hW⟩:∃W,((w.alloc (.cells #[.slice a S.l.length c,.slice xa S.n d] 29)).alloc (.cells #[.slice none 0 0,.slice none 0 0] 29)).alloc (.cells #[.slice none 0 0,.slice none 0 0] 29)=W:=⟨_,rfl⟩;have b0:Below w.heap.size w W:=by rw [<- hW];exact(Qak _ _ _).alloc (by simp;omega) _
 have zW:W.heap.size=w.heap.size+3:=by rw [<- hW];simp
 have A0:Bx2 W w.heap.size (.slice a S.l.length c) (.slice xa S.n d):=by rw [<- hW];exact((Bx2.made w _ _ _).allocs _).allocs _
 have R0:Bx2 W (w.heap.size+1) (.slice none 0 0) (.slice none 0 0):=by
  rw [<- hW];have:=Bx2.made (w.alloc (.cells #[.slice a S.l.length c,.slice xa S.n d] 29)) (.slice none 0 0) (.slice none 0 0) 29;exact(by simpa using this:Bx2 _ (w.heap.size+1) _ _).allocs _
 have Q0:Bx2 W (w.heap.size+1+1) (.slice none 0 0) (.slice none 0 0):=by
  rw [<- hW];simpa using Bx2.made ((w.alloc (.cells #[.slice a S.l.length c,.slice xa S.n d] 29)).alloc (.cells #[.slice none 0 0,.slice none 0 0] 29)) (.slice none 0 0) (.slice none 0 0) 29
 have Gr:=hid A0;have Gu:=hid R0;have Gt:=hid Q0;have G7:=hid b0;have Ke:=hid zW;have k0:=A0.c0;have k1:=A0.c1;have Gh:=hid (Qbv a c S.l xa S.n d S.R S.F S.T W hm.l1 hm.p1 hm.n1 (h1.below b0) (h3.below b0));change Hid (Calls _ _ _ _ fun e w'=>e=.returned (.bool (stB S))/\ _) at Gh;have H1:=hid h1;have H3:=hid h3;have Gi:=hid hseg;have Gc:=hid hpc;have G9:=hid hfv;have Ka:=hid hm.n1;obtain⟨B,hB⟩:∃B,stB S=B:=⟨_,rfl⟩;have Gd:=hid hB;rw [hB] at Gh;clear b0 zW A0 R0 Q0 h1 h3 hseg hB hpc hfv;go_enter Tryz.func89,Tryz.ntmps89;go_wp2_with fail;try rw [hW]
 clear hW;refine Gh.mono ?_;rintro e w1 ⟨rfl,b1⟩;have j:=hid (Qac G7.out b1);have b:=hid (Gu.below b1 Gu.lt);have s:=hid (Gt.below b1 Gt.lt);have H5:=hid (Gr.below b1 Gr.lt);have Gw:Hid (w.heap.size+3<=w1.heap.size):=hid (by have:=Ke.out;have:=b1.size;omega);clear b1 k0 k1 Gh;cases B with
 | false=>
  have V:Hid (seX S rep p fl on v=Sx.mt/\ seY S rep p fl on v=Sx.mt/\ seC S rep p fl on v=1):=hid (by
   have e:=QmJ (p:=p) (v:=v) Gd.out;have:=Qos (S:=S) (rep:=rep) (p:=p) (fl:=fl) (on:=on) (v:=v) (by rw [e];decide);rw [e] at this;exact this)
  obtain⟨r0,r1,rf,q0,q1,qf,Hd⟩:=Qiq b.out s.out (.slice none 0 0) (.slice none 0 0) (.slice none 0 0) (.slice none 0 0);go_wp2_with fail;obtain⟨M,O⟩:=Hd.out;refine zF (v:=.tuple #[.agg #[.slice none 0 0,.slice none 0 0],.agg #[.slice none 0 0,.slice none 0 0],.int .i64 1]) (by simp [results,Tryz.results89,go_sem,M.c0,M.c1,O.c0,O.c1]) ?_;rw [V.1,V.2.1,V.2.2];first
   | exact⟨none,0,none,0,none,0,none,0,rfl,SNc.mt _ _ _ _,SNc.mt _ _ _ _,Qa9 j.out _ _ _ _⟩
   | exact⟨none,0,none,0,none,0,none,⟨0,rfl⟩,SNc.mt _ _ _ _,SNc.mt _ _ _ _,Qa9 j.out _ _ _ _⟩
 | true=>
  have Gl:=hid (Qfp p pa pc w1 hp (Gi.below j.out));obtain⟨Z,hZ⟩:∃Z,yes (QaS p)=Z:=⟨_,rfl⟩;rw [hZ] at Gl;have Gx:=hid hZ;clear hZ;go_wp2_with fail;refine Gl.mono ?_;rintro e w2 ⟨rfl,rfl⟩;clear Gl;cases Z with
  | false=>
   have V:Hid (seX S rep p fl on v=Sx.mt/\ seY S rep p fl on v=Sx.mt/\ seC S rep p fl on v=2):=hid (by
    have e:=Qk8 (p:=p) (v:=v) Gd.out (fun h=>by have:=Gx.out;rw [Qal h.1] at this;cases this);have:=Qos (S:=S) (rep:=rep) (p:=p) (fl:=fl) (on:=on) (v:=v) (by rw [e];decide);rw [e] at this;exact this)
   obtain⟨r0,r1,rf,q0,q1,qf,Hd⟩:=Qiq b.out s.out (.slice none 0 0) (.slice none 0 0) (.slice none 0 0) (.slice none 0 0);go_wp2_with fail;obtain⟨M,O⟩:=Hd.out;refine zF (v:=.tuple #[.agg #[.slice none 0 0,.slice none 0 0],.agg #[.slice none 0 0,.slice none 0 0],.int .i64 2]) (by simp [results,Tryz.results89,go_sem,M.c0,M.c1,O.c0,O.c1]) ?_;rw [V.1,V.2.1,V.2.2];first
    | exact⟨none,0,none,0,none,0,none,0,rfl,SNc.mt _ _ _ _,SNc.mt _ _ _ _,Qa9 j.out _ _ _ _⟩
    | exact⟨none,0,none,0,none,0,none,⟨0,rfl⟩,SNc.mt _ _ _ _,SNc.mt _ _ _ _,Qa9 j.out _ _ _ _⟩
  | true=>
   by_cases Gg:v.size<=200
   ·have i0:¬(v.size:Int)>200:=by omega
    have Gp:=Qb9.1 Gx.out;have hs:=Qim Gd.out;have Gm:=hid hs;have Kb:=hid Gp;have Kd:=hid Gg;have Gs:=hid (QnQ (p:=p) (v:=v) Gd.out ⟨Gp,Gg⟩);have Gk:=hid (QkM xa S.n d S.R S.F S.T rep w2 Ka.out (H3.below j.out) hT);rw [Qk7 hs] at Gk;have l1:=H5.c1;have Kg:S.l.length<=1000:=hs.2.1;clear Gp hs Gg;go_wp2_with fail;refine Gk.mono ?_;rintro e w3 ⟨hy,G1,b3⟩;clear Gk l1;obtain⟨K,dq,ok,he,G2,Gz⟩:∃K dq ok,e=.returned (.tuple #[.agg #[.int .i64 K,.int .i64 dq],.bool ok])/\ ok=yes (QnO S rep)/\ (ok=true ->K=rep/\ dq=Qbj S.R S.T rep S.n+1):=by
     cases hk:yes (QnO S rep) with
     | true=>exact⟨rep,Qbj S.R S.T rep S.n+1,true,hy hk,rfl,fun _=>⟨rfl,rfl⟩⟩
     | false=>exact⟨0,0,false,G1 hk,rfl,fun h=>by cases h⟩
    clear hy G1;subst he;have H9:=hid G2;have G8:=hid Gz;clear G2 Gz;obtain⟨q,Hp⟩:∃q,w3.alloc (.cells #[.int .i64 K,.int .i64 dq] 75)=q:=⟨_,rfl⟩;have b4:Below w3.heap.size w3 q:=by rw [<- Hp];exact zO _ _
    have Hw:Hid (Bx2 q w3.heap.size (.int .i64 K) (.int .i64 dq)):=hid (by rw [<- Hp];exact Bx2.made _ _ _ _);have G:=hid (Qac b3 b4);clear b3 b4;by_cases P:QlA S rep on
    ·have Kf:=hid P;have G3:0<=rep:=P.1.1;have G4:rep<8:=P.1.2;have G5:¬rep<0:=by omega
     have G6:¬8<=rep:=by omega
     have Gy:=hid (Qpl (S:=S) (rep:=rep) (p:=p) (fl:=fl) (on:=on) (v:=v) Gs.out P);cases on with
     | true=>
      obtain rfl:ok=true:=by rw [H9.out];exact Qal ⟨P.1,P.2 rfl⟩
      obtain⟨e1,e2⟩:=G8 rfl;subst e1;have Gv:Hid (nxY S K p fl v=⟨p,fl,K,dq,v⟩):=hid (by unfold nxY;rw [<- e2]);have Gn:Hid (seD S K p fl true v=dlS (gnS p fl) S.l [⟨p,fl,K,dq,v⟩]):=hid (by unfold seD seP;rw [if_pos rfl,Gv.out]);have Kc:Hid (PtO S [⟨p,fl,K,dq,v⟩]):=hid (by rw [<- Gv.out];exact Ql3 Gm.out Kb.out Kd.out G9.out ⟨P.1,P.2 rfl⟩);clear P e2;have N:=hid (H5.below G.out H5.lt);have Gj:=hid (Qac j.out G.out);obtain⟨Q,D⟩:∃Q,q.alloc (.cells #[] 4)=Q:=⟨_,rfl⟩;have b5:Below q.heap.size q Q:=by rw [<- D];exact zO _ _
      have H8:Hid (BR Q q.heap.size (.slice (some ⟨q.heap.size,0,none⟩) 0 0) (gnB (gnS p fl) S.l 0)):=hid (by rw [<- D];exact BR.new _);have H6:=hid b5;clear b5;go_wp2_with fail;try rw [Hp]
      try rw [D]
      clear D Hp;go_loopw [17,18] (fun o i wr=>∃k:Nat,k<=S.l.length/\ i=.int .i64 k/\ Hid (Below q.heap.size q wr)/\ Hid (BR wr q.heap.size o (gnB (gnS p fl) S.l k))) (fun _ i _=>S.l.length - (intOf i).toNat);case atStart=>exact⟨0,Nat.zero_le _,rfl,H6,H8⟩
      case round=>
       clear H6 H8;obtain⟨k,hk,rfl,H,HO⟩:=hrel;have Hj:=hid (Qac Gj.out H.out);have A1:=N.below H.out N.lt;have k0:=A1.c0;have k1:=A1.c1;by_cases Hg:k<S.l.length
       ·have i1:(0:Int)<=(k:Int):=Int.natCast_nonneg _;have i2:(k:Int)<(S.l.length:Int):=by omega
        obtain⟨ab,ao,rfl,H0,Ge⟩:=(H1.out).resolve_left (by omega);obtain⟨qa,qc,⟨z,Hf⟩,sg,A,c2,c3,c4⟩:=Ge k Hg;have x0:=(Hj.cell (p:=⟨ab,ao+k*5,none⟩) H0).trans z;have x1:=(Hj.cell (p:=⟨ab,ao+k*5+1,none⟩) H0).trans A;have HC:=hid (QcV (gL S.l k).p p qa pa qc pc wr Hf.1 Gc.1 Hf.2 Gc.2 (sg.below Hj.out) (Gi.below Hj.out));have Hi:Hid (QaC (gL S.l k).p p=0↔(gL S.l k).p=p):=hid QdD;have Ha:Hid (gnB (gnS p fl) S.l (k+1)=gnB (gnS p fl) S.l k++[yes ((gL S.l k).p=p/\ (gL S.l k).fl=fl)]):=hid (Qfd Hg);obtain⟨y,hy⟩:∃y,gL S.l k=y:=⟨_,rfl⟩;rw [hy] at x0 x1 HC Hi Ha;obtain⟨lp,yf,yr,yq,yv⟩:=y;dsimp only at x0 x1 HC Hi Ha;obtain⟨C,hC⟩:∃C,QaC lp p=C:=⟨_,rfl⟩;rw [hC] at Hi HC;clear hC hy Ge sg z A c2 c3 c4 Hf H0 A1;go_wp2_with fail;refine HC.mono ?_;rintro e w6 ⟨rfl,dn,Hm⟩;have H7:Hid (Below q.heap.size q w6):=hid (by rw [Hm];exact Qaz H.out dn);have o6:BR w6 q.heap.size u17 (gnB (gnS p fl) S.l k):=by rw [Hm];exact HO.below (Qaz zI dn)
        have y1:w6.cell? ⟨ab,ao+k*5+1,none⟩=some (.bool yf):=by rw [Hm];simpa using x1
        have m0:w6.cell? ⟨w.heap.size,0,none⟩=some (.slice (some ⟨ab,ao,none⟩) S.l.length c):=by rw [Hm];simpa using k0
        have U:Hid (∀bb,yes (lp=p/\ yf=fl)=bb ->∃L E,(Builtin.append_ #[177,177] 177 #[u17,.slice (some ⟨w6.heap.size,0,none⟩) 1 1]).run Tryz.prog (w6.alloc (.cells #[.bool bb] 4))=.ok L E/\ BR E q.heap.size L (gnB (gnS p fl) S.l (k+1))/\ Below q.heap.size q E):=hid (fun bb hbb=>by
         obtain⟨L,E,h1,h2,h3⟩:=Qgp q.heap.size w6 u17 (gnB (gnS p fl) S.l k) bb o6 H7.size (by have:=QiQ (gnS p fl) S.l k;omega);exact⟨L,E,h1,by rw [Ha.out,hbb];exact h2,H7.trans h3⟩)
        clear HC Hm o6 x0 x1 k0 k1 HO Ha;by_cases hz:C=0
        ·have d0:(C==0)=true:=by simpa using hz
         cases yf<;>cases fl
         ·obtain⟨L,E,u,g,r⟩:=U true (Qal ⟨Hi.1 hz,rfl⟩);have I:=hid r;have J:=hid g;clear U g r;go_wp2_with (at_builtin;refine Qaa rfl _ _ _ _ rfl u (by rfl) (by rfl) rfl ?_;clear u);go_roundw;case rel=>exact⟨k+1,Hg,by go_num,I,J⟩
          case measure=>simp [intOf];omega
         ·obtain⟨L,E,u,g,r⟩:=U false (Qaj (fun h=>by cases h.2));have I:=hid r;have J:=hid g;clear U g r;go_wp2_with (at_builtin;refine Qaa rfl _ _ _ _ rfl u (by rfl) (by rfl) rfl ?_;clear u);go_roundw;case rel=>exact⟨k+1,Hg,by go_num,I,J⟩
          case measure=>simp [intOf];omega
         ·obtain⟨L,E,u,g,r⟩:=U false (Qaj (fun h=>by cases h.2));have I:=hid r;have J:=hid g;clear U g r;go_wp2_with (at_builtin;refine Qaa rfl _ _ _ _ rfl u (by rfl) (by rfl) rfl ?_;clear u);go_roundw;case rel=>exact⟨k+1,Hg,by go_num,I,J⟩
          case measure=>simp [intOf];omega
         ·obtain⟨L,E,u,g,r⟩:=U true (Qal ⟨Hi.1 hz,rfl⟩);have I:=hid r;have J:=hid g;clear U g r;go_wp2_with (at_builtin;refine Qaa rfl _ _ _ _ rfl u (by rfl) (by rfl) rfl ?_;clear u);go_roundw;case rel=>exact⟨k+1,Hg,by go_num,I,J⟩
          case measure=>simp [intOf];omega
        ·have d0:(C==0)=false:=by simpa using hz
         obtain⟨L,E,u,g,r⟩:=U false (Qaj (fun h=>hz (Hi.2 h.1)));have I:=hid r;have J:=hid g;clear U g r;go_wp2_with (at_builtin;refine Qaa rfl _ _ _ _ rfl u (by rfl) (by rfl) rfl ?_;clear u);go_roundw;case rel=>exact⟨k+1,Hg,by go_num,I,J⟩
         case measure=>simp [intOf];omega
       ·obtain rfl:k=S.l.length:=by omega
        obtain⟨gg,gc,Gq,H4,H2⟩:=HO.cells;subst Gq;rw [QcX];rw [QcX] at H2;obtain⟨Q,D⟩:∃Q,wr.alloc (.cells #[] 77)=Q:=⟨_,rfl⟩;have b5:Below wr.heap.size wr Q:=by rw [<- D];exact zO _ _
        have Ho:Q.ownsRow wr.heap.size 77 5 (.slice (some ⟨wr.heap.size,0,none⟩) 0 0) 0 []:=by
         rw [<- D];exact World.ownsRow_lit (base:=wr.heap.size) (e:=77) (size:=5) wr #[] 0 zL (by unfold maxLen;omega) rfl
        obtain⟨g7,c7,E,u,r,G0,q0,q1,q2,q3,q4⟩:=Qk3 wr.heap.size Q wr.heap.size pa p.length pc fl K dq v Ho b5.size;have bW:Below wr.heap.size wr E:=b5.trans r;have Gf:Qdy E (some ⟨g7,0,none⟩) [(⟨p,fl,K,dq,v⟩:Lf)]:=by
         refine .inr ⟨g7,0,rfl,G0,fun i hi=> ?_⟩;obtain rfl:i=0:=by simpa using hi
         exact⟨pa,pc,⟨q0,Gc.out⟩,(Gi.below Hj.out).below bW,q1,q2,q3,q4⟩
        have D5:=(Hw.below H.out Hw.lt).below b5 (Hw.below H.out Hw.lt).lt;have t0:=D5.c0;have t1:=D5.c1;have A7:=(N.below H.out N.lt).below bW (N.below H.out N.lt).lt;have t2:=A7.c0;have t3:=A7.c1;have Hx:=Qac H.out bW;have Hy:=Qac Hj.out bW;have Hv:=hid (QdU (gnS p fl) [⟨p,fl,K,dq,v⟩] a c xa d gg gc (some ⟨g7,0,none⟩) c7 S E Gm.out Kc.out (H1.below Hy) (H3.below Hy) (Nat.lt_of_lt_of_le H4 bW.size) (fun i hi=>by
         rw [<- QiP hi];exact(bW.cell (p:=⟨gg,i,none⟩) H4).trans (H2 i hi)) Gf)
        obtain⟨X,hX⟩:∃X,chX S (dlS (gnS p fl) S.l [⟨p,fl,K,dq,v⟩])=X:=⟨_,rfl⟩;obtain⟨Y,hY⟩:∃Y,chY S (dlS (gnS p fl) S.l [⟨p,fl,K,dq,v⟩])=Y:=⟨_,rfl⟩;obtain⟨Cc,Hz⟩:∃Cc,chC S (dlS (gnS p fl) S.l [⟨p,fl,K,dq,v⟩])=Cc:=⟨_,rfl⟩;rw [hX,hY,Hz] at Hv;have He:Hid (seX S K p fl true v=X/\ seY S K p fl true v=Y/\ seC S K p fl true v=Cc):=hid (by
         obtain⟨z1,z2,z3⟩:=Gy.out;rw [Gn.out] at z1 z2 z3;exact⟨z1.trans hX,z2.trans hY,z3.trans Hz⟩)
        have Hu:=hid Hx;have Go:Hid (w.heap.size+3<=E.heap.size):=hid (by have h1:=Gw.out;have h2:=Hx.size;have h3:=G.size;omega);clear hX hY Hz H4 H2 Hx Hy HO A1 A7 bW Ho k0 k1;have k0:=(N.below H.out N.lt).c0;clear b5 D5 Gf q0 q1 q2 q3 q4 G0 r H;go_wp2_with (at_builtin;refine Qaa rfl _ _ _ _ rfl u (by rfl) (by rfl) rfl ?_;clear u);refine Hv.mono ?_;rintro e w4 ⟨ra,rc,rx,rd,Hq,Hr,Ht,Hs,rfl,ox,oy,b4⟩;have Hn:=Qac G.out (Qac Hu.out b4);have Hk:=hid (b.below Hn b.lt);have Hl:=hid (s.below Hn s.lt);have Hh:=hid (Qac j.out Hn);have Ga:=hid ox;have Gb:=hid oy;clear b4 Hn ox oy Hv t2 t3 k0 b s j;try clear t0 t1
        have b:=Hk;have s:=Hl;have j:=Hh;clear Hk Hl Hh;obtain⟨r0,r1,rf,q0,q1,qf,Hd⟩:=Qiq b.out s.out (.slice ra X.l.length rc) (.slice rx X.n rd) (.slice Hq Y.l.length Hr) (.slice Ht Y.n Hs);go_wp2_with fail;obtain⟨M,O⟩:=Hd.out;refine zF (v:=.tuple #[.agg #[.slice ra X.l.length rc,.slice rx X.n rd],.agg #[.slice Hq Y.l.length Hr,.slice Ht Y.n Hs],.int .i64 Cc]) (by simp [results,Tryz.results89,go_sem,M.c0,M.c1,O.c0,O.c1]) ?_;have hz:=Go.out;rw [He.1,He.2.1,He.2.2];first
         | exact⟨ra,rc,rx,rd,Hq,Hr,Ht,Hs,rfl,QeF Ga.out (by omega) _ _ _ _,QeF Gb.out (by omega) _ _ _ _,Qa9 j.out _ _ _ _⟩
         | exact⟨ra,rc,rx,rd,Hq,Hr,Ht,⟨Hs,rfl⟩,QeF Ga.out (by omega) _ _ _ _,QeF Gb.out (by omega) _ _ _ _,Qa9 j.out _ _ _ _⟩
     | false=>
      have Gn:Hid (seD S rep p fl false v=dlS (gnS p fl) S.l []):=hid rfl;clear P;have N:=hid (H5.below G.out H5.lt);have Gj:=hid (Qac j.out G.out);obtain⟨Q,D⟩:∃Q,q.alloc (.cells #[] 4)=Q:=⟨_,rfl⟩;have b5:Below q.heap.size q Q:=by rw [<- D];exact zO _ _
      have H8:Hid (BR Q q.heap.size (.slice (some ⟨q.heap.size,0,none⟩) 0 0) (gnB (gnS p fl) S.l 0)):=hid (by rw [<- D];exact BR.new _);have H6:=hid b5;clear b5;go_wp2_with fail;try rw [Hp]
      try rw [D]
      clear D Hp;go_loopw [17,18] (fun o i wr=>∃k:Nat,k<=S.l.length/\ i=.int .i64 k/\ Hid (Below q.heap.size q wr)/\ Hid (BR wr q.heap.size o (gnB (gnS p fl) S.l k))) (fun _ i _=>S.l.length - (intOf i).toNat);case atStart=>exact⟨0,Nat.zero_le _,rfl,H6,H8⟩
      case round=>
       clear H6 H8;obtain⟨k,hk,rfl,H,HO⟩:=hrel;have Hj:=hid (Qac Gj.out H.out);have A1:=N.below H.out N.lt;have k0:=A1.c0;have k1:=A1.c1;by_cases Hg:k<S.l.length
       ·have i1:(0:Int)<=(k:Int):=Int.natCast_nonneg _;have i2:(k:Int)<(S.l.length:Int):=by omega
        obtain⟨ab,ao,rfl,H0,Ge⟩:=(H1.out).resolve_left (by omega);obtain⟨qa,qc,⟨z,Hf⟩,sg,A,c2,c3,c4⟩:=Ge k Hg;have x0:=(Hj.cell (p:=⟨ab,ao+k*5,none⟩) H0).trans z;have x1:=(Hj.cell (p:=⟨ab,ao+k*5+1,none⟩) H0).trans A;have HC:=hid (QcV (gL S.l k).p p qa pa qc pc wr Hf.1 Gc.1 Hf.2 Gc.2 (sg.below Hj.out) (Gi.below Hj.out));have Hi:Hid (QaC (gL S.l k).p p=0↔(gL S.l k).p=p):=hid QdD;have Ha:Hid (gnB (gnS p fl) S.l (k+1)=gnB (gnS p fl) S.l k++[yes ((gL S.l k).p=p/\ (gL S.l k).fl=fl)]):=hid (Qfd Hg);obtain⟨y,hy⟩:∃y,gL S.l k=y:=⟨_,rfl⟩;rw [hy] at x0 x1 HC Hi Ha;obtain⟨lp,yf,yr,yq,yv⟩:=y;dsimp only at x0 x1 HC Hi Ha;obtain⟨C,hC⟩:∃C,QaC lp p=C:=⟨_,rfl⟩;rw [hC] at Hi HC;clear hC hy Ge sg z A c2 c3 c4 Hf H0 A1;go_wp2_with fail;refine HC.mono ?_;rintro e w6 ⟨rfl,dn,Hm⟩;have H7:Hid (Below q.heap.size q w6):=hid (by rw [Hm];exact Qaz H.out dn);have o6:BR w6 q.heap.size u17 (gnB (gnS p fl) S.l k):=by rw [Hm];exact HO.below (Qaz zI dn)
        have y1:w6.cell? ⟨ab,ao+k*5+1,none⟩=some (.bool yf):=by rw [Hm];simpa using x1
        have m0:w6.cell? ⟨w.heap.size,0,none⟩=some (.slice (some ⟨ab,ao,none⟩) S.l.length c):=by rw [Hm];simpa using k0
        have U:Hid (∀bb,yes (lp=p/\ yf=fl)=bb ->∃L E,(Builtin.append_ #[177,177] 177 #[u17,.slice (some ⟨w6.heap.size,0,none⟩) 1 1]).run Tryz.prog (w6.alloc (.cells #[.bool bb] 4))=.ok L E/\ BR E q.heap.size L (gnB (gnS p fl) S.l (k+1))/\ Below q.heap.size q E):=hid (fun bb hbb=>by
         obtain⟨L,E,h1,h2,h3⟩:=Qgp q.heap.size w6 u17 (gnB (gnS p fl) S.l k) bb o6 H7.size (by have:=QiQ (gnS p fl) S.l k;omega);exact⟨L,E,h1,by rw [Ha.out,hbb];exact h2,H7.trans h3⟩)
        clear HC Hm o6 x0 x1 k0 k1 HO Ha;by_cases hz:C=0
        ·have d0:(C==0)=true:=by simpa using hz
         cases yf<;>cases fl
         ·obtain⟨L,E,u,g,r⟩:=U true (Qal ⟨Hi.1 hz,rfl⟩);have I:=hid r;have J:=hid g;clear U g r;go_wp2_with (at_builtin;refine Qaa rfl _ _ _ _ rfl u (by rfl) (by rfl) rfl ?_;clear u);go_roundw;case rel=>exact⟨k+1,Hg,by go_num,I,J⟩
          case measure=>simp [intOf];omega
         ·obtain⟨L,E,u,g,r⟩:=U false (Qaj (fun h=>by cases h.2));have I:=hid r;have J:=hid g;clear U g r;go_wp2_with (at_builtin;refine Qaa rfl _ _ _ _ rfl u (by rfl) (by rfl) rfl ?_;clear u);go_roundw;case rel=>exact⟨k+1,Hg,by go_num,I,J⟩
          case measure=>simp [intOf];omega
         ·obtain⟨L,E,u,g,r⟩:=U false (Qaj (fun h=>by cases h.2));have I:=hid r;have J:=hid g;clear U g r;go_wp2_with (at_builtin;refine Qaa rfl _ _ _ _ rfl u (by rfl) (by rfl) rfl ?_;clear u);go_roundw;case rel=>exact⟨k+1,Hg,by go_num,I,J⟩
          case measure=>simp [intOf];omega
         ·obtain⟨L,E,u,g,r⟩:=U true (Qal ⟨Hi.1 hz,rfl⟩);have I:=hid r;have J:=hid g;clear U g r;go_wp2_with (at_builtin;refine Qaa rfl _ _ _ _ rfl u (by rfl) (by rfl) rfl ?_;clear u);go_roundw;case rel=>exact⟨k+1,Hg,by go_num,I,J⟩
          case measure=>simp [intOf];omega
        ·have d0:(C==0)=false:=by simpa using hz
         obtain⟨L,E,u,g,r⟩:=U false (Qaj (fun h=>hz (Hi.2 h.1)));have I:=hid r;have J:=hid g;clear U g r;go_wp2_with (at_builtin;refine Qaa rfl _ _ _ _ rfl u (by rfl) (by rfl) rfl ?_;clear u);go_roundw;case rel=>exact⟨k+1,Hg,by go_num,I,J⟩
         case measure=>simp [intOf];omega
       ·obtain rfl:k=S.l.length:=by omega
        obtain⟨gg,gc,Gq,H4,H2⟩:=HO.cells;subst Gq;rw [QcX];rw [QcX] at H2;obtain⟨Q,D⟩:∃Q,wr.alloc (.cells #[] 77)=Q:=⟨_,rfl⟩;have b5:Below wr.heap.size wr Q:=by rw [<- D];exact zO _ _
        have Ho:Q.ownsRow wr.heap.size 77 5 (.slice (some ⟨wr.heap.size,0,none⟩) 0 0) 0 []:=by
         rw [<- D];exact World.ownsRow_lit (base:=wr.heap.size) (e:=77) (size:=5) wr #[] 0 zL (by unfold maxLen;omega) rfl
        have bW:=b5;have A7:=(N.below H.out N.lt).below bW (N.below H.out N.lt).lt;have t2:=A7.c0;have t3:=A7.c1;have Hx:=Qac H.out bW;have Hy:=Qac Hj.out bW;have Hv:=hid (QdU (gnS p fl) [] a c xa d gg gc (some ⟨wr.heap.size,0,none⟩) 0 S Q Gm.out (PtO.nil S) (H1.below Hy) (H3.below Hy) (Nat.lt_of_lt_of_le H4 bW.size) (fun i hi=>by
         rw [<- QiP hi];exact(bW.cell (p:=⟨gg,i,none⟩) H4).trans (H2 i hi)) (.inl rfl))
        obtain⟨X,hX⟩:∃X,chX S (dlS (gnS p fl) S.l [])=X:=⟨_,rfl⟩;obtain⟨Y,hY⟩:∃Y,chY S (dlS (gnS p fl) S.l [])=Y:=⟨_,rfl⟩;obtain⟨Cc,Hz⟩:∃Cc,chC S (dlS (gnS p fl) S.l [])=Cc:=⟨_,rfl⟩;rw [hX,hY,Hz] at Hv;have He:Hid (seX S rep p fl false v=X/\ seY S rep p fl false v=Y/\ seC S rep p fl false v=Cc):=hid (by
         obtain⟨z1,z2,z3⟩:=Gy.out;rw [Gn.out] at z1 z2 z3;exact⟨z1.trans hX,z2.trans hY,z3.trans Hz⟩)
        have Hu:=hid Hx;have Go:Hid (w.heap.size+3<=Q.heap.size):=hid (by have h1:=Gw.out;have h2:=Hx.size;have h3:=G.size;omega);clear hX hY Hz H4 H2 Hx Hy HO A1 A7 bW Ho k0 k1;have k0:=(N.below H.out N.lt).c0;clear b5 H;go_wp2_with fail;try rw [D]
        clear D;refine Hv.mono ?_;rintro e w4 ⟨ra,rc,rx,rd,Hq,Hr,Ht,Hs,rfl,ox,oy,b4⟩;have Hn:=Qac G.out (Qac Hu.out b4);have Hk:=hid (b.below Hn b.lt);have Hl:=hid (s.below Hn s.lt);have Hh:=hid (Qac j.out Hn);have Ga:=hid ox;have Gb:=hid oy;clear b4 Hn ox oy Hv t2 t3 k0 b s j;try clear t0 t1
        have b:=Hk;have s:=Hl;have j:=Hh;clear Hk Hl Hh;obtain⟨r0,r1,rf,q0,q1,qf,Hd⟩:=Qiq b.out s.out (.slice ra X.l.length rc) (.slice rx X.n rd) (.slice Hq Y.l.length Hr) (.slice Ht Y.n Hs);go_wp2_with fail;obtain⟨M,O⟩:=Hd.out;refine zF (v:=.tuple #[.agg #[.slice ra X.l.length rc,.slice rx X.n rd],.agg #[.slice Hq Y.l.length Hr,.slice Ht Y.n Hs],.int .i64 Cc]) (by simp [results,Tryz.results89,go_sem,M.c0,M.c1,O.c0,O.c1]) ?_;have hz:=Go.out;rw [He.1,He.2.1,He.2.2];first
         | exact⟨ra,rc,rx,rd,Hq,Hr,Ht,Hs,rfl,QeF Ga.out (by omega) _ _ _ _,QeF Gb.out (by omega) _ _ _ _,Qa9 j.out _ _ _ _⟩
         | exact⟨ra,rc,rx,rd,Hq,Hr,Ht,⟨Hs,rfl⟩,QeF Ga.out (by omega) _ _ _ _,QeF Gb.out (by omega) _ _ _ _,Qa9 j.out _ _ _ _⟩
    ·have V:=hid (Qpk (S:=S) (rep:=rep) (p:=p) (fl:=fl) (on:=on) (v:=v) Gs.out P);by_cases hr:0<=rep/\ rep<8
     ·have G3:0<=rep:=hr.1;have G4:rep<8:=hr.2;have G5:¬rep<0:=by omega
      have G6:¬8<=rep:=by omega
      cases on with
      | true=>
       obtain rfl:ok=false:=by rw [H9.out];exact Qaj (fun h=>P ⟨hr,fun _=>h.2⟩)
       clear P hr;have Hb:=hid (b.below G.out b.lt);have Hc:=hid (s.below G.out s.lt);have Hh:=hid (Qac j.out G.out);clear b s j G Hw;have b:=Hb;have s:=Hc;have j:=Hh;clear Hb Hc Hh;obtain⟨r0,r1,rf,q0,q1,qf,Hd⟩:=Qiq b.out s.out (.slice none 0 0) (.slice none 0 0) (.slice none 0 0) (.slice none 0 0);go_wp2_with fail;try rw [Hp]
       obtain⟨M,O⟩:=Hd.out;refine zF (v:=.tuple #[.agg #[.slice none 0 0,.slice none 0 0],.agg #[.slice none 0 0,.slice none 0 0],.int .i64 3]) (by simp [results,Tryz.results89,go_sem,M.c0,M.c1,O.c0,O.c1]) ?_;rw [V.1,V.2.1,V.2.2];first
        | exact⟨none,0,none,0,none,0,none,0,rfl,SNc.mt _ _ _ _,SNc.mt _ _ _ _,Qa9 j.out _ _ _ _⟩
        | exact⟨none,0,none,0,none,0,none,⟨0,rfl⟩,SNc.mt _ _ _ _,SNc.mt _ _ _ _,Qa9 j.out _ _ _ _⟩
      | false=>exact absurd ⟨hr,fun h=>by cases h⟩ P
     ·by_cases G5:rep<0
      ·clear P hr;have Hb:=hid (b.below G.out b.lt);have Hc:=hid (s.below G.out s.lt);have Hh:=hid (Qac j.out G.out);clear b s j G Hw;have b:=Hb;have s:=Hc;have j:=Hh;clear Hb Hc Hh;obtain⟨r0,r1,rf,q0,q1,qf,Hd⟩:=Qiq b.out s.out (.slice none 0 0) (.slice none 0 0) (.slice none 0 0) (.slice none 0 0);go_wp2_with fail;try rw [Hp]
       obtain⟨M,O⟩:=Hd.out;refine zF (v:=.tuple #[.agg #[.slice none 0 0,.slice none 0 0],.agg #[.slice none 0 0,.slice none 0 0],.int .i64 3]) (by simp [results,Tryz.results89,go_sem,M.c0,M.c1,O.c0,O.c1]) ?_;rw [V.1,V.2.1,V.2.2];first
        | exact⟨none,0,none,0,none,0,none,0,rfl,SNc.mt _ _ _ _,SNc.mt _ _ _ _,Qa9 j.out _ _ _ _⟩
        | exact⟨none,0,none,0,none,0,none,⟨0,rfl⟩,SNc.mt _ _ _ _,SNc.mt _ _ _ _,Qa9 j.out _ _ _ _⟩
      ·have G3:0<=rep:=by omega
       have G6:8<=rep:=by omega
       have G4:¬rep<8:=by omega
       clear P hr;have Hb:=hid (b.below G.out b.lt);have Hc:=hid (s.below G.out s.lt);have Hh:=hid (Qac j.out G.out);clear b s j G Hw;have b:=Hb;have s:=Hc;have j:=Hh;clear Hb Hc Hh;obtain⟨r0,r1,rf,q0,q1,qf,Hd⟩:=Qiq b.out s.out (.slice none 0 0) (.slice none 0 0) (.slice none 0 0) (.slice none 0 0);go_wp2_with fail;try rw [Hp]
       obtain⟨M,O⟩:=Hd.out;refine zF (v:=.tuple #[.agg #[.slice none 0 0,.slice none 0 0],.agg #[.slice none 0 0,.slice none 0 0],.int .i64 3]) (by simp [results,Tryz.results89,go_sem,M.c0,M.c1,O.c0,O.c1]) ?_;rw [V.1,V.2.1,V.2.2];first
        | exact⟨none,0,none,0,none,0,none,0,rfl,SNc.mt _ _ _ _,SNc.mt _ _ _ _,Qa9 j.out _ _ _ _⟩
        | exact⟨none,0,none,0,none,0,none,⟨0,rfl⟩,SNc.mt _ _ _ _,SNc.mt _ _ _ _,Qa9 j.out _ _ _ _⟩
   ·have i0:(v.size:Int)>200:=by omega
    have V:Hid (seX S rep p fl on v=Sx.mt/\ seY S rep p fl on v=Sx.mt/\ seC S rep p fl on v=2):=hid (by
     have e:=Qk8 (p:=p) (v:=v) Gd.out (fun h=>Gg h.2);have:=Qos (S:=S) (rep:=rep) (p:=p) (fl:=fl) (on:=on) (v:=v) (by rw [e];decide);rw [e] at this;exact this)
    clear Gg;obtain⟨r0,r1,rf,q0,q1,qf,Hd⟩:=Qiq b.out s.out (.slice none 0 0) (.slice none 0 0) (.slice none 0 0) (.slice none 0 0);go_wp2_with fail;obtain⟨M,O⟩:=Hd.out;refine zF (v:=.tuple #[.agg #[.slice none 0 0,.slice none 0 0],.agg #[.slice none 0 0,.slice none 0 0],.int .i64 2]) (by simp [results,Tryz.results89,go_sem,M.c0,M.c1,O.c0,O.c1]) ?_;rw [V.1,V.2.1,V.2.2];first
     | exact⟨none,0,none,0,none,0,none,0,rfl,SNc.mt _ _ _ _,SNc.mt _ _ _ _,Qa9 j.out _ _ _ _⟩
     | exact⟨none,0,none,0,none,0,none,⟨0,rfl⟩,SNc.mt _ _ _ _,SNc.mt _ _ _ _,Qa9 j.out _ _ _ _⟩
theorem Qgh (a:Option Addr)(c:Nat)(xa:Option Addr)(d:Nat)(pa:Option Addr)(pc:Nat)(S:Sx)(rep:Int)(p:List ByteArray)(v:ByteArray)(w:World)(hm:S.Sm)(hT:I64 S.T)(h1:Qdy w a S.l)(h3:Qb5 w xa S.n S.R S.F S.T)(hp:p.length<=1048576)(hpc:p.length<=pc/\ pc<=9223372036854775807)(hseg:QaT w pa p)(hv:v.size<=1048576):
  Calls Tryz.prog 54 #[.agg #[.slice a S.l.length c,.slice xa S.n d],.int .i64 rep,.slice pa p.length pc,.string v] w fun e w'=>∃a m x t a' m' x' t',e=.returned (.tuple #[.agg #[.slice a (seX S rep p false true v).l.length m,.slice x (seX S rep p false true v).n t],.agg #[.slice a' (seY S rep p false true v).l.length m',.slice x' (seY S rep p false true v).n t'],.int .i64 (seC S rep p false true v)])/\ SNc w' w.heap.size a m x (seX S rep p false true v)/\ SNc w' w.heap.size a' m' x' (seY S rep p false true v)/\ Below w.heap.size w w':=by
 obtain⟨W,j⟩:∃W,((w.alloc (.cells #[.slice a S.l.length c,.slice xa S.n d] 29)).alloc (.cells #[.slice none 0 0,.slice none 0 0] 29)).alloc (.cells #[.slice none 0 0,.slice none 0 0] 29)=W:=⟨_,rfl⟩;have k:Below w.heap.size w W:=by rw [<- j];exact(Qak _ _ _).alloc (by simp;omega) _
 have D:W.heap.size=w.heap.size+3:=by rw [<- j];simp
 have q:Bx2 W w.heap.size (.slice a S.l.length c) (.slice xa S.n d):=by rw [<- j];exact((Bx2.made w _ _ _).allocs _).allocs _
 have K:Bx2 W (w.heap.size+1) (.slice none 0 0) (.slice none 0 0):=by
  rw [<- j];have:=Bx2.made (w.alloc (.cells #[.slice a S.l.length c,.slice xa S.n d] 29)) (.slice none 0 0) (.slice none 0 0) 29;exact(by simpa using this:Bx2 _ (w.heap.size+1) _ _).allocs _
 have J:Bx2 W (w.heap.size+1+1) (.slice none 0 0) (.slice none 0 0):=by
  rw [<- j];simpa using Bx2.made ((w.alloc (.cells #[.slice a S.l.length c,.slice xa S.n d] 29)).alloc (.cells #[.slice none 0 0,.slice none 0 0] 29)) (.slice none 0 0) (.slice none 0 0) 29
 have He:=hid q;have I:=hid K;have H:=hid J;have P:=hid k;have Hf:=hid D;have k0:=q.c0;have k1:=q.c1;have E:=hid (Ql0 a c xa d pa pc S rep p false true v W hm hT (h1.below k) (h3.below k) hp hpc (hseg.below k) hv (fun h=>by cases h));obtain⟨X,Q⟩:∃X,seX S rep p false true v=X:=⟨_,rfl⟩;obtain⟨Y,U⟩:∃Y,seY S rep p false true v=Y:=⟨_,rfl⟩;obtain⟨A,O⟩:∃A,seC S rep p false true v=A:=⟨_,rfl⟩;rw [Q,U,O] at E;have M:=hid (And.intro Q (And.intro U O));have Hd:Hid (w.heap.size+3<=W.heap.size):=hid (by omega);clear k D q K J h1 h3 hseg hpc Q U O;go_enter Tryz.func54,Tryz.ntmps54;go_wp2_with fail;try rw [j]
 clear j;refine E.mono ?_;rintro e w4 ⟨u,z,b,o,y,g,s,i,rfl,B,C,r⟩;have Ha:=hid (I.below r I.lt);have Hb:=hid (H.below r H.lt);have V:=hid (Qac P.out r);have Z:=hid B;have G:=hid C;clear r B C E k0 k1;obtain⟨r0,r1,rf,q0,q1,qf,Hc⟩:=Qiq Ha.out Hb.out (.slice u X.l.length z) (.slice b X.n o) (.slice y Y.l.length g) (.slice s Y.n i);go_wp2_with fail;obtain⟨L,N⟩:=Hc.out;refine zF (v:=.tuple #[.agg #[.slice u X.l.length z,.slice b X.n o],.agg #[.slice y Y.l.length g,.slice s Y.n i],.int .i64 A]) (by simp [results,Tryz.results54,go_sem,L.c0,L.c1,N.c0,N.c1]) ?_;have hz:=Hd.out;rw [M.1,M.2.1,M.2.2];first
  | exact⟨u,z,b,o,y,g,s,i,rfl,QeF Z.out (by omega) _ _ _ _,QeF G.out (by omega) _ _ _ _,Qa9 V.out _ _ _ _⟩
  | exact⟨u,z,b,o,y,g,s,⟨i,rfl⟩,QeF Z.out (by omega) _ _ _ _,QeF G.out (by omega) _ _ _ _,Qa9 V.out _ _ _ _⟩
theorem QgV (a:Option Addr)(c:Nat)(xa:Option Addr)(d:Nat)(pa:Option Addr)(pc:Nat)(S:Sx)(rep:Int)(p:List ByteArray)(on:Bool)(w:World)(hm:S.Sm)(hT:I64 S.T)(h1:Qdy w a S.l)(h3:Qb5 w xa S.n S.R S.F S.T)(hp:p.length<=1048576)(hpc:p.length<=pc/\ pc<=9223372036854775807)(hseg:QaT w pa p):
  Calls Tryz.prog 56 #[.agg #[.slice a S.l.length c,.slice xa S.n d],.int .i64 rep,.slice pa p.length pc,.bool on] w fun e w'=>∃a m x t a' m' x' t',e=.returned (.tuple #[.agg #[.slice a (seX S rep p true on ⟨#[]⟩).l.length m,.slice x (seX S rep p true on ⟨#[]⟩).n t],.agg #[.slice a' (seY S rep p true on ⟨#[]⟩).l.length m',.slice x' (seY S rep p true on ⟨#[]⟩).n t'],.int .i64 (seC S rep p true on ⟨#[]⟩)])/\ SNc w' w.heap.size a m x (seX S rep p true on ⟨#[]⟩)/\ SNc w' w.heap.size a' m' x' (seY S rep p true on ⟨#[]⟩)/\ Below w.heap.size w w':=by
 obtain⟨W,j⟩:∃W,((w.alloc (.cells #[.slice a S.l.length c,.slice xa S.n d] 29)).alloc (.cells #[.slice none 0 0,.slice none 0 0] 29)).alloc (.cells #[.slice none 0 0,.slice none 0 0] 29)=W:=⟨_,rfl⟩;have k:Below w.heap.size w W:=by rw [<- j];exact(Qak _ _ _).alloc (by simp;omega) _
 have C:W.heap.size=w.heap.size+3:=by rw [<- j];simp
 have q:Bx2 W w.heap.size (.slice a S.l.length c) (.slice xa S.n d):=by rw [<- j];exact((Bx2.made w _ _ _).allocs _).allocs _
 have J:Bx2 W (w.heap.size+1) (.slice none 0 0) (.slice none 0 0):=by
  rw [<- j];have:=Bx2.made (w.alloc (.cells #[.slice a S.l.length c,.slice xa S.n d] 29)) (.slice none 0 0) (.slice none 0 0) 29;exact(by simpa using this:Bx2 _ (w.heap.size+1) _ _).allocs _
 have I:Bx2 W (w.heap.size+1+1) (.slice none 0 0) (.slice none 0 0):=by
  rw [<- j];simpa using Bx2.made ((w.alloc (.cells #[.slice a S.l.length c,.slice xa S.n d] 29)).alloc (.cells #[.slice none 0 0,.slice none 0 0] 29)) (.slice none 0 0) (.slice none 0 0) 29
 have Hd:=hid q;have H:=hid J;have G:=hid I;have D:=hid k;have He:=hid C;have k0:=q.c0;have k1:=q.c1;have A:=hid (Ql0 a c xa d pa pc S rep p true on ⟨#[]⟩ W hm hT (h1.below k) (h3.below k) hp hpc (hseg.below k) (by decide) (fun _=>by simp [emB]));obtain⟨X,O⟩:∃X,seX S rep p true on ⟨#[]⟩=X:=⟨_,rfl⟩;obtain⟨Y,Q⟩:∃Y,seY S rep p true on ⟨#[]⟩=Y:=⟨_,rfl⟩;obtain⟨s,M⟩:∃s,seC S rep p true on ⟨#[]⟩=s:=⟨_,rfl⟩;rw [O,Q,M] at A;have E:=hid (And.intro O (And.intro Q M));have Hc:Hid (w.heap.size+3<=W.heap.size):=hid (by omega);clear k C q J I h1 h3 hseg hpc O Q M;go_enter Tryz.func56,Tryz.ntmps56;go_wp2_with fail;try rw [j]
 clear j;refine A.mono ?_;rintro e w4 ⟨u,z,i,g,y,h,b,o,rfl,N,B,r⟩;have P:=hid (H.below r H.lt);have Ha:=hid (G.below r G.lt);have U:=hid (Qac D.out r);have V:=hid N;have Z:=hid B;clear r N B A k0 k1;obtain⟨r0,r1,rf,q0,q1,qf,Hb⟩:=Qiq P.out Ha.out (.slice u X.l.length z) (.slice i X.n g) (.slice y Y.l.length h) (.slice b Y.n o);go_wp2_with fail;obtain⟨K,L⟩:=Hb.out;refine zF (v:=.tuple #[.agg #[.slice u X.l.length z,.slice i X.n g],.agg #[.slice y Y.l.length h,.slice b Y.n o],.int .i64 s]) (by simp [results,Tryz.results56,go_sem,K.c0,K.c1,L.c0,L.c1]) ?_;have hz:=Hc.out;rw [E.1,E.2.1,E.2.2];first
  | exact⟨u,z,i,g,y,h,b,o,rfl,QeF V.out (by omega) _ _ _ _,QeF Z.out (by omega) _ _ _ _,Qa9 U.out _ _ _ _⟩
  | exact⟨u,z,i,g,y,h,b,⟨o,rfl⟩,QeF V.out (by omega) _ _ _ _,QeF Z.out (by omega) _ _ _ _,Qa9 U.out _ _ _ _⟩
structure Dr (S:Sx):Prop where
 vd:Vd S
 t:I64 S.T
theorem Qnx {u:List Rn}{i:Nat}(h:¬i<u.length):gR u i=(0,0,0):=by simp [gR,List.getD,h]
theorem QiL {u:List Rn}(h:QbV u):I64 fun i=>(gR u i).2.2:=fun i=>by
 by_cases j:i<u.length
 ·have e:gR u i=u[i]:=by simp [gR,List.getD,j]
  have:=h.2 _ (List.getElem_mem j);unfold Rok at this;simp only [e];omega
 ·simp only [Qnx j];omega
theorem Qhc {S:Sx}(h:Vd S):S.Sm:=⟨by have:=h.2.1;omega,fun i=>by
 by_cases j:i<S.l.length
 ·have:=(Qh5 h i j).2;omega
 ·rw [Qnw j];simp,by have:=(Qao.1 h.1).2;omega⟩
theorem Qpe {S:Sx}(h:Vd S):∀i,LfI (gL S.l i):=fun i=>by
 by_cases j:i<S.l.length
 ·obtain⟨k,m,_⟩:=Qpb h.w _ (Qa2.2 ⟨i,j,rfl⟩);exact⟨wfI (by omega) (by omega),wfI (by omega) (by omega)⟩
 ·have e:gL S.l i=⟨[],false,0,0,ByteArray.empty⟩:=by simp [gL,List.getD,j]
  rw [e];exact⟨by decide,by decide⟩
theorem Dr.mt:Dr Sx.mt:=⟨QoI,fun i=>by simp [Sx.mt]⟩
theorem Dr.jn {S S':Sx}(h:Dr S)(h':Dr S')(hf:jnF S S'=true):Dr (jnS S S'):=by
 refine⟨QnE h.vd h'.vd hf,?_⟩;have:=(Qor h.vd h'.vd).1;rw [QdQ,Qki] at this;rw [QdQ];exact QiL this
theorem Qnu {S:Sx}{g:Lf ->Prop}{P:List Lf}(h:Vd S)(hp:PtO S P)(hf:chC S (dlS g S.l P)=0):Dr (chX S (dlS g S.l P))/\ Dr (chY S (dlS g S.l P)):=by
 cases hc:chF S (dlS g S.l P) with
 | false=>rw [(Qo0 hc).2.2] at hf;cases hf
 | true=>
  rw [(Qo1 hc).1,(Qo1 hc).2.1];unfold chF at hc;simp only [Bool.and_eq_true,decide_eq_true_eq] at hc;obtain⟨q,r,m⟩:=hc;have k:=Qph (g:=g) h hp;have j:Dr (dlS g S.l P):=⟨⟨Qao.2 ⟨k.1.1,m⟩,k.2⟩,QiL (QfJ h hp).1⟩;refine⟨⟨QnE h j.vd q,?_⟩,j⟩;have:=(Qor h j.vd).1;rw [QdQ,Qki] at this;rw [QdQ];exact QiL this
theorem Qmi {S:Sx}{rep:Int}{p:List ByteArray}{fl on:Bool}{v:ByteArray}(h:Vd S)(hfv:fl=true ->emB v=true)(hc:seC S rep p fl on v=0):Dr (seX S rep p fl on v)/\ Dr (seY S rep p fl on v):=by
 by_cases j:ocC S p v=0
 ·obtain⟨_,u,y⟩:=QnR j;by_cases k:QlA S rep on
  ·obtain⟨m,q,r⟩:=Qpl (p:=p) (fl:=fl) (v:=v) j k;rw [m,q];rw [r] at hc;exact Qnu h (Qob h u y hfv k) hc
  ·rw [(Qpk j k).2.2] at hc;cases hc
 ·rw [(Qos j).2.2] at hc;exact absurd hc j
theorem Qo5 {S:Sx}{p:List ByteArray}(h:Vd S)(hc:rmC S p=0):Dr (rmX S p)/\ Dr (rmY S p):=by
 by_cases j:ocC S p ⟨#[]⟩=0
 ·obtain⟨k,m,q⟩:=Qpj j;rw [k,m];rw [q] at hc;exact Qnu h (PtO.nil S) hc
 ·rw [(QoV j).2.2] at hc;exact absurd hc j
def ChP (w:World)(X Y:Sx)(C:Int)(e:Ending)(w':World):Prop:=∃a m x t a' m' x' t',e=.returned (.tuple #[.agg #[.slice a X.l.length m,.slice x X.n t],.agg #[.slice a' Y.l.length m',.slice x' Y.n t'],.int .i64 C])/\ SNc w' w.heap.size a m x X/\ SNc w' w.heap.size a' m' x' Y/\ Below w.heap.size w w'
def AcP (f:Nat ->Int)(n x:Nat)(S:Sx)(rep:Nat)(S1 S2:Sx)(x':Nat):Prop:=(Dr S1/\ Dr S2)/\∀(B lo rb:Nat) (a xa:Option Addr) (c d:Nat) (w:World),B<=lo ->lo<=w.heap.size ->RdJ w B rb f n x ->SNc w lo a c xa S ->
  Calls Tryz.prog 26 #[.pointer (some ⟨rb,0,none⟩),.agg #[.slice a S.l.length c,.slice xa S.n d],.int .i64 (rep:Int)] w fun e w'=>∃a1 c1 x1 d1 a2 c2 x2 d2,e=.returned (.tuple #[.agg #[.slice a1 S1.l.length c1,.slice x1 S1.n d1],.agg #[.slice a2 S2.l.length c2,.slice x2 S2.n d2]])/\ SNc w' lo a1 c1 x1 S1/\ SNc w' lo a2 c2 x2 S2/\ RdJ w' B rb f n x'/\ w.grownBy w' (some rb)
theorem SNc.gr {w w1:World}{lo rb c:Nat}{a x:Option Addr}{S:Sx}(h:SNc w lo a c x S)(hg:w.grownBy w1 (some rb))(hr:rb<lo):SNc w1 lo a c x S:=h.move zL hg.size (fun q h1 h2=>hg.block q h2 (fun e=>by injection e with e;omega))
theorem QaK {w w1 w2:World}{rb B:Nat}(h1:w.grownBy w1 (some rb))(h2:Below B w1 w2)(hB:w.heap.size<=B):w.grownBy w2 (some rb):=
 ⟨h2.os.trans h1.os,h2.tape.trans h1.tape,h2.output.trans h1.output,Nat.le_trans h1.size h2.size,fun k hk hne=>(h2.block k (by omega)).trans (h1.block k hk hne)⟩
open Go.Deep
theorem SNc.drew {w:World}{lo c:Nat}{a x:Option Addr}{S:Sx}(h:SNc w lo a c x S):SNc w.drew lo a c x S:=h.move zL zL (fun _ _ _=>rfl)
structure AcS (w w4:World)(B rb:Nat)(f:Nat ->Int)(n x lo r b:Nat)(va vx vb vy:Value):Prop where
 s0:Bx2 w4 r va vx
 r1:Bx2 w4 (r+1) (.slice none 0 0) (.slice none 0 0)
 r2:Bx2 w4 (r+1+1) (.slice none 0 0) (.slice none 0 0)
 t1:Bx2 w4 b va vx
 t2:Bx2 w4 (b+1) (.slice none 0 0) (.slice none 0 0)
 rd:RdJ w4 B rb f n x
 gr:w.grownBy w4 (some rb)
 z1:w.heap.size=r
 z2:r+1+1<b
 z3:b+1<lo
 z4:lo<=w4.heap.size
 z5:B<=w.heap.size
theorem AcS.below {w w4 w5:World}{B rb n x lo r b:Nat}{f:Nat ->Int}{va vx vb vy:Value}(h:AcS w w4 B rb f n x lo r b va vx vb vy)(hb:Below lo w4 w5):AcS w w5 B rb f n x lo r b va vx vb vy:=by
 have j:=h.z1;have k:=h.z2;have m:=h.z3;have q:=h.z5;exact⟨h.s0.below hb (by omega),h.r1.below hb (by omega),h.r2.below hb (by omega),h.t1.below hb (by omega),h.t2.below hb (by omega),h.rd.below (hb.mono (by omega)),QaK h.gr hb (by omega),h.z1,h.z2,h.z3,Nat.le_trans h.z4 hb.size,h.z5⟩
theorem AcS.gro {w w4 w5:World}{B rb n x x' lo r b:Nat}{f:Nat ->Int}{va vx vb vy:Value}(h:AcS w w4 B rb f n x lo r b va vx vb vy)(hg:w4.grownBy w5 (some rb))(hr:RdJ w5 B rb f n x'):AcS w w5 B rb f n x' lo r b va vx vb vy:=by
 have m:=h.z1;have q:=h.z2;have u:=h.z5;have v:=h.rd.lt.2;have j:∀b,r<=b ->∀k,some rb=some k ->k≠b:=fun b v k e=>by injection e with e;omega
 exact⟨h.s0.gr hg (j _ zL),h.r1.gr hg (j _ (by omega)),h.r2.gr hg (j _ (by omega)),h.t1.gr hg (j _ (by omega)),h.t2.gr hg (j _ (by omega)),hr,QaR h.gr hg,h.z1,h.z2,h.z3,Nat.le_trans h.z4 hg.size,h.z5⟩
theorem PtN.gr {w w1:World}{lo rb:Nat}{pa:Option Addr}{pc:Nat}{p:List ByteArray}(h:PtN w lo pa pc p)(hg:w.grownBy w1 (some rb))(hr:rb<lo):PtN w1 lo pa pc p:=h.move zL hg.size (fun q h1 h2=>hg.block q h2 (fun e=>by injection e with e;omega))
theorem AcS.fill {w w4:World}{B rb n x lo r b:Nat}{f:Nat ->Int}{va vx vb vy:Value}(h:AcS w w4 B rb f n x lo r b va vx vb vy)(v0 v1 v2 v3:Value):
  (Bx2 ((w4.setCell ⟨b,0,none⟩ v0).setCell ⟨b,1,none⟩ v1) (b+1) (.slice none 0 0) (.slice none 0 0))/\∃w5,((((w4.setCell ⟨b,0,none⟩ v0).setCell ⟨b,1,none⟩ v1).setCell ⟨b+1,0,none⟩ v2).setCell ⟨b+1,1,none⟩ v3)=w5/\ Bx2 w5 r va vx/\ Bx2 w5 (r+1) (.slice none 0 0) (.slice none 0 0)/\ Bx2 w5 (r+1+1) (.slice none 0 0) (.slice none 0 0)/\ Bx2 w5 b v0 v1/\ Bx2 w5 (b+1) v2 v3/\ RdJ w5 B rb f n x/\ w.grownBy w5 (some rb):=by
 have m:=h.z1;have q:=h.z2;have u:=h.z5;have k:=Qna h.t1 h.t2 (show b≠b+1 by omega) v0 v1 v2 v3;have j:Below b w4 ((((w4.setCell ⟨b,0,none⟩ v0).setCell ⟨b,1,none⟩ v1).setCell ⟨b+1,0,none⟩ v2).setCell ⟨b+1,1,none⟩ v3):=Qhj zI zL (by omega) _ _ _ _;exact⟨k.1,_,rfl,h.s0.below j (by omega),h.r1.below j (by omega),h.r2.below j (by omega),k.2.1,k.2.2,h.rd.below (j.mono (by omega)),QaK h.gr j (by omega)⟩
theorem Qi2 {w w5:World}{B rb n x r:Nat}{f:Nat ->Int}(rd:RdJ w5 B rb f n x)(gr:w.grownBy w5 (some rb))(z1:w.heap.size=r)(z5:B<=w.heap.size)(v0 v1 v2 v3:Value):RdJ ((((w5.setCell ⟨r+1,0,none⟩ v0).setCell ⟨r+1,1,none⟩ v1).setCell ⟨r+1+1,0,none⟩ v2).setCell ⟨r+1+1,1,none⟩ v3) B rb f n x/\ w.grownBy ((((w5.setCell ⟨r+1,0,none⟩ v0).setCell ⟨r+1,1,none⟩ v1).setCell ⟨r+1+1,0,none⟩ v2).setCell ⟨r+1+1,1,none⟩ v3) (some rb):=by
 have j:Below w.heap.size w5 ((((w5.setCell ⟨r+1,0,none⟩ v0).setCell ⟨r+1,1,none⟩ v1).setCell ⟨r+1+1,0,none⟩ v2).setCell ⟨r+1+1,1,none⟩ v3):=Qhj zI (by omega) (by omega) _ _ _ _;exact⟨rd.below (j.mono z5),QaK gr j zL⟩
def AcE (w wx:World)(B rb:Nat)(f:Nat ->Int)(n x b:Nat)(va vx:Value)(X Y:Sx):Prop:=∃a5 c5 x5 d5 a6 c6 x6 d6,Bx2 wx w.heap.size va vx/\ Bx2 wx (w.heap.size+1) (.slice none 0 0) (.slice none 0 0)/\ Bx2 wx (w.heap.size+1+1) (.slice none 0 0) (.slice none 0 0)/\ Bx2 wx b (.slice a5 X.l.length c5) (.slice x5 X.n d5)/\ Bx2 wx (b+1) (.slice a6 Y.l.length c6) (.slice x6 Y.n d6)/\ RdJ wx B rb f n x/\ w.grownBy wx (some rb)/\ SNc wx (b+2) a5 c5 x5 X/\ SNc wx (b+2) a6 c6 x6 Y
theorem AcS.meet {w w4:World}{B rb n x b:Nat}{f:Nat ->Int}{va vx vb vy:Value}{a5 x5 a6 x6:Option Addr}{c5 c6:Nat}{X Y:Sx}(h:AcS w w4 B rb f n x (b+2) w.heap.size b va vx vb vy)(ox:SNc w4 (b+2) a5 c5 x5 X)(oy:SNc w4 (b+2) a6 c6 x6 Y)(d5 d6:Nat):
  AcE w ((((w4.setCell ⟨b,0,none⟩ (.slice a5 X.l.length c5)).setCell ⟨b,1,none⟩ (.slice x5 X.n d5)).setCell ⟨b+1,0,none⟩ (.slice a6 Y.l.length c6)).setCell ⟨b+1,1,none⟩ (.slice x6 Y.n d6)) B rb f n x b va vx X Y:=by
 obtain⟨_,z,j,k,m,q,r,u,v,y⟩:=h.fill (.slice a5 X.l.length c5) (.slice x5 X.n d5) (.slice a6 Y.l.length c6) (.slice x6 Y.n d6);rw [j];exact⟨a5,c5,x5,d5,a6,c6,x6,d6,k,m,q,r,u,v,y,by rw [<- j];exact Qj6 (r1:=b) (r2:=b+1) ox zL (by omega) (by omega) _ _ _ _,by rw [<- j];exact Qj6 (r1:=b) (r2:=b+1) oy zL (by omega) (by omega) _ _ _ _⟩
def ChF (fn:FuncId)(S:Sx)(p:List ByteArray)(X Y:Sx)(C:Int)(ar:Value ->Value ->Array Value):Prop:=∀(w:World) (a xa pa:Option Addr) (c d pc:Nat),(Qdy w a S.l/\ Qb5 w xa S.n S.R S.F S.T) ->(p.length<=pc/\ pc<=9223372036854775807) ->QaT w pa p ->Calls Tryz.prog fn (ar (.agg #[.slice a S.l.length c,.slice xa S.n d]) (.slice pa p.length pc)) w (ChP w X Y C)
theorem QlP {n x:Nat}{S:Sx}{rep:Nat}{p:List ByteArray}{v:ByteArray}(k:Nat)(hS:Dr S)(hpl:p.length<=9)(hvs:v.size<=201):∃X Y C x',(C=0 ->Dr X/\ Dr Y)/\
  ((k%8<4/\ x'=rx n (rx n (rx n x))/\ ChF 54 S p X Y C (fun s q=>#[s,.int .i64 (rep:Int),q,.string v])) \/
   ((k%8=4 \/k%8=5)/\ x'=rx n (rx n x)/\ ChF 56 S p X Y C (fun s q=>#[s,.int .i64 (rep:Int),q,.bool true])) \/
   (k%8=6/\ x'=rx n (rx n x)/\ ChF 56 S p X Y C (fun s q=>#[s,.int .i64 (rep:Int),q,.bool false])) \/
   (k%8=7/\ x'=rx n (rx n x)/\ ChF 57 S p X Y C (fun s q=>#[s,q]))):=by
 have fl:∀on,ChF 56 S p (seX S rep p true on ⟨#[]⟩) (seY S rep p true on ⟨#[]⟩) (seC S rep p true on ⟨#[]⟩) (fun s q=>#[s,.int .i64 (rep:Int),q,.bool on]):=fun on w a xa pa c d pc h hpc hseg=>
  QgV a c xa d pa pc S rep p on w (Qhc hS.vd) hS.t h.1 h.2 (by omega) hpc hseg
 by_cases j:k%8<4
 ·exact⟨_,_,_,_,Qmi hS.vd (fun h=>by cases h),.inl ⟨j,rfl,fun w a xa pa c d pc h hpc hseg=>Qgh a c xa d pa pc S rep p v w (Qhc hS.vd) hS.t h.1 h.2 (by omega) hpc hseg (by omega)⟩⟩
 ·by_cases m:k%8=4 \/k%8=5
  ·exact⟨_,_,_,_,Qmi hS.vd (fun _=>by simp [emB]),.inr (.inl ⟨m,rfl,fl true⟩)⟩
  ·by_cases r:k%8=6
   ·exact⟨_,_,_,_,Qmi hS.vd (fun _=>by simp [emB]),.inr (.inr (.inl ⟨r,rfl,fl false⟩))⟩
   ·exact⟨_,_,_,_,Qo5 hS.vd,.inr (.inr (.inr ⟨by omega,rfl,fun w a xa pa c d pc h hpc hseg=>Qil a c xa d pa pc S p w (Qhc hS.vd) h.1 h.2 (by omega) hpc hseg⟩))⟩
theorem Qpm (f:Nat ->Int)(n x:Nat)(S:Sx)(rep:Nat)(hS:Dr S)(hrep:rep<8):∃S1 S2 x',AcP f n x S rep S1 S2 x':=by
 obtain⟨k,hk⟩:∃k,rk f n x=k:=⟨_,rfl⟩;obtain⟨p,Go,hp⟩:=QoQ f n (rx n x);obtain⟨v,Gp,hv⟩:=Qon f n (rx n (rx n x));obtain⟨X,Y,C,x',Gg,Ht⟩:=QlP (n:=n) (x:=x) (rep:=rep) k hS Go Gp;have H5:=hid Gg;have Gd:=hid Ht;clear Gg Ht;obtain⟨S1,H3⟩:∃S1,(if C=0 then X else S)=S1:=⟨_,rfl⟩;obtain⟨S2,H4⟩:∃S2,(if C=0 then Y else Sx.mt)=S2:=⟨_,rfl⟩;have Hv:Hid (C=0 ->S1=X/\ S2=Y):=hid (fun e=>⟨by rw [<- H3,if_pos e],by rw [<- H4,if_pos e]⟩);have Hn:Hid (C≠0 ->S1=S/\ S2=Sx.mt):=hid (fun e=>⟨by rw [<- H3,if_neg e],by rw [<- H4,if_neg e]⟩);refine⟨S1,S2,x',?_,fun B lo rb a xa c d w hBl hlo h hs=> ?_⟩
 ·by_cases e:C=0
  ·rw [(Hv e).1,(Hv e).2];exact H5 e
  ·rw [(Hn e).1,(Hn e).2];exact⟨hS,Dr.mt⟩
 have hB:B<=w.heap.size:=Nat.le_trans hBl hlo;have Hk:Hid (lo<=w.heap.size/\ rb<lo):=hid ⟨hlo,Nat.lt_of_lt_of_le h.lt.2 hBl⟩;clear hBl hlo;have H8:=hid hp;have Hl:=hid hv;clear H3 H4 H5 hp hv;obtain⟨W,hW⟩:∃W,((w.alloc (.cells #[.slice a S.l.length c,.slice xa S.n d] 29)).alloc (.cells #[.slice none 0 0,.slice none 0 0] 29)).alloc (.cells #[.slice none 0 0,.slice none 0 0] 29)=W:=⟨_,rfl⟩;have b0:Below w.heap.size w W:=by rw [<- hW];exact(Qak _ _ _).alloc (by simp;omega) _
 have A0:Bx2 W w.heap.size (.slice a S.l.length c) (.slice xa S.n d):=by rw [<- hW];exact((Bx2.made w _ _ _).allocs _).allocs _
 have R0:Bx2 W (w.heap.size+1) (.slice none 0 0) (.slice none 0 0):=by
  rw [<- hW];have:=Bx2.made (w.alloc (.cells #[.slice a S.l.length c,.slice xa S.n d] 29)) (.slice none 0 0) (.slice none 0 0) 29;exact(by simpa using this:Bx2 _ (w.heap.size+1) _ _).allocs _
 have Q0:Bx2 W (w.heap.size+1+1) (.slice none 0 0) (.slice none 0 0):=by
  rw [<- hW];simpa using Bx2.made ((w.alloc (.cells #[.slice a S.l.length c,.slice xa S.n d] 29)).alloc (.cells #[.slice none 0 0,.slice none 0 0] 29)) (.slice none 0 0) (.slice none 0 0) 29
 have zW:W.heap.size=w.heap.size+3:=by rw [<- hW];simp
 have Gh:=h.lt;have HN:=hid (QaW B rb f n x W (h.below (b0.mono hB)));rw [hk] at HN;have Gi:=hid A0;have Gl:=hid R0;have Gk:=hid Q0;have Ha:=hid b0;have Gm:=hid zW;have H2:=hid hs;have H1:=hid Gh;have Hd:=hid hB;clear hk h hs Gh b0 A0 R0 Q0 zW hrep;go_enter Tryz.func26,Tryz.ntmps26;go_wp2_with fail;try rw [hW]
 clear hW;refine HN.mono ?_;rintro e w1 ⟨rfl,r1,g1⟩;have H9:=hid (H8 B rb w1 (by have:=Hd.out;have:=Ha.size;have:=g1.size;omega) r1);have Hy:=hid g1;clear r1 g1 HN H8;go_wp2_with fail;refine H9.mono ?_;rintro e q ⟨pa,pc,rfl,p2,r2,g2⟩;have Hc:Hid (W.grownBy q (some rb)):=hid (QaR Hy.out g2);have Hz:Hid (∀b,w.heap.size<=b ->∀k,some rb=some k ->k≠b):=hid (fun b hb k e=>by injection e with e;have:=H1.out;have:=Hd.out;omega);have Hu:=hid (Gi.gr Hc.out (Hz _ zL));have Gb:=hid (Gl.gr Hc.out (Hz _ (Nat.le_succ _)));have Ga:=hid (Gk.gr Hc.out (Hz _ (by omega)));have Gs:=hid p2;have Gj:=hid r2;have Gc:Hid (w.grownBy q (some rb)):=hid ⟨Hc.os.trans Ha.os,Hc.tape.trans Ha.tape,Hc.output.trans Ha.output,Nat.le_trans Ha.size Hc.size,fun k hk hne=>(Hc.block k (Nat.lt_of_lt_of_le hk Ha.size) hne).trans (Ha.block k hk)⟩;have P:Hid (w.heap.size+3<=q.heap.size/\ w1.heap.size<=q.heap.size):=hid (by have:=Hc.size;have:=Gm.out;have:=g2.size;omega);have k0:=Hu.c0;have k1:=Hu.c1;have b3:Below q.heap.size q ((q.alloc (.cells #[.slice a S.l.length c,.slice xa S.n d] 29)).alloc (.cells #[.slice none 0 0,.slice none 0 0] 29)):=Qak _ _ _;have I:Hid (AcS w ((q.alloc (.cells #[.slice a S.l.length c,.slice xa S.n d] 29)).alloc (.cells #[.slice none 0 0,.slice none 0 0] 29)) B rb f n (rx n (rx n x)) (q.heap.size+2) w.heap.size q.heap.size (.slice a S.l.length c) (.slice xa S.n d) (.slice none 0 0) (.slice none 0 0)):=hid (by
  have z2:=P.out;refine⟨Hu.below b3 Hu.lt,Gb.below b3 Gb.lt,Ga.below b3 Ga.lt,(Bx2.made q _ _ _).allocs _,?_,Gj.below (b3.mono (by have:=Hd.out;omega)),QaK Gc.out b3 (by omega),rfl,by omega,by omega,by simp,Hd.out⟩;simpa using Bx2.made (q.alloc (.cells #[.slice a S.l.length c,.slice xa S.n d] 29)) (.slice none 0 0) (.slice none 0 0) 29)
 have H:=hid (p2.below b3);have N:Hid (SNc ((q.alloc (.cells #[.slice a S.l.length c,.slice xa S.n d] 29)).alloc (.cells #[.slice none 0 0,.slice none 0 0] 29)) lo a c xa S):=hid (H2.gr (QaK Gc.out b3 (by have:=P.out;omega)) Hk.2);have Gq:=I.s0.c0;have Gr:=I.s0.c1;clear p2 r2 g2 H9 b3;go_upto_if 21 with fail;obtain⟨R,Hx⟩:∃R,((q.alloc (.cells #[.slice a S.l.length c,.slice xa S.n d] 29)).alloc (.cells #[.slice none 0 0,.slice none 0 0] 29))=R:=⟨_,rfl⟩;have Hs:Hid (R.heap.size=q.heap.size+2):=hid (by rw [<- Hx];simp);rw [Hx] at I H N;clear Gq Gr;try rw [Hx]
 clear Hx;go_cut [12] from 13 to 65 (fun v wx=>v=.int .i64 C/\ Hid (AcE w wx B rb f n x' q.heap.size (.slice a S.l.length c) (.slice xa S.n d) X Y));case first=>
  have Z:=I.s0.c0;have s1:=I.s0.c1;rcases Gd.out with ⟨h8,rfl,s⟩|⟨h8,rfl,s⟩|⟨h8,rfl,s⟩|⟨h8,rfl,s⟩
  ·have d0:(k:Int)%8<4:=by omega
   have s:=hid s;clear h8;go_wp2_with fail;have D:Hid (∀w',Bx2 w' w.heap.size (.slice a S.l.length c) (.slice xa S.n d) ->(w'.cell? ⟨w.heap.size,0,none⟩=some (.slice a S.l.length c)/\ w'.cell? ⟨w.heap.size,1,none⟩=some (.slice xa S.n d))):=hid (fun w' b=>⟨b.c0,b.c1⟩);have Hh:=hid (I.below ((Below.refl (q.heap.size+2) R).drew));have Hw:=hid (Hl B rb R.drew (by have h1:=Hd.out;have h2:=P.out;have h3:=Hs.out;show B<=R.heap.size;omega) Hh.rd);clear Hl Z s1;refine zR (S:=fun w'=>w'.cell? ⟨w.heap.size,0,none⟩=some (.slice a S.l.length c)/\ w'.cell? ⟨w.heap.size,1,none⟩=some (.slice xa S.n d)) (D _ Hh.s0) (fun qh=> ?_);refine tZ 1 24 ?_;refine tZ 2 25 ?_;refine tZ 3 26 ?_;refine Qbu (i:=0) (j:=4) (d:=some 23) (d':=some 27) (by kernel_rfl) (by kernel_rfl) (by kernel_rfl) ?_ ?_
   ·
    intro o ho Gn K r;simp only [gZa,gZb,gZc,gZd] at ho;subst ho;go_simp;refine r.out _ _ (D _ Hh.s0) (fun qh=> ?_);clear r K;try simp only [zP]
    refine cZ 4 ?_;intro K r;go_simp;refine Hw.mono ?_;rintro e w7 ⟨rfl,r7,g7⟩;have F:=hid (Hh.gro g7 r7);have Hp:Hid (SNc w7 lo a c xa S):=hid (SNc.gr (N.drew) g7 Hk.2);have He:Hid (PtN w7 w1.heap.size pa pc p):=hid (PtN.gr (H.below (zI.drew)) g7 (by have h1:=H1.out;have h2:=Ha.size;have h3:=Hy.size;omega));clear r7 g7 Hw I H N Hh;refine r.out _ _ (D _ F.s0) (fun qh=> ?_);clear r K;try simp only [zP]
    have Hm:=hid (s w7 a xa pa c d pc Hp.at He.cap He.at);refine cZ 5 ?_;intro K r;go_simp;refine Hm.mono ?_;rintro e w4 ⟨A,O,U,y,E,Q,V,z,rfl,g,t,M⟩;have z7:=F.z4;have Hq:Hid (SNc w4 (q.heap.size+2) A O U X):=hid (g.move z7 zL (fun _ _ _=>rfl));have Hr:Hid (SNc w4 (q.heap.size+2) E Q V Y):=hid (t.move z7 zL (fun _ _ _=>rfl));have m:=hid (F.below (M.mono z7));clear g t M Hp He Hm s F;refine r.out _ _ (D _ m.s0) (fun qh=> ?_);clear r K;try simp only [zP]
    refine tZ 6 22 ?_;refine tZ 7 29 ?_;refine tZ 8 30 ?_;refine tZ 9 31 ?_;have t0:=m.t1.c0;have u:=m.t1.c1;have tf:=m.t1.f;have Hb:=hid (m.fill (.slice A X.l.length O) (.slice U X.n y) (.slice E Y.l.length Q) (.slice V Y.n z));have Hi:q.heap.size≠w.heap.size:=by have:=P.out;omega
    have Hj:q.heap.size+1≠w.heap.size:=by have:=P.out;omega
    have Hf:=hid ((m.s0.setAt ⟨q.heap.size,0,none⟩ (.slice A X.l.length O) Hi).setAt ⟨q.heap.size,1,none⟩ (.slice U X.n y) Hi);have Ho:=hid ((Hf.setAt ⟨q.heap.size+1,0,none⟩ (.slice E Y.l.length Q) Hj).setAt ⟨q.heap.size+1,1,none⟩ (.slice V Y.n z) Hj);clear Hi Hj;refine cZ 10 ?_;intro K r;go_simp;refine r.out _ _ (D _ Hf.out) (fun qh=> ?_);clear r K;try simp only [zP]
    clear t0 u tf;have u0:=Hb.1.c0;have u1:=Hb.1.c1;have uf:=Hb.1.f;refine cZ 11 ?_;intro K r;go_simp;refine r.out _ _ (D _ Ho.out) (fun qh=> ?_);clear r K;try simp only [zP]
    clear u0 u1 uf;refine tZ 12 12 ?_;refine zD ?_;clear qh Hf Ho Hb D;have L:=hid (m.meet Hq.out Hr.out y z);clear m Hq Hr;go_wp2_with fail;go_meet;exact⟨rfl,L⟩
   ·
    intro o ho Gn K r;simp only [gZa,gZb,gZc,gZd] at ho;subst ho;go_simp;refine Hw.mono ?_;rintro e w7 ⟨rfl,r7,g7⟩;have F:=hid (Hh.gro g7 r7);have Hp:Hid (SNc w7 lo a c xa S):=hid (SNc.gr (N.drew) g7 Hk.2);have He:Hid (PtN w7 w1.heap.size pa pc p):=hid (PtN.gr (H.below (zI.drew)) g7 (by have h1:=H1.out;have h2:=Ha.size;have h3:=Hy.size;omega));clear r7 g7 Hw I H N Hh;refine r.out _ _ (D _ F.s0) (fun qh=> ?_);clear r K;try simp only [zP]
    have t0:=F.s0.c0;have u:=F.s0.c1;refine cZ 0 ?_;intro K r;go_simp;refine r.out _ _ (D _ F.s0) (fun qh=> ?_);clear r K;try simp only [zP]
    clear t0 u;have Hm:=hid (s w7 a xa pa c d pc Hp.at He.cap He.at);refine cZ 5 ?_;intro K r;go_simp;refine Hm.mono ?_;rintro e w4 ⟨A,O,U,y,E,Q,V,z,rfl,g,t,M⟩;have z7:=F.z4;have Hq:Hid (SNc w4 (q.heap.size+2) A O U X):=hid (g.move z7 zL (fun _ _ _=>rfl));have Hr:Hid (SNc w4 (q.heap.size+2) E Q V Y):=hid (t.move z7 zL (fun _ _ _=>rfl));have m:=hid (F.below (M.mono z7));clear g t M Hp He Hm s F;refine r.out _ _ (D _ m.s0) (fun qh=> ?_);clear r K;try simp only [zP]
    refine tZ 6 22 ?_;refine tZ 7 29 ?_;refine tZ 8 30 ?_;refine tZ 9 31 ?_;have t0:=m.t1.c0;have u:=m.t1.c1;have tf:=m.t1.f;have Hb:=hid (m.fill (.slice A X.l.length O) (.slice U X.n y) (.slice E Y.l.length Q) (.slice V Y.n z));have Hi:q.heap.size≠w.heap.size:=by have:=P.out;omega
    have Hj:q.heap.size+1≠w.heap.size:=by have:=P.out;omega
    have Hf:=hid ((m.s0.setAt ⟨q.heap.size,0,none⟩ (.slice A X.l.length O) Hi).setAt ⟨q.heap.size,1,none⟩ (.slice U X.n y) Hi);have Ho:=hid ((Hf.setAt ⟨q.heap.size+1,0,none⟩ (.slice E Y.l.length Q) Hj).setAt ⟨q.heap.size+1,1,none⟩ (.slice V Y.n z) Hj);clear Hi Hj;refine cZ 10 ?_;intro K r;go_simp;refine r.out _ _ (D _ Hf.out) (fun qh=> ?_);clear r K;try simp only [zP]
    clear t0 u tf;have u0:=Hb.1.c0;have u1:=Hb.1.c1;have uf:=Hb.1.f;refine cZ 11 ?_;intro K r;go_simp;refine r.out _ _ (D _ Ho.out) (fun qh=> ?_);clear r K;try simp only [zP]
    clear u0 u1 uf;refine tZ 12 12 ?_;refine zD ?_;clear qh Hf Ho Hb D;have L:=hid (m.meet Hq.out Hr.out y z);clear m Hq Hr;go_wp2_with fail;go_meet;exact⟨rfl,L⟩
  ·have d0:¬(k:Int)%8<4:=by omega
   have s:=hid s;obtain⟨B4,d1⟩:∃B4,((k:Int)%8==4)=B4:=⟨_,rfl⟩;have d2:B4=false ->((k:Int)%8==5)=true:=fun e=>by rw [<- d1] at e;simp at e ⊢;omega
   clear h8 Hl;cases B4 with
   | true=>
    clear d2;go_wp2_with fail;refine(s R a xa pa c d pc N.at H.cap H.at).mono ?_;rintro e w4 ⟨A,O,U,y,E,Q,V,z,rfl,g,t,M⟩;rw [Hs.out] at g t M;have m:=hid (I.below M);have L:=hid (m.meet g t y z);have G:=(m.fill (.slice A X.l.length O) (.slice U X.n y) (.slice E Y.l.length Q) (.slice V Y.n z)).1;have t0:=m.t1.c0;have u:=m.t1.c1;have tf:=m.t1.f;have u0:=G.c0;have u1:=G.c1;have uf:=G.f;clear G g t M I H N s Z s1;go_wp2_with fail;go_meet;exact⟨rfl,L⟩
   | false=>
    have d2:=d2 rfl;go_wp2_with fail;refine(s R a xa pa c d pc N.at H.cap H.at).mono ?_;rintro e w4 ⟨A,O,U,y,E,Q,V,z,rfl,g,t,M⟩;rw [Hs.out] at g t M;have m:=hid (I.below M);have L:=hid (m.meet g t y z);have G:=(m.fill (.slice A X.l.length O) (.slice U X.n y) (.slice E Y.l.length Q) (.slice V Y.n z)).1;have t0:=m.t1.c0;have u:=m.t1.c1;have tf:=m.t1.f;have u0:=G.c0;have u1:=G.c1;have uf:=G.f;clear G g t M I H N s Z s1;go_wp2_with fail;go_meet;exact⟨rfl,L⟩
  ·have d0:¬(k:Int)%8<4:=by omega
   have s:=hid s;have d1:((k:Int)%8==4)=false:=by simp;omega
   have d2:((k:Int)%8==5)=false:=by simp;omega
   have d3:((k:Int)%8==6)=true:=by simp;omega
   clear h8 Hl;go_wp2_with fail;refine(s R a xa pa c d pc N.at H.cap H.at).mono ?_;rintro e w4 ⟨A,O,U,y,E,Q,V,z,rfl,g,t,M⟩;rw [Hs.out] at g t M;have m:=hid (I.below M);have L:=hid (m.meet g t y z);have G:=(m.fill (.slice A X.l.length O) (.slice U X.n y) (.slice E Y.l.length Q) (.slice V Y.n z)).1;have t0:=m.t1.c0;have u:=m.t1.c1;have tf:=m.t1.f;have u0:=G.c0;have u1:=G.c1;have uf:=G.f;clear G g t M I H N s Z s1;go_wp2_with fail;go_meet;exact⟨rfl,L⟩
  ·have d0:¬(k:Int)%8<4:=by omega
   have s:=hid s;have d1:((k:Int)%8==4)=false:=by simp;omega
   have d2:((k:Int)%8==5)=false:=by simp;omega
   have d3:((k:Int)%8==6)=false:=by simp;omega
   clear h8 Hl;go_wp2_with fail;refine(s R a xa pa c d pc N.at H.cap H.at).mono ?_;rintro e w4 ⟨A,O,U,y,E,Q,V,z,rfl,g,t,M⟩;rw [Hs.out] at g t M;have m:=hid (I.below M);have L:=hid (m.meet g t y z);have G:=(m.fill (.slice A X.l.length O) (.slice U X.n y) (.slice E Y.l.length Q) (.slice V Y.n z)).1;have t0:=m.t1.c0;have u:=m.t1.c1;have tf:=m.t1.f;have u0:=G.c0;have u1:=G.c1;have uf:=G.f;clear G g t M I H N s Z s1;go_wp2_with fail;go_meet;exact⟨rfl,L⟩
 case rest=>
  obtain⟨rfl,L⟩:=hcut;obtain⟨A,O,U,y,E,Q,V,z,f0,T,f2,f3,f4,f5,f6,g,t⟩:=L.out;have Ge:=hid g;have Gf:=hid t;have H6:=hid f5;have H7:=hid f6;clear L g t I H N Hl Gd;by_cases hC:C=0
  ·subst hC;have HE:=hid (Hv rfl);clear Hv Hn;have Hg:=hid (Qna T f2 (show w.heap.size+1≠w.heap.size+1+1 by omega) (.slice A X.l.length O) (.slice U X.n y) (.slice E Y.l.length Q) (.slice V Y.n z));have o0:=T.c0;have o1:=T.c1;have of:=T.f;have i0:=f3.c0;have i1:=f3.c1;have i2:=f4.c0;have i3:=f4.c1;have H0:=hid Hg.1;have Gt:¬w.heap.size=q.heap.size:=by have:=P.out;omega
   have Gu:¬w.heap.size+1=q.heap.size:=by have:=P.out;omega
   have Gv:¬w.heap.size+1+1=q.heap.size:=by have:=P.out;omega
   clear f0 T f2 f3 f4 f5 f6;go_wp2_with fail;have q0:=H0.c0;have q1:=H0.c1;have qf:=H0.f;go_region;try go_wp2_with fail
   all_goals
    obtain⟨X1,X2⟩:=Hg.2
    refine zF (v:=.tuple #[.agg #[.slice A X.l.length O,.slice U X.n y],.agg #[.slice E Y.l.length Q,.slice V Y.n z]]) (by simp [results,Tryz.results26,go_sem,X1.c0,X1.c1,X2.c0,X2.c1]) ?_
    rw [HE.1,HE.2]
    have z2:=P.out
    have z5:=Hd.out
    have z6:=Hk.1
    obtain⟨E1,J⟩:=Qi2 H6.out H7.out rfl z5 (.slice A X.l.length O) (.slice U X.n y) (.slice E Y.l.length Q) (.slice V Y.n z)
    first
     | exact⟨A,O,U,y,E,Q,V,z,rfl,(Qj6 (r1:=w.heap.size+1) (r2:=w.heap.size+1+1) Ge.out (by omega) (by omega) (by omega) _ _ _ _).drew,(Qj6 (r1:=w.heap.size+1) (r2:=w.heap.size+1+1) Gf.out (by omega) (by omega) (by omega) _ _ _ _).drew,E1.below zI.drew,⟨J.os,J.tape,J.output,J.size,J.block⟩⟩
     | exact⟨A,O,U,y,E,Q,V,⟨z,rfl⟩,(Qj6 (r1:=w.heap.size+1) (r2:=w.heap.size+1+1) Ge.out (by omega) (by omega) (by omega) _ _ _ _).drew,(Qj6 (r1:=w.heap.size+1) (r2:=w.heap.size+1+1) Gf.out (by omega) (by omega) (by omega) _ _ _ _).drew,E1.below zI.drew,⟨J.os,J.tape,J.output,J.size,J.block⟩⟩
  ·have Hg:=hid (Qna T f2 (show w.heap.size+1≠w.heap.size+1+1 by omega) (.slice a S.l.length c) (.slice xa S.n d) (.slice none 0 0) (.slice none 0 0));have o0:=T.c0;have o1:=T.c1;have of:=T.f;have i0:=f0.c0;have i1:=f0.c1;have q0:=Hg.1.c0;have q1:=Hg.1.c1;have qf:=Hg.1.f;clear f0 T f2 f3 f4 f5 f6;go_wp2_with fail;obtain⟨X1,X2⟩:=Hg.2;refine zF (v:=.tuple #[.agg #[.slice a S.l.length c,.slice xa S.n d],.agg #[.slice none 0 0,.slice none 0 0]]) (by simp [results,Tryz.results26,go_sem,X1.c0,X1.c1,X2.c0,X2.c1]) ?_;rw [(Hn hC).1,(Hn hC).2];have z5:=Hd.out;obtain⟨E1,J⟩:=Qi2 H6.out H7.out rfl z5 (.slice a S.l.length c) (.slice xa S.n d) (.slice none 0 0) (.slice none 0 0);first
    | exact⟨a,c,xa,d,none,0,none,0,rfl,H2.gr J Hk.2,SNc.mt _ _ _ _,E1,J⟩
    | exact⟨a,c,xa,d,none,0,none,⟨0,rfl⟩,H2.gr J Hk.2,SNc.mt _ _ _ _,E1,J⟩
noncomputable def acR (f:Nat ->Int)(n x:Nat)(S:Sx)(rep:Nat):Sx×Sx×Nat:=by
 classical exact if h:∃q:Sx×Sx×Nat,AcP f n x S rep q.1 q.2.1 q.2.2 then Classical.choose h else(Sx.mt,Sx.mt,0)
theorem Qlg (f:Nat ->Int)(n x:Nat){S:Sx}{rep:Nat}(hS:Dr S)(hrep:rep<8):AcP f n x S rep (acR f n x S rep).1 (acR f n x S rep).2.1 (acR f n x S rep).2.2:=by
 have h:∃q:Sx×Sx×Nat,AcP f n x S rep q.1 q.2.1 q.2.2:=by
  obtain⟨j,k,x',h⟩:=Qpm f n x S rep hS hrep;exact⟨(j,k,x'),h⟩
 unfold acR;rw [dif_pos h];exact Classical.choose_spec h
def upA (A:Nat ->Sx)(j:Nat)(S:Sx):Nat ->Sx:=fun i=>if i=j then S else A i
theorem QlJ (A:Nat ->Sx)(j:Nat)(S:Sx):upA A j S j=S:=by unfold upA;rw [if_pos rfl]
theorem QlK {A:Nat ->Sx}{i j:Nat}{S:Sx}(h:i≠j):upA A j S i=A i:=by unfold upA;rw [if_neg h]
noncomputable def jnT (A:Nat ->Sx)(t:Nat)(T D:Sx):Nat ->Sx:=if jnB T D=true then upA A t (jnS T D) else A
structure DSt where
 A:Nat ->Sx
 L:Sx
 x:Nat
structure DSt.Ok (s:DSt):Prop where
 a:∀j,Dr (s.A j)
 l:Dr s.L
noncomputable def QfL (f:Nat ->Int)(n:Nat)(s:DSt):DSt:=
 if rk f n s.x%8=7 then⟨jnT s.A (rk f n s.x%3) (s.A (rk f n s.x%3)) (s.A (rk f n s.x/8%3)),s.L,rx n s.x⟩
 else if rk f n s.x%8=6 then⟨jnT (upA s.A (rk f n s.x%3) (acR f n (rx n s.x) (s.A (rk f n s.x%3)) (rk f n s.x%3)).1) (rk f n s.x/8%3) (upA s.A (rk f n s.x%3) (acR f n (rx n s.x) (s.A (rk f n s.x%3)) (rk f n s.x%3)).1 (rk f n s.x/8%3)) (acR f n (rx n s.x) (s.A (rk f n s.x%3)) (rk f n s.x%3)).2.1,(acR f n (rx n s.x) (s.A (rk f n s.x%3)) (rk f n s.x%3)).2.1,(acR f n (rx n s.x) (s.A (rk f n s.x%3)) (rk f n s.x%3)).2.2⟩
 else⟨upA s.A (rk f n s.x%3) (acR f n (rx n s.x) (s.A (rk f n s.x%3)) (rk f n s.x%3)).1,(acR f n (rx n s.x) (s.A (rk f n s.x%3)) (rk f n s.x%3)).2.1,(acR f n (rx n s.x) (s.A (rk f n s.x%3)) (rk f n s.x%3)).2.2⟩
theorem Qgk {A:Nat ->Sx}{j:Nat}{S:Sx}(h:∀i,Dr (A i))(hS:Dr S):∀i,Dr (upA A j S i):=fun i=>by
 by_cases e:i=j
 ·rw [e,QlJ];exact hS
 ·rw [QlK e];exact h i
theorem Qlx {A:Nat ->Sx}{t:Nat}{T D:Sx}(h:∀i,Dr (A i))(hT:Dr T)(hD:Dr D):∀i,Dr (jnT A t T D i):=fun i=>by
 unfold jnT;cases hb:jnB T D with
 | false=>rw [if_neg (by simp)];exact h i
 | true=>rw [if_pos rfl];exact Qgk h (hT.jn hD (Qmv.1 hb).2.2) i
theorem Qkg {f:Nat ->Int}{n:Nat}{s:DSt}(h:s.Ok):(QfL f n s).Ok:=by
 have k:rk f n s.x%3<8:=by omega
 have j:=(Qlg f n (rx n s.x) (h.a (rk f n s.x%3)) k).1;unfold QfL;split
 ·exact⟨Qlx h.a (h.a _) (h.a _),h.l⟩
 ·split
  ·exact⟨Qlx (Qgk h.a j.1) (Qgk h.a j.1 _) j.2,j.2⟩
  ·exact⟨Qgk h.a j.1,j.2⟩
noncomputable def Qo7 (f:Nat ->Int)(n:Nat)(s:DSt):Nat ->DSt
 | 0=>s
 | i+1=>QfL f n (Qo7 f n s i)
theorem QiG {f:Nat ->Int}{n:Nat}{s:DSt}(h:s.Ok):∀i,(Qo7 f n s i).Ok
 | 0=>h
 | i+1=>Qkg (QiG h i)
theorem Qps (x:Nat):(⟨fun _=>Sx.mt,Sx.mt,x⟩:DSt).Ok:=⟨fun _=>Dr.mt,Dr.mt⟩
theorem Qkk (P:Nat ->Prop)(N:Nat):¬P N ->∃m,m<=N/\ (∀j,j<m ->P j)/\¬P m:=by
 induction N using Nat.strongRecOn with
 | _ N ih=>
  intro h;by_cases k:∃j,j<N/\¬P j
  ·obtain⟨j,q,r⟩:=k;obtain⟨m,y,u,v⟩:=ih j q r;exact⟨m,by omega,u,v⟩
  ·exact⟨N,Nat.le_refl _,fun j hj=>Classical.byContradiction fun hn=>k ⟨j,hj,hn⟩,h⟩
def QlO (w:World)(ga lo m:Nat)(A:Nat ->Sx):Prop:=∀j,j<m ->∃a c x d,w.cell? ⟨ga,j*2,none⟩=some (.slice a (A j).l.length c)/\ w.cell? ⟨ga,j*2+1,none⟩=some (.slice x (A j).n d)/\ SNc w lo a c x (A j)
theorem QlO.move {w w1:World}{ga lo m:Nat}{A:Nat ->Sx}(h:QlO w ga lo m A)(he:w1.heap[ga]? =w.heap[ga]?)(hs:w.heap.size<=w1.heap.size)(hq:∀q,lo<=q ->q<w.heap.size ->w1.heap[q]? =w.heap[q]?):QlO w1 ga lo m A:=fun j hj=>by
 obtain⟨a,c,x,d,k,r,s⟩:=h j hj;exact⟨a,c,x,d,(World.cell?_of_block (a:=⟨ga,_,none⟩) he).trans k,(World.cell?_of_block (a:=⟨ga,_,none⟩) he).trans r,s.move zL hs hq⟩
theorem QlO.set {w:World}{ga lo m r:Nat}{A:Nat ->Sx}{a x:Option Addr}{c d:Nat}{S:Sx}(h:QlO w ga lo m A)(hg:ga<lo)(hr:r<m)(s:SNc w lo a c x S):QlO ((w.setCell ⟨ga,r*2,none⟩ (.slice a S.l.length c)).setCell ⟨ga,r*2+1,none⟩ (.slice x S.n d)) ga lo m (upA A r S):=fun j hj=>by
 have v:∀{k x':Option Addr} {u:Nat} {T:Sx},SNc w lo k u x' T ->SNc ((w.setCell ⟨ga,r*2,none⟩ (.slice a S.l.length c)).setCell ⟨ga,r*2+1,none⟩ (.slice x S.n d)) lo k u x' T:=fun h=>h.move zL (by simp [World.setCell]) (fun q h1 h2=>by rw [zH _ _ _ _ (by simp;omega),zH _ _ _ _ (by simp;omega)]);obtain⟨i,b,E,p,g,t,_⟩:=h r hr;by_cases e:j=r
 ·subst e;rw [QlJ];exact⟨a,c,x,d,(World.cell?_setCell_other _ _ _ _ (by simp)).trans (World.cell?_setCell_same _ _ _ g),World.cell?_setCell_same _ _ _ ((World.cell?_setCell_other _ _ _ _ (by simp)).trans t),v s⟩
 ·rw [QlK e];obtain⟨k,u,x',d',y,z,o⟩:=h j hj;exact⟨k,u,x',d',(World.cell?_setCell_other _ _ _ _ (by simp<;>omega)).trans ((World.cell?_setCell_other _ _ _ _ (by simp<;>omega)).trans y),(World.cell?_setCell_other _ _ _ _ (by simp<;>omega)).trans ((World.cell?_setCell_other _ _ _ _ (by simp<;>omega)).trans z),v o⟩
structure DrS (w wr:World)(B rb:Nat)(f:Nat ->Int)(n x ga:Nat)(A:Nat ->Sx)(L:Sx):Prop where
 row:QlO wr ga (ga+2) 3 A
 fz:∀i,wr.frozen? ⟨ga,i,none⟩=false
 ls:∃a c x d,Bx2 wr (ga+1) (.slice a L.l.length c) (.slice x L.n d)/\ SNc wr (ga+2) a c x L
 r1:Bx2 wr w.heap.size (.slice none 0 0) (.slice none 0 0)
 r2:Bx2 wr (w.heap.size+1) (.slice none 0 0) (.slice none 0 0)
 rd:RdJ wr B rb f n x
 gr:w.grownBy wr (some rb)
 z1:w.heap.size+1<ga
 z3:ga+2<=wr.heap.size
 z4:rb<w.heap.size
 z5:B<=w.heap.size
section
variable {w wr w1 : World} {B rb n x ga : Nat} {f : Nat -> Int} {A : Nat -> Sx} {L : Sx}
theorem DrS.gro (h:DrS w wr B rb f n x ga A L){x':Nat}(hg:wr.grownBy w1 (some rb))(hr:RdJ w1 B rb f n x'):DrS w w1 B rb f n x' ga A L:=by
 have u:=h.z1;have v:=h.z3;have y:=h.z4;have r:∀b,w.heap.size<=b ->some b≠some rb:=fun b hb e=>by injection e with e;omega
 have j:∀b,w.heap.size<=b ->b<wr.heap.size ->w1.heap[b]? =wr.heap[b]? :=fun b h1 h2=>hg.block b h2 (r b h1);have m:∀b,w.heap.size<=b ->∀k,some rb=some k ->k≠b:=fun b hb k e e2=>r b hb (by rw [e,e2]);obtain⟨a,c,t,d,z,g⟩:=h.ls;exact⟨h.row.move (j ga (by omega) (by omega)) hg.size (fun q q1 q2=>j q (by omega) q2),fun i=>(World.frozen?_of_block (a:=⟨ga,i,none⟩) (j ga (by omega) (by omega))).trans (h.fz i),⟨a,c,t,d,z.gr hg (m _ (by omega)),g.gr hg (by omega)⟩,h.r1.gr hg (m _ zL),h.r2.gr hg (m _ (by omega)),hr,QaR h.gr hg,h.z1,Nat.le_trans v hg.size,h.z4,h.z5⟩
theorem DrS.below (h:DrS w wr B rb f n x ga A L)(hb:Below wr.heap.size wr w1):DrS w w1 B rb f n x ga A L:=
 h.gro ⟨hb.os,hb.tape,hb.output,hb.size,fun k hk _=>hb.block k hk⟩ (h.rd.below (hb.mono (by have:=h.z3;have:=h.z1;have:=h.z5;omega)))
theorem DrS.at (h:DrS w wr B rb f n x ga A L){r:Nat}(hr:r<3):∃a c x d,wr.cell? ⟨ga,r*2,none⟩=some (.slice a (A r).l.length c)/\ wr.cell? ⟨ga,r*2+1,none⟩=some (.slice x (A r).n d)/\ SNc wr (ga+2) a c x (A r):=h.row r hr
theorem DrS.setA (h:DrS w wr B rb f n x ga A L){r:Nat}(hr:r<3){a xx:Option Addr}{S:Sx}{c:Nat}(s:SNc wr (ga+2) a c xx S)(_c d:Nat):DrS w ((wr.setCell ⟨ga,r*2,none⟩ (.slice a S.l.length c)).setCell ⟨ga,r*2+1,none⟩ (.slice xx S.n d)) B rb f n x ga (upA A r S) L:=by
 have m:=h.z1;have u:=h.z3;have v:=h.z4;obtain⟨z,g,o,t,y,b⟩:=h.ls;have e:∀q,ga≠q ->(((wr.setCell ⟨ga,r*2,none⟩ (.slice a S.l.length c)).setCell ⟨ga,r*2+1,none⟩ (.slice xx S.n d))).heap[q]? =wr.heap[q]? :=fun q hq=>by rw [zH _ _ _ _ (by simpa using Ne.symm hq),zH _ _ _ _ (by simpa using Ne.symm hq)]
 have k:wr.heap.size=(((wr.setCell ⟨ga,r*2,none⟩ (.slice a S.l.length c)).setCell ⟨ga,r*2+1,none⟩ (.slice xx S.n d))).heap.size:=by simp [World.setCell]
 have j:Below ga wr ((wr.setCell ⟨ga,r*2,none⟩ (.slice a S.l.length c)).setCell ⟨ga,r*2+1,none⟩ (.slice xx S.n d)):=(zI.setCell (p:=⟨ga,r*2,none⟩) zL _).setCell (p:=⟨ga,r*2+1,none⟩) zL _;exact⟨h.row.set (by omega) hr s,fun i=>by rw [World.frozen?_setCell,World.frozen?_setCell];exact h.fz i,⟨z,g,o,t,(y.setAt _ _ (by simp)).setAt _ _ (by simp),b.move zL (Nat.le_of_eq k) (fun q q1 q2=>e q (by omega))⟩,(h.r1.setAt _ _ (by simp;omega)).setAt _ _ (by simp;omega),(h.r2.setAt _ _ (by simp;omega)).setAt _ _ (by simp;omega),h.rd.below (j.mono (by have:=h.z5;omega)),QaK h.gr j (by omega),h.z1,by rw [<- k];exact u,h.z4,h.z5⟩
theorem DrS.setL (h:DrS w wr B rb f n x ga A L){a xx:Option Addr}{S:Sx}{c:Nat}(s:SNc wr (ga+2) a c xx S)(_c d:Nat):DrS w ((wr.setCell ⟨ga+1,0,none⟩ (.slice a S.l.length c)).setCell ⟨ga+1,1,none⟩ (.slice xx S.n d)) B rb f n x ga A S:=by
 have m:=h.z1;have r:=h.z3;have u:=h.z4;obtain⟨y,z,t,g,v,o⟩:=h.ls;have e:∀q,ga+1≠q ->(((wr.setCell ⟨ga+1,0,none⟩ (.slice a S.l.length c)).setCell ⟨ga+1,1,none⟩ (.slice xx S.n d))).heap[q]? =wr.heap[q]? :=fun q hq=>by rw [zH _ _ _ _ (by simpa using Ne.symm hq),zH _ _ _ _ (by simpa using Ne.symm hq)]
 have j:wr.heap.size=(((wr.setCell ⟨ga+1,0,none⟩ (.slice a S.l.length c)).setCell ⟨ga+1,1,none⟩ (.slice xx S.n d))).heap.size:=by simp [World.setCell]
 have k:Below ga wr ((wr.setCell ⟨ga+1,0,none⟩ (.slice a S.l.length c)).setCell ⟨ga+1,1,none⟩ (.slice xx S.n d)):=(zI.setCell (p:=⟨ga+1,0,none⟩) (by simp) _).setCell (p:=⟨ga+1,1,none⟩) (by simp) _;exact⟨h.row.move (e ga (by omega)) (Nat.le_of_eq j) (fun q q1 q2=>e q (by omega)),fun i=>by rw [World.frozen?_setCell,World.frozen?_setCell];exact h.fz i,⟨a,c,xx,d,v.set _ _,s.move zL (Nat.le_of_eq j) (fun q q1 q2=>e q (by omega))⟩,(h.r1.setAt _ _ (by simp;omega)).setAt _ _ (by simp;omega),(h.r2.setAt _ _ (by simp;omega)).setAt _ _ (by simp;omega),h.rd.below (k.mono (by have:=h.z5;omega)),QaK h.gr k (by omega),h.z1,by rw [<- j];exact r,h.z4,h.z5⟩
theorem DrS.box {U cur w5:World}{lo b jc:Nat}{ja jx:Option Addr}{J:Sx}(h:DrS w U B rb f n x ga A L)(hb:Below U.heap.size U cur)(hx:Bx2 cur b (.slice none 0 0) (.slice none 0 0))(hU:U.heap.size<=b)(sj:SNc w5 lo ja jc jx J)(hl:U.heap.size<=lo)(hs:w5.heap.size<=cur.heap.size)(hq:∀q,lo<=q ->q<w5.heap.size ->q≠b/\ cur.heap[q]? =w5.heap[q]?)(_jc jd:Nat):
  Below U.heap.size U ((cur.setCell ⟨b,0,none⟩ (.slice ja J.l.length jc)).setCell ⟨b,1,none⟩ (.slice jx J.n jd))/\ DrS w ((cur.setCell ⟨b,0,none⟩ (.slice ja J.l.length jc)).setCell ⟨b,1,none⟩ (.slice jx J.n jd)) B rb f n x ga A L/\ Bx2 ((cur.setCell ⟨b,0,none⟩ (.slice ja J.l.length jc)).setCell ⟨b,1,none⟩ (.slice jx J.n jd)) b (.slice ja J.l.length jc) (.slice jx J.n jd)/\ SNc ((cur.setCell ⟨b,0,none⟩ (.slice ja J.l.length jc)).setCell ⟨b,1,none⟩ (.slice jx J.n jd)) (ga+2) ja jc jx J:=by
 have r:=h.z3;have j:Below U.heap.size U ((cur.setCell ⟨b,0,none⟩ (.slice ja J.l.length jc)).setCell ⟨b,1,none⟩ (.slice jx J.n jd)):=(hb.setCell (p:=⟨b,0,none⟩) hU _).setCell (p:=⟨b,1,none⟩) hU _;exact⟨j,h.below j,hx.set _ _,sj.move (by omega) (by simpa [World.setCell] using hs) (fun q h1 h2=>by
  obtain⟨k,m⟩:=hq q h1 h2;rw [zH _ _ _ _ (by simpa using k),zH _ _ _ _ (by simpa using k)];exact m)⟩
end
theorem Qhn {w w2:World}{B rb n x ga:Nat}{f:Nat ->Int}{A:Nat ->Sx}{L:Sx}(h:DrS w w2 B rb f n x ga A L)(v0 v1 v2 v3:Value):RdJ ((((w2.setCell ⟨w.heap.size,0,none⟩ v0).setCell ⟨w.heap.size,1,none⟩ v1).setCell ⟨w.heap.size+1,0,none⟩ v2).setCell ⟨w.heap.size+1,1,none⟩ v3) B rb f n x/\ w.grownBy ((((w2.setCell ⟨w.heap.size,0,none⟩ v0).setCell ⟨w.heap.size,1,none⟩ v1).setCell ⟨w.heap.size+1,0,none⟩ v2).setCell ⟨w.heap.size+1,1,none⟩ v3) (some rb):=by
 have j:Below w.heap.size w2 ((((w2.setCell ⟨w.heap.size,0,none⟩ v0).setCell ⟨w.heap.size,1,none⟩ v1).setCell ⟨w.heap.size+1,0,none⟩ v2).setCell ⟨w.heap.size+1,1,none⟩ v3):=Qhj zI zL (Nat.le_succ _) _ _ _ _;exact⟨h.rd.below (j.mono h.z5),QaK h.gr j zL⟩
def DwP (f:Nat ->Int)(n x:Nat)(S1 S2:Sx)(x':Nat):Prop:=(Dr S1/\ Dr S2)/\∀(B rb:Nat) (w:World),B<=w.heap.size ->RdJ w B rb f n x ->
  Calls Tryz.prog 11 #[.pointer (some ⟨rb,0,none⟩)] w fun e w'=>∃a1 c1 x1 d1 a2 c2 x2 d2,e=.returned (.tuple #[.agg #[.slice a1 S1.l.length c1,.slice x1 S1.n d1],.agg #[.slice a2 S2.l.length c2,.slice x2 S2.n d2]])/\ SNc w' w.heap.size a1 c1 x1 S1/\ SNc w' w.heap.size a2 c2 x2 S2/\ RdJ w' B rb f n x'/\ w.grownBy w' (some rb)
theorem Qo6 (f:Nat ->Int)(n x:Nat):∃M z x',DwP f n x M z x':=by
 obtain⟨k0,Kc⟩:∃k0,rk f n x=k0:=⟨_,rfl⟩;obtain⟨q0,K3⟩:∃q0,k0%12=q0:=⟨_,rfl⟩;obtain⟨N,hN⟩:∃N,3+q0=N:=⟨_,rfl⟩;obtain⟨D,hD⟩:∃D,Qo7 f n ⟨fun _=>Sx.mt,Sx.mt,rx n x⟩=D:=⟨_,rfl⟩;have Kl:Hid (D 0=⟨fun _=>Sx.mt,Sx.mt,rx n x⟩):=hid (by rw [<- hD];rfl);have Km:Hid (∀i,D (i+1)=QfL f n (D i)):=hid (fun i=>by rw [<- hD];rfl);have H9:Hid (∀i,(D i).Ok):=hid (fun i=>by rw [<- hD];exact QiG (Qps _) i);obtain⟨m,Kg,Ke,Kf⟩:=Qkk (fun i=>i<N/\ (i<3 \/0<n - (D i).x)) N (fun h=>absurd h.1 (Nat.lt_irrefl _));have Ko:=hid Ke;have Kp:=hid Kf;obtain⟨k',Kb⟩:∃k,rk f n (D m).x=k:=⟨_,rfl⟩;obtain⟨t1,Ki⟩:∃t,k'/5%3=t:=⟨_,rfl⟩;obtain⟨t2,Kj⟩:∃t,k'/16%3=t:=⟨_,rfl⟩;obtain⟨z,Hj⟩:∃z,(if k'%5=4 then(D m).L else(D m).A t2)=z:=⟨_,rfl⟩;have G4:Hid (k'%5=4 ->z=(D m).L):=hid (fun e=>by rw [<- Hj,if_pos e]);have G5:Hid (¬k'%5=4 ->z=(D m).A t2):=hid (fun e=>by rw [<- Hj,if_neg e]);refine⟨(D m).A t1,z,rx n (D m).x,⟨(H9 m).a t1,?_⟩,fun B rb w hB h=> ?_⟩
 ·by_cases e:k'%5=4
  ·rw [G4 e];exact(H9 m).l
  ·rw [G5 e];exact(H9 m).a t2
 obtain⟨W,hW⟩:∃W,(w.alloc (.cells #[.slice none 0 0,.slice none 0 0] 29)).alloc (.cells #[.slice none 0 0,.slice none 0 0] 29)=W:=⟨_,rfl⟩;have b0:Below w.heap.size w W:=by rw [<- hW];exact Qak _ _ _
 have A0:Bx2 W w.heap.size (.slice none 0 0) (.slice none 0 0):=by rw [<- hW];exact(Bx2.made w _ _ _).allocs _
 have R0:Bx2 W (w.heap.size+1) (.slice none 0 0) (.slice none 0 0):=by rw [<- hW];simpa using Bx2.made (w.alloc (.cells #[.slice none 0 0,.slice none 0 0] 29)) (.slice none 0 0) (.slice none 0 0) 29
 have zW:W.heap.size=w.heap.size+2:=by rw [<- hW];simp
 have Kh:=h.lt;have HN:=hid (QaW B rb f n x W (h.below (b0.mono hB)));rw [Kc] at HN;have d0:(k0:Int)%12=(q0:Int):=by omega
 have G:IntKind.i64.wrap (3+(q0:Int))=(N:Int):=by rw [show (3:Int)+(q0:Int)=(N:Int) by omega];exact Qan _ (by omega) (by omega)
 have Kr:Hid (N<=14):=hid (by omega);have Kk:=hid A0;have Ks:=hid R0;have H0:=hid b0;have Kv:=hid zW;have Kt:=hid (And.intro Kh hB);have Kn:=hid Kb;have HT:=hid (And.intro Ki Kj);have Kq:=hid Kg;clear Kc K3 hN hD Ke Kf Kb Ki Kj Hj h b0 A0 R0 zW Kh Kg;go_enter Tryz.func11,Tryz.ntmps11;go_wp2_with fail;try rw [hW]
 clear hW;refine HN.mono ?_;rintro e w1 ⟨rfl,r1,g1⟩;have b3:Below w1.heap.size w1 ((w1.alloc (.cells #[.slice none 0 0,.slice none 0 0,.slice none 0 0,.slice none 0 0,.slice none 0 0,.slice none 0 0] 29)).alloc (.cells #[.slice none 0 0,.slice none 0 0] 29)):=Qak _ _ _;have HI:Hid (DrS w ((w1.alloc (.cells #[.slice none 0 0,.slice none 0 0,.slice none 0 0,.slice none 0 0,.slice none 0 0,.slice none 0 0] 29)).alloc (.cells #[.slice none 0 0,.slice none 0 0] 29)) B rb f n (D 0).x w1.heap.size (D 0).A (D 0).L):=hid (by
  have z1:=Kv.out;have z2:=g1.size;have z3:=Kt.out;have z4:=H0.size;have ng:∀b,w.heap.size<=b ->∀k,some rb=some k ->k≠b:=fun b hb k e=>by injection e with e;omega
  rw [Kl.out];refine⟨fun j hj=>⟨none,0,none,0,?_,?_,SNc.mt _ _ _ _⟩,fun i=> ?_,⟨none,0,none,0,?_,SNc.mt _ _ _ _⟩,(Kk.gr g1 (ng _ zL)).below b3 (by omega),(Ks.gr g1 (ng _ (by omega))).below b3 (by omega),r1.below (b3.mono (by omega)),?_,by omega,by simp,by omega,z3.2⟩
  ·show World.cell? _ ⟨w1.heap.size,j*2,none⟩=some (.slice none 0 0);match j,hj with
   | 0,_=>simp
   | 1,_=>simp
   | 2,_=>simp
  ·show World.cell? _ ⟨w1.heap.size,j*2+1,none⟩=some (.slice none 0 0);match j,hj with
   | 0,_=>simp
   | 1,_=>simp
   | 2,_=>simp
  ·simp
  ·simpa [Sx.mt] using Bx2.made (w1.alloc (.cells #[.slice none 0 0,.slice none 0 0,.slice none 0 0,.slice none 0 0,.slice none 0 0,.slice none 0 0] 29)) (.slice none 0 0) (.slice none 0 0) 29
  ·exact QaK ⟨g1.os.trans H0.os,g1.tape.trans H0.tape,g1.output.trans H0.output,by omega,fun k hk Hh=>(g1.block k (by omega) Hh).trans (H0.block k hk)⟩ b3 (by omega))
 clear r1 g1 HN b3;go_wp2_with fail;obtain⟨W3,Gt⟩:∃W3,((w1.alloc (.cells #[.slice none 0 0,.slice none 0 0,.slice none 0 0,.slice none 0 0,.slice none 0 0,.slice none 0 0] 29)).alloc (.cells #[.slice none 0 0,.slice none 0 0] 29))=W3:=⟨_,rfl⟩;rw [Gt] at HI;try rw [Gt]
 clear Gt;obtain⟨u,Ka⟩:∃u,w1.heap.size=u:=⟨_,rfl⟩;rw [Ka] at HI ⊢;clear Ka d0 G;go_loopw [7] (fun i wr=>∃j:Nat,j<=m/\ i=.int .i64 (j:Int)/\ Hid (DrS w wr B rb f n (D j).x u (D j).A (D j).L)) (fun i _=>m - (intOf i).toNat);case atStart=>exact⟨0,Nat.zero_le _,rfl,HI⟩
 case round=>
  clear HI;obtain⟨j,hj,rfl,HS⟩:=hrel;obtain⟨s,hs⟩:∃s,D j=s:=⟨_,rfl⟩;rw [hs] at HS;have Ga:Hid s.Ok:=hid (by rw [<- hs];exact H9 j);have Gn:Hid (D (j+1)=QfL f n s):=hid (by rw [Km.out,hs]);have H2:Hid (j<m ->j<N/\ (j<3 \/0<n - s.x)):=hid (fun h=>by have:=Ko j h;rw [hs] at this;exact this);have H3:Hid (¬j<m ->¬(j<N/\ (j<3 \/0<n - s.x))):=hid (fun h=>by have e:j=m:=(by omega);have:=Kp.out;rw [<- e,hs] at this;exact this);have G3:=hid hs;obtain⟨A,L,y⟩:=s;dsimp only at HS H2 H3;clear hs;obtain⟨CB,G9⟩:∃b,decide (j<m)=b:=⟨_,rfl⟩;have Hi:=hid G9;clear G9;go_upto_region 5 with fail;go_cut [37] from 26 to 101 (fun v U=>v=.bool CB/\ Hid (DrS w U B rb f n y u A L));case first=>
   by_cases h1:j<N
   ·have i1:(j:Int)<(N:Int):=by omega
    by_cases h2:j<3
    ·have i2:(j:Int)<3:=by omega
     have HE:Hid (CB=true):=hid (by rw [<- Hi.out];exact decide_eq_true (Classical.byContradiction fun hn=>H3.out hn ⟨h1,.inl h2⟩));go_wp2_with fail;go_meet;exact⟨by rw [HE.out],HS⟩
    ·have i2:¬(j:Int)<3:=by omega
     have HL:=hid (QmN B rb f n y _ HS.rd);obtain⟨lf,Kd⟩:∃lf,n - y=lf:=⟨_,rfl⟩;rw [Kd] at HL H2 H3;clear Kd;go_wp2_with fail;refine HL.mono ?_;rintro e O ⟨rfl,r5,g5⟩;have Hy:=hid (HS.gro g5 r5);clear r5 g5 HL;by_cases h3:0<lf
     ·have i3:(0:Int)<(lf:Int):=by omega
      have HE:Hid (CB=true):=hid (by rw [<- Hi.out];exact decide_eq_true (Classical.byContradiction fun hn=>H3.out hn ⟨h1,.inr h3⟩));go_wp2_with fail;go_meet;exact⟨by rw [HE.out],Hy⟩
     ·have i3:¬(0:Int)<(lf:Int):=by omega
      have HE:Hid (CB=false):=hid (by rw [<- Hi.out];exact decide_eq_false (fun hn=>by rcases (H2 hn).2 with e|e<;>omega));go_wp2_with fail;go_meet;exact⟨by rw [HE.out],Hy⟩
   ·have i1:¬(j:Int)<(N:Int):=by omega
    have HE:Hid (CB=false):=hid (by rw [<- Hi.out];exact decide_eq_false (fun hn=>h1 (H2 hn).1));go_wp2_with fail;go_meet;exact⟨by rw [HE.out],HS⟩
  case rest=>
   obtain⟨rfl,Ha⟩:=hcut;clear HS H2 H3;obtain⟨k,hk⟩:∃k,rk f n y=k:=⟨_,rfl⟩;have HN:=hid (QaW B rb f n y _ Ha.rd);rw [hk] at HN;have Hx:=hid hk;clear hk;cases CB with
   | false=>
    have Hk:j=m:=by have:=of_decide_eq_false Hi.out;omega
    have ek:k'=k:=by rw [<- Hx.out,<- Kn.out,<- Hk,G3.out]
    subst Hk;subst ek;have Ku:=HT.out;have Gf:k'<256:=by have:=QkH Ha.rd;rw [Hx.out] at this;exact this
    obtain⟨k5,K0⟩:∃k5,k'/5=k5:=⟨_,rfl⟩;obtain⟨H6,Gx⟩:∃H6,k'/16=H6:=⟨_,rfl⟩;have K5:IntKind.i64.wrap ((k':Int)/5)=(k5:Int):=by rw [show (k':Int)/5=(k5:Int) by omega];exact Qan _ (by omega) (by omega)
    have K4:Int.tmod (k5:Int) 3=(t1:Int):=by rw [Int.tmod_eq_emod_of_nonneg (by omega)];omega
    have Kx:IntKind.i64.wrap ((k':Int)/16)=(H6:Int):=by rw [show (k':Int)/16=(H6:Int) by omega];exact Qan _ (by omega) (by omega)
    have Kw:Int.tmod (H6:Int) 3=(t2:Int):=by rw [Int.tmod_eq_emod_of_nonneg (by omega)];omega
    have G8:t1<3:=by omega
    have Ky:t2<3:=by omega
    have i1:(0:Int)<=(t1:Int):=Int.natCast_nonneg _;have i2:(t1:Int)<3:=by omega
    have i3:(0:Int)<=(t2:Int):=Int.natCast_nonneg _;have i4:(t2:Int)<3:=by omega
    clear K0 Gx Gf Ku HT Hi;have G1:Hid (D j=⟨A,L,y⟩):=G3;by_cases h4:k'%5=4
    ·have e4:((k':Int)%5==4)=true:=by simp;omega
     have Gr:=hid (G4 h4);go_wp2_with fail;refine HN.mono ?_;rintro e P ⟨rfl,r2,g2⟩;have g:=hid (Ha.gro g2 r2);clear r2 g2 HN Ha;obtain⟨I,E,Z,G,p0,p1,s1⟩:=g.at G8;obtain⟨la,lc,lx,ld,lb,ls⟩:=g.ls;have l0:=lb.c0;have l1:=lb.c1;have Hg:=hid (Qna g.r1 g.r2 (show w.heap.size≠w.heap.size+1 by omega) (.slice I (A t1).l.length E) (.slice Z (A t1).n G) (.slice la L.l.length lc) (.slice lx L.n ld));have o0:=g.r1.c0;have o1:=g.r1.c1;have of:=g.r1.f;have q0:=Hg.1.c0;have q1:=Hg.1.c1;have qf:=Hg.1.f;have Hr:=hid s1;have Gk:=hid ls;have K1:¬w.heap.size=u:=by have:=g.z1;omega
     have K2:¬w.heap.size+1=u:=by have:=g.z1;omega
     have K6:¬w.heap.size=u+1:=by have:=g.z1;omega
     clear lb s1 ls;go_wp2_with fail;go_region;try go_wp2_with fail
     all_goals
      obtain⟨X1,X2⟩:=Hg.2
      refine zF (v:=.tuple #[.agg #[.slice I (A t1).l.length E,.slice Z (A t1).n G],.agg #[.slice la L.l.length lc,.slice lx L.n ld]]) (by simp [results,Tryz.results11,go_sem,X1.c0,X1.c1,X2.c0,X2.c1]) ?_
      rw [Gr.out,G1.out]
      have z1:=g.z1
      obtain⟨E1,E2⟩:=Qhn g.out (.slice I (A t1).l.length E) (.slice Z (A t1).n G) (.slice la L.l.length lc) (.slice lx L.n ld)
      exact⟨I,E,Z,G,la,lc,lx,ld,rfl,(Qj6 (r1:=w.heap.size) (r2:=w.heap.size+1) Hr.out (by omega) (by omega) (by omega) _ _ _ _).drew,(Qj6 (r1:=w.heap.size) (r2:=w.heap.size+1) Gk.out (by omega) (by omega) (by omega) _ _ _ _).drew,E1.below zI.drew,⟨E2.os,E2.tape,E2.output,E2.size,E2.block⟩⟩
    ·have e4:((k':Int)%5==4)=false:=by simp;omega
     have Gr:=hid (G5 h4);go_wp2_with fail;refine HN.mono ?_;rintro e P ⟨rfl,r2,g2⟩;have g:=hid (Ha.gro g2 r2);clear r2 g2 HN Ha;obtain⟨I,E,Z,G,p0,p1,s1⟩:=g.at G8;obtain⟨a2,c2,x2,d2,l0,l1,s2⟩:=g.at Ky;have Hg:=hid (Qna g.r1 g.r2 (show w.heap.size≠w.heap.size+1 by omega) (.slice I (A t1).l.length E) (.slice Z (A t1).n G) (.slice a2 (A t2).l.length c2) (.slice x2 (A t2).n d2));have o0:=g.r1.c0;have o1:=g.r1.c1;have of:=g.r1.f;have q0:=Hg.1.c0;have q1:=Hg.1.c1;have qf:=Hg.1.f;have Hr:=hid s1;have Gk:=hid s2;have K1:¬w.heap.size=u:=by have:=g.z1;omega
     have K2:¬w.heap.size+1=u:=by have:=g.z1;omega
     clear s1 s2;go_wp2_with fail;go_region;try go_wp2_with fail
     all_goals
      obtain⟨X1,X2⟩:=Hg.2
      refine zF (v:=.tuple #[.agg #[.slice I (A t1).l.length E,.slice Z (A t1).n G],.agg #[.slice a2 (A t2).l.length c2,.slice x2 (A t2).n d2]]) (by simp [results,Tryz.results11,go_sem,X1.c0,X1.c1,X2.c0,X2.c1]) ?_
      rw [Gr.out,G1.out]
      have z1:=g.z1
      obtain⟨E1,E2⟩:=Qhn g.out (.slice I (A t1).l.length E) (.slice Z (A t1).n G) (.slice a2 (A t2).l.length c2) (.slice x2 (A t2).n d2)
      exact⟨I,E,Z,G,a2,c2,x2,d2,rfl,(Qj6 (r1:=w.heap.size) (r2:=w.heap.size+1) Hr.out (by omega) (by omega) (by omega) _ _ _ _).drew,(Qj6 (r1:=w.heap.size) (r2:=w.heap.size+1) Gk.out (by omega) (by omega) (by omega) _ _ _ _).drew,E1.below zI.drew,⟨E2.os,E2.tape,E2.output,E2.size,E2.block⟩⟩
   | true=>
    have Hk:j<m:=of_decide_eq_true Hi.out;have Kz:j<15:=by have:=Kq.out;have:=Kr.out;omega
    obtain⟨r,hr⟩:∃r,k%3=r:=⟨_,rfl⟩;obtain⟨t,ht⟩:∃t,k/8%3=t:=⟨_,rfl⟩;have Hz:r<3:=by omega
    have Gg:t<3:=by omega
    have e0:(k:Int)%3=(r:Int):=by omega
    have e1:(k:Int)/8%3=(t:Int):=by omega
    have r0:(0:Int)<=(r:Int):=Int.natCast_nonneg _;have r1:(r:Int)<3:=by omega
    have t0:(0:Int)<=(t:Int):=Int.natCast_nonneg _;have t1:(t:Int)<3:=by omega
    have Hq:=hid (And.intro hr ht);have Gf:(k:Int)<256:=by have:=QkH Ha.rd;rw [Hx.out] at this;omega
    clear hr ht Hi;by_cases h7:k%8=7
    ·have e7:((k:Int)%8==7)=true:=by simp;omega
     have Ho:Hid (D (j+1)=⟨jnT A r (A r) (A t),L,rx n y⟩):=hid (by
      rw [Gn.out];unfold QfL;dsimp only;rw [Hx.out,if_pos h7,Hq.1,Hq.2])
     go_wp2_with fail;refine HN.mono ?_;rintro e P ⟨rfl,r2,g2⟩;have g:=hid (Ha.gro g2 r2);clear r2 g2 HN Ha;obtain⟨I,E,Z,G,p0,p1,s1⟩:=g.at Hz;obtain⟨a2,c2,x2,d2,q0,q1,s2⟩:=g.at Gg;have Ht:u<P.heap.size:=by have:=g.z3;omega
     have Go:=hid ((Ga.a r).vd);have Gp:=hid ((Ga.a t).vd);obtain⟨V,hV⟩:∃V,jnB (A r) (A t)=V:=⟨_,rfl⟩;obtain⟨J,hJ⟩:∃J,jnZ (A r) (A t)=J:=⟨_,rfl⟩;have Hn:Hid (V=true ->D (j+1)=⟨upA A r J,L,(rx n y)⟩):=hid (fun e=>by rw [Ho.out,<- hJ];unfold jnT;rw [hV,if_pos e,Qmy (hV.trans e)]);have Hm:Hid (V=false ->D (j+1)=⟨A,L,(rx n y)⟩):=hid (fun e=>by rw [Ho.out];unfold jnT;rw [hV,if_neg (by rw [e];simp)]);have Hl:Hid (∀w':World,Below P.heap.size P w' ->Calls Tryz.prog 25 #[.agg #[.slice I (A r).l.length E,.slice Z (A r).n G],.agg #[.slice a2 (A t).l.length c2,.slice x2 (A t).n d2]] w' fun e w''=>∃C Y F H,e=.returned (.tuple #[.agg #[.slice C J.l.length Y,.slice F J.n H],.bool V])/\ SNc w'' w'.heap.size C Y F J/\ Below w'.heap.size w' w''):=hid (fun w' b=>by
      rw [<- hV,<- hJ];exact Qge I Z a2 x2 E G c2 d2 (A r) (A t) w' (Qhc Go.out) (Qhc Gp.out) ⟨(s1.below b).at.1,(s1.below b).at.2⟩ ⟨(s2.below b).at.1,(s2.below b).at.2⟩)
     clear hV hJ Ho;go_upto_region 10 with fail;go_cut [9,10,11] from 26 to 101 (fun p v o U=>∃b C Y F H,p=.int .i64 (r:Int)/\ v=.pointer (some ⟨b,0,none⟩)/\ o=.bool V/\ Hid (DrS w U B rb f n (rx n y) u A L/\ Bx2 U b (.slice C J.l.length Y) (.slice F J.n H)/\ SNc U (u+2) C Y F J));case first=>
      obtain⟨k8,Gy⟩:∃k8,k/8=k8:=⟨_,rfl⟩;have ew:IntKind.i64.wrap ((k:Int)/8)=(k8:Int):=by rw [show (k:Int)/8=(k8:Int) by omega];exact Qan _ (by omega) (by omega)
      have et:Int.tmod (k8:Int) 3=(t:Int):=by rw [Int.tmod_eq_emod_of_nonneg (by omega)];have:=Hq.out;omega
      clear Gy e1 Gf;have He:Hid (∀w':World,Below P.heap.size P w' ->(w'.cell? ⟨u,r*2,none⟩=some (.slice I (A r).l.length E)/\ w'.cell? ⟨u,r*2+1,none⟩=some (.slice Z (A r).n G)/\ w'.cell? ⟨u,t*2,none⟩=some (.slice a2 (A t).l.length c2)/\ w'.cell? ⟨u,t*2+1,none⟩=some (.slice x2 (A t).n d2))):=hid (fun w' b=>⟨(b.cell (p:=⟨u,r*2,none⟩) Ht).trans p0,(b.cell (p:=⟨u,r*2+1,none⟩) Ht).trans p1,(b.cell (p:=⟨u,t*2,none⟩) Ht).trans q0,(b.cell (p:=⟨u,t*2+1,none⟩) Ht).trans q1⟩);refine zR (S:=fun w'=>w'.cell? ⟨u,r*2,none⟩=some (.slice I (A r).l.length E)/\ w'.cell? ⟨u,r*2+1,none⟩=some (.slice Z (A r).n G)/\ w'.cell? ⟨u,t*2,none⟩=some (.slice a2 (A t).l.length c2)/\ w'.cell? ⟨u,t*2+1,none⟩=some (.slice x2 (A t).n d2)) (He _ zI.drew) (fun qh=> ?_);refine tZ 0 48 ?_;refine tZ 1 49 ?_;refine tZ 2 50 ?_;refine tZ 3 51 ?_;refine tZ 4 52 ?_;refine tZ 5 53 ?_;refine tZ 6 54 ?_;refine tZ 7 55 ?_;refine tZ 8 56 ?_;refine tZ 9 57 ?_;refine Qbu (i:=10) (j:=14) (d:=some 58) (d':=some 10) (by kernel_rfl) (by kernel_rfl) (by kernel_rfl) ?_ ?_
      ·
       intro o ho Gz K Q;simp only [gZa,gZb,gZc,gZd] at ho;subst ho;go_simp;refine(Hl _ zI.drew).mono ?_;rintro e O ⟨C,Y,F,H,rfl,sj,b5⟩;have Hd:Below P.heap.size P O:=Qac zI.drew b5;refine Q.out _ _ (He _ Hd) (fun qh=> ?_);clear Q K;try simp only [zP]
       refine tZ 11 47 ?_;refine tZ 12 59 ?_;refine tZ 13 60 ?_;refine cZ 14 ?_;intro K Q;go_simp;obtain⟨U,X⟩:∃U,O.alloc (.cells #[.slice none 0 0,.slice none 0 0] 29)=U:=⟨_,rfl⟩;have Hb:Below O.heap.size O U:=by rw [<- X];exact zO _ _
       have Hc:Bx2 U O.heap.size (.slice none 0 0) (.slice none 0 0):=by rw [<- X];exact Bx2.made _ _ _ _
       have Hs:Below P.heap.size P U:=Qac Hd Hb;have HF:=hid (g.box Hs Hc Hd.size sj zL Hb.size (fun q q1 q2=>⟨by omega,Hb.block q q2⟩) Y H);rw [X];clear X;refine Q.out _ _ (He _ Hs) (fun qh=> ?_);clear Q K;try simp only [zP]
       have Hu:=Hc.c0;have Hv:=Hc.c1;have Hw:=Hc.f;clear Hb Hs Hc sj b5 Hd;refine cZ 15 ?_;intro K Q;go_simp;refine Q.out _ _ (He _ HF.1) (fun qh=> ?_);clear Q K;try simp only [zP]
       clear Hu Hv Hw;refine tZ 16 11 ?_;refine zD ?_;go_wp2_with fail;go_meet;exact⟨_,C,Y,F,H,rfl,rfl,rfl,hid HF.2⟩
      ·
       intro o ho Gz K Q;simp only [gZa,gZb,gZc,gZd] at ho;subst ho;go_simp;obtain⟨U,X⟩:∃U,(P.alloc (.cells #[.slice none 0 0,.slice none 0 0] 29)).drew=U:=⟨_,rfl⟩;have Hb:Below P.heap.size P U:=by rw [<- X];exact(zO _ _).drew
       have Hc:Bx2 U P.heap.size (.slice none 0 0) (.slice none 0 0):=by
        have h0:=Bx2.made P (.slice none 0 0) (.slice none 0 0) 29;rw [<- X];exact h0.below zI.drew h0.lt
       have G0:U.heap.size=P.heap.size+1:=by rw [<- X];simp
       rw [X];clear X;refine Q.out _ _ (He _ Hb) (fun qh=> ?_);clear Q K;try simp only [zP]
       refine cZ 10 ?_;intro K Q;go_simp;refine(Hl _ Hb).mono ?_;rintro e O ⟨C,Y,F,H,rfl,sj,b5⟩;have Hd:Below P.heap.size P O:=Qac Hb b5;have Hf:=Hc.below b5 Hc.lt;have HF:=hid (g.box Hd Hf zL sj (by omega) zL (fun q q1 q2=>⟨by omega,rfl⟩) Y H);refine Q.out _ _ (He _ Hd) (fun qh=> ?_);clear Q K;try simp only [zP]
       refine tZ 11 47 ?_;refine tZ 12 59 ?_;refine tZ 13 60 ?_;have Hu:=Hf.c0;have Hv:=Hf.c1;have Hw:=Hf.f;clear Hb Hc Hf sj b5 Hd G0;refine cZ 15 ?_;intro K Q;go_simp;refine Q.out _ _ (He _ HF.1) (fun qh=> ?_);clear Q K;try simp only [zP]
       clear Hu Hv Hw;refine tZ 16 11 ?_;refine zD ?_;go_wp2_with fail;go_meet;exact⟨_,C,Y,F,H,rfl,rfl,rfl,hid HF.2⟩
     case rest=>
      obtain⟨b,C,Y,F,H,rfl,rfl,rfl,T⟩:=hcut;clear Hl g;cases V with
      | false=>
       have HE:=hid (Hm rfl);clear Hn Hm;have Hp:=hid T.1;clear T;go_wp2_with fail;go_roundw;case rel=>
        exact⟨j+1,Hk,by go_num,by rw [HE.out];exact Hp⟩
       case measure=>simp [intOf];omega
      | true=>
       have HE:=hid (Hn rfl);clear Hn Hm;obtain⟨pa,pc,px,pd,p0,p1,_⟩:=T.1.at (r:=r) Hz;have pf:=T.1.fz;have x0:=T.2.1.c0;have Z:=T.2.1.c1;have Hp:=hid (T.1.setA (r:=r) Hz T.2.2 Y H);clear T;go_wp2_with fail;go_roundw;case rel=>
        exact⟨j+1,Hk,by go_num,by rw [HE.out];exact Hp⟩
       case measure=>simp [intOf];omega
    ·have e7:((k:Int)%8==7)=false:=by simp;omega
     obtain⟨M,Ge⟩:∃M,(acR f n (rx n y) (A r) r).1=M:=⟨_,rfl⟩;obtain⟨z,Hj⟩:∃z,(acR f n (rx n y) (A r) r).2.1=z:=⟨_,rfl⟩;obtain⟨y2,Gh⟩:∃y2,(acR f n (rx n y) (A r) r).2.2=y2:=⟨_,rfl⟩;have Gi:Hid (AcP f n (rx n y) (A r) r M z y2):=hid (by rw [<- Ge,<- Hj,<- Gh];exact Qlg f n (rx n y) (Ga.a r) (by omega));have Gl:Hid (k%8=6 ->D (j+1)=⟨jnT (upA A r M) t (upA A r M t) z,z,y2⟩):=hid (fun h6=>by
      rw [Gn.out];unfold QfL;dsimp only;rw [Hx.out,if_neg h7,if_pos h6,Hq.1,Hq.2,Ge,Hj,Gh])
     have Gm:Hid (¬k%8=6 ->D (j+1)=⟨upA A r M,z,y2⟩):=hid (fun h6=>by
      rw [Gn.out];unfold QfL;dsimp only;rw [Hx.out,if_neg h7,if_neg h6,Hq.1,Ge,Hj,Gh])
     clear Ge Hj Gh;go_wp2_with fail;refine HN.mono ?_;rintro e P ⟨rfl,r2,g2⟩;have g:=hid (Ha.gro g2 r2);clear r2 g2 HN Ha;obtain⟨I,E,Z,G,p0,p1,s1⟩:=g.at Hz;have G2:=hid (Gi.2 B (u+2) rb I Z E G P (by have:=g.z1;have:=g.z5;omega) g.z3 g.rd s1);go_wp2_with fail;refine G2.mono ?_;rintro e O ⟨a5,c5,x5,d5,a6,c6,x6,d6,rfl,s5,s6,r5,g5⟩;have Gs:=hid (g.gro g5 r5);have G7:Hid (u+2<=O.heap.size):=hid Gs.z3;have b6:Below O.heap.size O ((O.alloc (.cells #[.slice a5 M.l.length c5,.slice x5 M.n d5] 29)).alloc (.cells #[.slice a6 z.l.length c6,.slice x6 z.n d6] 29)):=Qak _ _ _;have H4:=hid (Gs.below b6);have Hy:=hid (s5.below b6);have Gq:=hid (s6.below b6);have H7:Hid (Bx2 ((O.alloc (.cells #[.slice a5 M.l.length c5,.slice x5 M.n d5] 29)).alloc (.cells #[.slice a6 z.l.length c6,.slice x6 z.n d6] 29)) O.heap.size (.slice a5 M.l.length c5) (.slice x5 M.n d5)):=hid ((Bx2.made O _ _ _).allocs _);have Gj:Hid (Bx2 ((O.alloc (.cells #[.slice a5 M.l.length c5,.slice x5 M.n d5] 29)).alloc (.cells #[.slice a6 z.l.length c6,.slice x6 z.n d6] 29)) (O.heap.size+1) (.slice a6 z.l.length c6) (.slice x6 z.n d6)):=hid (by simpa using Bx2.made (O.alloc (.cells #[.slice a5 M.l.length c5,.slice x5 M.n d5] 29)) (.slice a6 z.l.length c6) (.slice x6 z.n d6) 29);clear s5 s6 r5 g5 b6 G2 g Gs p0 p1 s1;go_upto_region 14 with fail;obtain⟨W6,Gu⟩:∃W6,((O.alloc (.cells #[.slice a5 M.l.length c5,.slice x5 M.n d5] 29)).alloc (.cells #[.slice a6 z.l.length c6,.slice x6 z.n d6] 29))=W6:=⟨_,rfl⟩;rw [Gu] at H4 Hy Gq H7 Gj;rw [Gu];clear Gu;obtain⟨pa,pc,px,pd,p0,p1,_⟩:=H4.at Hz;have pf:=H4.fz;have x0:=H7.c0;have Z:=H7.c1;have Hh:u≠O.heap.size+1:=by have:=G7.out;omega
     have Gc:=hid (H4.setA Hz Hy.out c5 d5);have H1:=hid ((Gj.setAt ⟨u,r*2,none⟩ (.slice a5 M.l.length c5) Hh).setAt ⟨u,r*2+1,none⟩ (.slice x5 M.n d5) Hh);have Gb:Hid (SNc ((W6.setCell ⟨u,r*2,none⟩ (.slice a5 M.l.length c5)).setCell ⟨u,r*2+1,none⟩ (.slice x5 M.n d5)) (u+2) a6 c6 x6 z):=hid (Gq.move zL (by simp [World.setCell]) (fun q q1 q2=>by rw [zH _ _ _ _ (by simp;omega),zH _ _ _ _ (by simp;omega)]));clear Hh;go_upto_region 15 with fail;obtain⟨W7,Gv⟩:∃W7,((W6.setCell ⟨u,r*2,none⟩ (.slice a5 M.l.length c5)).setCell ⟨u,r*2+1,none⟩ (.slice x5 M.n d5))=W7:=⟨_,rfl⟩;rw [Gv] at Gc H1 Gb;rw [Gv];clear Gv p0 p1 pf x0 Z H4 Hy Gq H7 Gj;obtain⟨la,lc,lx,ld,lb,_⟩:=Gc.ls;have l0:=lb.c0;have l1:=lb.c1;have lf:=lb.f;have x0:=H1.c0;have Z:=H1.c1;have Hh:u+1≠O.heap.size+1:=by have:=G7.out;omega
     have Gd:=hid (Gc.setL Gb.out c6 d6);have H8:=hid ((H1.setAt ⟨u+1,0,none⟩ (.slice a6 z.l.length c6) Hh).setAt ⟨u+1,1,none⟩ (.slice x6 z.n d6) Hh);have G6:Hid (SNc ((W7.setCell ⟨u+1,0,none⟩ (.slice a6 z.l.length c6)).setCell ⟨u+1,1,none⟩ (.slice x6 z.n d6)) (u+2) a6 c6 x6 z):=hid (Gb.move zL (by simp [World.setCell]) (fun q q1 q2=>by rw [zH _ _ _ _ (by simp;omega),zH _ _ _ _ (by simp;omega)]));clear Hh lb;go_upto_region 16 with fail;obtain⟨R,Gw⟩:∃R,((W7.setCell ⟨u+1,0,none⟩ (.slice a6 z.l.length c6)).setCell ⟨u+1,1,none⟩ (.slice x6 z.n d6))=R:=⟨_,rfl⟩;rw [Gw] at Gd H8 G6;rw [Gw];clear Gw l0 l1 lf x0 Z Gc H1 Gb;by_cases h6:k%8=6
     ·have e6:((k:Int)%8==6)=true:=by simp;omega
      have Ho:=hid (Gl h6);clear Gl Gm;have g:=Gd;obtain⟨I,E,Z,G,p0,p1,s1⟩:=g.at Gg;have q0:=H8.c0;have q1:=H8.c1;have s2:=G6.out;have Go:=hid ((Qgk (j:=r) Ga.a Gi.1.1 t).vd);have Gp:=hid (Gi.1.2.vd);have Ht:u<R.heap.size:=by have:=g.z3;omega
      have H5:O.heap.size+1<R.heap.size:=H8.lt;clear Gd;obtain⟨V,hV⟩:∃V,jnB (upA A r M t) z=V:=⟨_,rfl⟩;obtain⟨J,hJ⟩:∃J,jnZ (upA A r M t) z=J:=⟨_,rfl⟩;have Hn:Hid (V=true ->D (j+1)=⟨upA (upA A r M) t J,z,y2⟩):=hid (fun e=>by rw [Ho.out,<- hJ];unfold jnT;rw [hV,if_pos e,Qmy (hV.trans e)]);have Hm:Hid (V=false ->D (j+1)=⟨(upA A r M),z,y2⟩):=hid (fun e=>by rw [Ho.out];unfold jnT;rw [hV,if_neg (by rw [e];simp)]);have Hl:Hid (∀w':World,Below R.heap.size R w' ->Calls Tryz.prog 25 #[.agg #[.slice I (upA A r M t).l.length E,.slice Z (upA A r M t).n G],.agg #[.slice a6 (z).l.length c6,.slice x6 (z).n d6]] w' fun e w''=>∃C Y F H,e=.returned (.tuple #[.agg #[.slice C J.l.length Y,.slice F J.n H],.bool V])/\ SNc w'' w'.heap.size C Y F J/\ Below w'.heap.size w' w''):=hid (fun w' b=>by
       rw [<- hV,<- hJ];exact Qge I Z a6 x6 E G c6 d6 (upA A r M t) (z) w' (Qhc Go.out) (Qhc Gp.out) ⟨(s1.below b).at.1,(s1.below b).at.2⟩ ⟨(s2.below b).at.1,(s2.below b).at.2⟩)
      clear hV hJ Ho;go_upto_region 17 with fail;go_cut [9,14,15] from 26 to 101 (fun p v o U=>∃b C Y F H,p=.int .i64 (r:Int)/\ v=.pointer (some ⟨b,0,none⟩)/\ o=.bool V/\ Hid (DrS w U B rb f n y2 u (upA A r M) z/\ Bx2 U b (.slice C J.l.length Y) (.slice F J.n H)/\ SNc U (u+2) C Y F J));case first=>
       obtain⟨k8,Gy⟩:∃k8,k/8=k8:=⟨_,rfl⟩;have ew:IntKind.i64.wrap ((k:Int)/8)=(k8:Int):=by rw [show (k:Int)/8=(k8:Int) by omega];exact Qan _ (by omega) (by omega)
       have et:Int.tmod (k8:Int) 3=(t:Int):=by rw [Int.tmod_eq_emod_of_nonneg (by omega)];have:=Hq.out;omega
       clear Gy e1 Gf;have He:Hid (∀w':World,Below R.heap.size R w' ->(w'.cell? ⟨u,t*2,none⟩=some (.slice I (upA A r M t).l.length E)/\ w'.cell? ⟨u,t*2+1,none⟩=some (.slice Z (upA A r M t).n G)/\ w'.cell? ⟨O.heap.size+1,0,none⟩=some (.slice a6 z.l.length c6)/\ w'.cell? ⟨O.heap.size+1,1,none⟩=some (.slice x6 z.n d6))):=hid (fun w' b=>⟨(b.cell (p:=⟨u,t*2,none⟩) Ht).trans p0,(b.cell (p:=⟨u,t*2+1,none⟩) Ht).trans p1,(b.cell (p:=⟨O.heap.size+1,0,none⟩) H5).trans q0,(b.cell (p:=⟨O.heap.size+1,1,none⟩) H5).trans q1⟩);refine zR (S:=fun w'=>w'.cell? ⟨u,t*2,none⟩=some (.slice I (upA A r M t).l.length E)/\ w'.cell? ⟨u,t*2+1,none⟩=some (.slice Z (upA A r M t).n G)/\ w'.cell? ⟨O.heap.size+1,0,none⟩=some (.slice a6 z.l.length c6)/\ w'.cell? ⟨O.heap.size+1,1,none⟩=some (.slice x6 z.n d6)) (He _ zI.drew) (fun qh=> ?_);refine tZ 0 85 ?_;refine tZ 1 86 ?_;refine tZ 2 87 ?_;refine tZ 3 88 ?_;refine tZ 4 89 ?_;refine tZ 5 90 ?_;refine tZ 6 91 ?_;refine Qbu (i:=7) (j:=11) (d:=some 92) (d':=some 14) (by kernel_rfl) (by kernel_rfl) (by kernel_rfl) ?_ ?_
       ·
        intro o ho Gz K Q;simp only [gZa,gZb,gZc,gZd] at ho;subst ho;go_simp;refine(Hl _ zI.drew).mono ?_;rintro e O ⟨C,Y,F,H,rfl,sj,b5⟩;have Hd:Below R.heap.size R O:=Qac zI.drew b5;refine Q.out _ _ (He _ Hd) (fun qh=> ?_);clear Q K;try simp only [zP]
        refine tZ 8 84 ?_;refine tZ 9 93 ?_;refine tZ 10 94 ?_;refine cZ 11 ?_;intro K Q;go_simp;obtain⟨U,X⟩:∃U,O.alloc (.cells #[.slice none 0 0,.slice none 0 0] 29)=U:=⟨_,rfl⟩;have Hb:Below O.heap.size O U:=by rw [<- X];exact zO _ _
        have Hc:Bx2 U O.heap.size (.slice none 0 0) (.slice none 0 0):=by rw [<- X];exact Bx2.made _ _ _ _
        have Hs:Below R.heap.size R U:=Qac Hd Hb;have HF:=hid (g.box Hs Hc Hd.size sj zL Hb.size (fun q q1 q2=>⟨by omega,Hb.block q q2⟩) Y H);rw [X];clear X;refine Q.out _ _ (He _ Hs) (fun qh=> ?_);clear Q K;try simp only [zP]
        have Hu:=Hc.c0;have Hv:=Hc.c1;have Hw:=Hc.f;clear Hb Hs Hc sj b5 Hd;refine cZ 12 ?_;intro K Q;go_simp;refine Q.out _ _ (He _ HF.1) (fun qh=> ?_);clear Q K;try simp only [zP]
        clear Hu Hv Hw;refine tZ 13 15 ?_;refine zD ?_;go_wp2_with fail;go_meet;exact⟨_,C,Y,F,H,rfl,rfl,rfl,hid HF.2⟩
       ·
        intro o ho Gz K Q;simp only [gZa,gZb,gZc,gZd] at ho;subst ho;go_simp;obtain⟨U,X⟩:∃U,(R.alloc (.cells #[.slice none 0 0,.slice none 0 0] 29)).drew=U:=⟨_,rfl⟩;have Hb:Below R.heap.size R U:=by rw [<- X];exact(zO _ _).drew
        have Hc:Bx2 U R.heap.size (.slice none 0 0) (.slice none 0 0):=by
         have h0:=Bx2.made R (.slice none 0 0) (.slice none 0 0) 29;rw [<- X];exact h0.below zI.drew h0.lt
        have G0:U.heap.size=R.heap.size+1:=by rw [<- X];simp
        rw [X];clear X;refine Q.out _ _ (He _ Hb) (fun qh=> ?_);clear Q K;try simp only [zP]
        refine cZ 7 ?_;intro K Q;go_simp;refine(Hl _ Hb).mono ?_;rintro e O ⟨C,Y,F,H,rfl,sj,b5⟩;have Hd:Below R.heap.size R O:=Qac Hb b5;have Hf:=Hc.below b5 Hc.lt;have HF:=hid (g.box Hd Hf zL sj (by omega) zL (fun q q1 q2=>⟨by omega,rfl⟩) Y H);refine Q.out _ _ (He _ Hd) (fun qh=> ?_);clear Q K;try simp only [zP]
        refine tZ 8 84 ?_;refine tZ 9 93 ?_;refine tZ 10 94 ?_;have Hu:=Hf.c0;have Hv:=Hf.c1;have Hw:=Hf.f;clear Hb Hc Hf sj b5 Hd G0;refine cZ 12 ?_;intro K Q;go_simp;refine Q.out _ _ (He _ HF.1) (fun qh=> ?_);clear Q K;try simp only [zP]
        clear Hu Hv Hw;refine tZ 13 15 ?_;refine zD ?_;go_wp2_with fail;go_meet;exact⟨_,C,Y,F,H,rfl,rfl,rfl,hid HF.2⟩
      case rest=>
       obtain⟨b,C,Y,F,H,rfl,rfl,rfl,T⟩:=hcut;clear Hl g;cases V with
       | false=>
        have HE:=hid (Hm rfl);clear Hn Hm;have Hp:=hid T.1;clear T;go_wp2_with fail;go_roundw;case rel=>
         exact⟨j+1,Hk,by go_num,by rw [HE.out];exact Hp⟩
        case measure=>simp [intOf];omega
       | true=>
        have HE:=hid (Hn rfl);clear Hn Hm;obtain⟨pa,pc,px,pd,p0,p1,_⟩:=T.1.at (r:=t) Gg;have pf:=T.1.fz;have x0:=T.2.1.c0;have Z:=T.2.1.c1;have Hp:=hid (T.1.setA (r:=t) Gg T.2.2 Y H);clear T;go_wp2_with fail;go_roundw;case rel=>
         exact⟨j+1,Hk,by go_num,by rw [HE.out];exact Hp⟩
        case measure=>simp [intOf];omega
     ·have e6:((k:Int)%8==6)=false:=by simp;omega
      have HE:=hid (Gm h6);clear Gl Gm;go_wp2_with fail;go_roundw;case rel=>
       exact⟨j+1,Hk,by go_num,by rw [HE.out];exact Gd⟩
      case measure=>simp [intOf];omega
def LAt (w:World)(b off:Nat)(l:List Lf)(i m:Nat):Prop:=b<w.heap.size/\∀t,t<m ->∃qa qc,w.cell? ⟨b,off+t*5,none⟩=some (.slice qa (gL l (i+t)).p.length qc)/\ QaT w qa (gL l (i+t)).p/\ w.cell? ⟨b,off+t*5+1,none⟩=some (.bool (gL l (i+t)).fl)/\ w.cell? ⟨b,off+t*5+2,none⟩=some (.int .i64 (gL l (i+t)).r)/\ w.cell? ⟨b,off+t*5+3,none⟩=some (.int .i64 (gL l (i+t)).q)/\ w.cell? ⟨b,off+t*5+4,none⟩=some (.string (gL l (i+t)).v)
theorem LAt.below {w w':World}{b off i m:Nat}{l:List Lf}(h:LAt w b off l i m)(hb:Below w.heap.size w w'):LAt w' b off l i m:=
 ⟨Nat.lt_of_lt_of_le h.1 hb.size,fun t ht=>by
  obtain⟨y,z,j,k,q,r,u,v⟩:=h.2 t ht;exact⟨y,z,(hb.cell (p:=⟨b,_,none⟩) h.1).trans j,k.below hb,(hb.cell (p:=⟨b,_,none⟩) h.1).trans q,(hb.cell (p:=⟨b,_,none⟩) h.1).trans r,(hb.cell (p:=⟨b,_,none⟩) h.1).trans u,(hb.cell (p:=⟨b,_,none⟩) h.1).trans v⟩⟩
theorem LAt.take {w:World}{b off i m k:Nat}{l:List Lf}(h:LAt w b off l i m)(hk:k<=m):LAt w b off l i k:=⟨h.1,fun t ht=>h.2 t (by omega)⟩
theorem LAt.drop {w:World}{b off i m k:Nat}{l:List Lf}(h:LAt w b off l i m)(hk:k<=m):LAt w b (off+k*5) l (i+k) (m - k):=⟨h.1,fun t ht=>by
 have:=h.2 (k+t) (by omega);rw [show off+(k+t)*5=off+k*5+t*5 by omega,show i+(k+t)=i+k+t by omega] at this;exact this⟩
def kAt (d n:Nat)(fl:Bool):Int:=if d+1<n then 3 else kd fl
theorem QgG (pa:Option Addr)(n pc:Nat)(fl:Bool)(r q:Int)(v:ByteArray)(d:Nat)(w:World)(hn:n<=1048576)(hd:d<=1000):
  Calls Tryz.prog 62 #[.agg #[.slice pa n pc,.bool fl,.int .i64 r,.int .i64 q,.string v],.int .i64 (d:Int)] w fun e w'=>e=.returned (.int .i64 (kAt d n fl))/\ Below w.heap.size w w':=by
 have k:=hid (zO w (.cells #[.slice pa n pc,.bool fl,.int .i64 r,.int .i64 q,.string v] 77));by_cases h:d+1<n
 ·have m:(d:Int)+1<(n:Int):=by omega
  have j:Hid (kAt d n fl=3):=hid (if_pos h);go_enter Tryz.func62,Tryz.ntmps62;go_wp2_with fail;go_ret;exact⟨by rw [j.out];rfl,k.out⟩
 ·have m:¬(d:Int)+1<(n:Int):=by omega
  cases fl with
  | true=>
   have j:Hid (kAt d n true=2):=hid (if_neg h);go_enter Tryz.func62,Tryz.ntmps62;go_wp2_with fail;go_ret;exact⟨by rw [j.out];rfl,k.out⟩
  | false=>
   have j:Hid (kAt d n false=1):=hid (if_neg h);go_enter Tryz.func62,Tryz.ntmps62;go_wp2_with fail;go_ret;exact⟨by rw [j.out];rfl,k.out⟩
theorem Qkz (l:List Lf)(b off i m c d:Nat)(w:World)(hm:1<=m)(hm2:m<=1048576)(hd:d<=1000)(hp:∀t,t<m ->d<(gL l (i+t)).p.length/\ (gL l (i+t)).p.length<=1048576)(h:LAt w b off l i m):
  Calls Tryz.prog 61 #[.slice (some ⟨b,off,none⟩) m c,.int .i64 (d:Int)] w fun e w'=>(∃g:Nat,e=.returned (.int .i64 (g:Int))/\ 1<=g/\ g<=m/\ (∀t,t<g ->Qau (gL l (i+t)).p (kd (gL l (i+t)).fl) d=Qau (gL l i).p (kd (gL l i).fl) d)/\ (g<m ->Qau (gL l (i+g)).p (kd (gL l (i+g)).fl) d≠Qau (gL l i).p (kd (gL l i).fl) d))/\ Below w.heap.size w w':=by
 have HL:=hid h;have HP:=hid hp;clear h hp;go_enter Tryz.func61,Tryz.ntmps61;go_wp2_with fail;go_loopw [5] (fun i' wr=>∃k:Nat,k<=m/\ i'=.int .i64 k/\ Hid (∀t,t<k ->Qau (gL l (i+t)).p (kd (gL l (i+t)).fl) d=Qau (gL l i).p (kd (gL l i).fl) d)/\ Hid (Below w.heap.size w wr)) (fun i' _=>m - (intOf i').toNat);case atStart=>exact⟨0,Nat.zero_le _,rfl,hid (fun t ht=>by omega),hid zI⟩
 case round=>
  obtain⟨k,hk,rfl,HE,M⟩:=hrel;by_cases Hf:k<m
  ·have B:=HL.below M.out;obtain⟨qa,kc,G,hs,C,D,F,P⟩:=B.2 k Hf;obtain⟨qz,zc,o,gs,Q,U,V,Y⟩:=B.2 0 (by omega);have W:=HP k Hf;have J:=HP 0 (by omega);simp only [Nat.add_zero,Nat.zero_mul] at o gs Q U V Y J;rcases hs with hs|⟨A,L,rfl,Hu,Hn⟩
   ·omega
   rcases gs with gs|⟨E,N,rfl,Hv,Hq⟩
   ·omega
   have H:=Hn d W.1;have Z:=Hq d J.1;have Ha:Hid (k=0 ->gL l (i+k)=gL l i):=hid (fun e=>by rw [e,Nat.add_zero]);have q:Hid (Qau (gL l (i+k)).p (kd (gL l (i+k)).fl) d=Qau (gL l i).p (kd (gL l i).fl) d↔gS (gL l (i+k)).p d=gS (gL l i).p d/\ kAt d (gL l (i+k)).p.length (gL l (i+k)).fl=kAt d (gL l i).p.length (gL l i).fl):=hid (by unfold Qau kAt;exact Prod.mk.injEq _ _ _ _ ▸ Iff.rfl);have Hd:Hid (Qau (gL l (i+k)).p (kd (gL l (i+k)).fl) d≠Qau (gL l i).p (kd (gL l i).fl) d ->1<=k):=hid (fun hne=>by
    rcases Nat.eq_zero_or_pos k with e|e
    ·exact absurd (by rw [Ha e]) hne
    ·exact e)
   have Hk:Hid (∀v,Qau (gL l (i+k)).p (kd (gL l (i+k)).fl) d≠Qau (gL l i).p (kd (gL l i).fl) d ->v=k ->(1<=v/\ v<=m/\ (∀t,t<v ->Qau (gL l (i+t)).p (kd (gL l (i+t)).fl) d=Qau (gL l i).p (kd (gL l i).fl) d)/\ (v<m ->Qau (gL l (i+v)).p (kd (gL l (i+v)).fl) d≠Qau (gL l i).p (kd (gL l i).fl) d))):=hid (fun v h e=>by subst e;exact⟨Hd.out h,hk,HE.out,fun _=>h⟩);have Hr:Hid (Qau (gL l (i+k)).p (kd (gL l (i+k)).fl) d=Qau (gL l i).p (kd (gL l i).fl) d ->∀t,t<k+1 ->Qau (gL l (i+t)).p (kd (gL l (i+t)).fl) d=Qau (gL l i).p (kd (gL l i).fl) d):=hid (fun h t ht=>by
    by_cases e:t=k
    ·subst e;exact h
    ·exact HE t (by omega))
   obtain⟨X,hX⟩:∃X,(Qau (gL l (i+k)).p (kd (gL l (i+k)).fl) d=Qau (gL l i).p (kd (gL l i).fl) d)=X:=⟨_,rfl⟩;have HX:=hid hX;rw [hX] at q;clear Hn Hq;obtain⟨yk,Ho⟩:∃y,gL l (i+k)=y:=⟨_,rfl⟩;obtain⟨yz,Hp⟩:∃y,gL l i=y:=⟨_,rfl⟩;rw [Ho] at G C D F P H W q;rw [Hp] at o Q U V Y Z J q;clear Ho Hp;obtain⟨kp,kf,kr,kq,kv⟩:=yk;obtain⟨zp,zf,zr,zq,zv⟩:=yz;dsimp only at G C D F P H W o Q U V Y Z J q;clear hX;obtain⟨s,Hg⟩:∃s,gS kp d=s:=⟨_,rfl⟩;obtain⟨z,Hh⟩:∃z,gS zp d=z:=⟨_,rfl⟩;obtain⟨r,He⟩:∃r,kp.length=r:=⟨_,rfl⟩;obtain⟨u,Hi⟩:∃u,zp.length=u:=⟨_,rfl⟩;rw [Hg,Hh,He,Hi] at q;rw [Hg] at H;rw [Hh] at Z;rw [He] at G W;rw [Hi] at o J;have i1:(0:Int)<=(k:Int):=Int.natCast_nonneg _;have i2:(k:Int)<(m:Int):=by omega
   have i3:(0:Int)<=(d:Int):=Int.natCast_nonneg _;have i4:(d:Int)<(r:Int):=by omega
   have i5:(d:Int)<(u:Int):=by omega
   have i6:(0:Int)<(m:Int):=by omega
   have i7:0<m:=by omega
   have j:b<wr.heap.size:=B.1;clear Hg Hh He Hi B;have dk:decide ((k:Int)<(m:Int))=true:=by simp;omega
   have Ht:decide (k<m)=true:=by simp;omega
   go_wp2_with fail;cases hsz:(s.toList==z.toList) with
   | false=>
    have O:Hid (¬X):=hid (fun h=>by rw [(q.1 h).1] at hsz;simp at hsz);go_quiet (fail);have Hb:=hid (Qaz M.out nq);go_wp2_with fail;go_ret;exact⟨⟨k,rfl,Hk.out k (fun h=>O.out (by rw [<- HX.out];exact h)) rfl⟩,Hb.out⟩
   | true=>
    have Hs:Hid (s=z):=hid (toList_inj (by simpa using hsz));have Hc:Hid (∀w',Below wr.heap.size wr w' ->(Below wr.heap.size wr w'/\ w'.cell? ⟨b,off+k*5,none⟩=some (.slice (some ⟨A,L,none⟩) r kc)/\ w'.cell? ⟨b,off+k*5+1,none⟩=some (.bool kf)/\ w'.cell? ⟨b,off+k*5+2,none⟩=some (.int .i64 kr)/\ w'.cell? ⟨b,off+k*5+3,none⟩=some (.int .i64 kq)/\ w'.cell? ⟨b,off+k*5+4,none⟩=some (.string kv)/\ w'.cell? ⟨A,L+d,none⟩=some (.string s)/\ w'.cell? ⟨b,off,none⟩=some (.slice (some ⟨E,N,none⟩) u zc)/\ w'.cell? ⟨b,off+1,none⟩=some (.bool zf)/\ w'.cell? ⟨b,off+2,none⟩=some (.int .i64 zr)/\ w'.cell? ⟨b,off+3,none⟩=some (.int .i64 zq)/\ w'.cell? ⟨b,off+4,none⟩=some (.string zv)/\ w'.cell? ⟨E,N+d,none⟩=some (.string z))):=hid (fun w' hB=>⟨hB,(hB.cell (p:=⟨b,_,none⟩) j).trans G,(hB.cell (p:=⟨b,_,none⟩) j).trans C,(hB.cell (p:=⟨b,_,none⟩) j).trans D,(hB.cell (p:=⟨b,_,none⟩) j).trans F,(hB.cell (p:=⟨b,_,none⟩) j).trans P,(hB.cell (p:=⟨A,_,none⟩) Hu).trans H,(hB.cell (p:=⟨b,_,none⟩) j).trans o,(hB.cell (p:=⟨b,_,none⟩) j).trans Q,(hB.cell (p:=⟨b,_,none⟩) j).trans U,(hB.cell (p:=⟨b,_,none⟩) j).trans V,(hB.cell (p:=⟨b,_,none⟩) j).trans Y,(hB.cell (p:=⟨E,_,none⟩) Hv).trans Z⟩);clear G C D F P H o Q U V Y Z;refine zR (S:=fun w'=>Below wr.heap.size wr w'/\ w'.cell? ⟨b,off+k*5,none⟩=some (.slice (some ⟨A,L,none⟩) r kc)/\ w'.cell? ⟨b,off+k*5+1,none⟩=some (.bool kf)/\ w'.cell? ⟨b,off+k*5+2,none⟩=some (.int .i64 kr)/\ w'.cell? ⟨b,off+k*5+3,none⟩=some (.int .i64 kq)/\ w'.cell? ⟨b,off+k*5+4,none⟩=some (.string kv)/\ w'.cell? ⟨A,L+d,none⟩=some (.string s)/\ w'.cell? ⟨b,off,none⟩=some (.slice (some ⟨E,N,none⟩) u zc)/\ w'.cell? ⟨b,off+1,none⟩=some (.bool zf)/\ w'.cell? ⟨b,off+2,none⟩=some (.int .i64 zr)/\ w'.cell? ⟨b,off+3,none⟩=some (.int .i64 zq)/\ w'.cell? ⟨b,off+4,none⟩=some (.string zv)/\ w'.cell? ⟨E,N+d,none⟩=some (.string z)) (Hc _ zI.drew) (fun qh=> ?_);refine tZ 0 6 ?_;refine tZ 1 7 ?_;refine tZ 2 8 ?_;refine tZ 3 9 ?_;refine tZ 4 10 ?_;refine tZ 5 11 ?_;refine tZ 6 12 ?_;refine tZ 7 13 ?_;refine tZ 8 14 ?_;refine tZ 9 15 ?_;refine tZ 10 16 ?_;refine tZ 11 17 ?_;refine tZ 12 18 ?_;refine tZ 13 19 ?_;refine tZ 14 20 ?_;refine tZ 15 21 ?_;refine tZ 16 22 ?_;refine tZ 17 23 ?_;refine tZ 18 24 ?_;refine tZ 19 25 ?_;refine tZ 20 26 ?_;refine tZ 21 27 ?_;refine tZ 22 28 ?_;refine tZ 23 29 ?_;refine tZ 24 30 ?_;refine tZ 25 31 ?_;refine tZ 26 32 ?_;refine tZ 27 33 ?_;refine tZ 29 35 ?_;refine tZ 30 36 ?_;refine tZ 31 37 ?_;refine tZ 32 38 ?_;refine cZ 28 ?_;intro K I;go_simp;refine(QgG (some ⟨A,L,none⟩) r kc kf kr kq kv d _ (by omega) hd).mono ?_;rintro e w1 ⟨rfl,b1⟩;have R:=Qac qh.1 b1;refine I.out _ _ (Hc _ R) (fun qh=> ?_);clear I K;try simp only [zP]
    refine cZ 33 ?_;intro K I;go_simp;refine(QgG (some ⟨E,N,none⟩) u zc zf zr zq zv d _ (by omega) hd).mono ?_;rintro e w2 ⟨rfl,b2⟩;have T:=Qac R b2;refine I.out _ _ (Hc _ T) (fun qh=> ?_);clear I K;try simp only [zP]
    have Hj:=hid (M.trans (T.mono M.size));obtain⟨K1,Hl⟩:∃K1,kAt d r kf=K1:=⟨_,rfl⟩;obtain⟨K2,Hm⟩:∃K2,kAt d u zf=K2:=⟨_,rfl⟩;rw [Hl,Hm] at q ⊢;clear Hl Hm b1 b2;cases hkk:(K1==K2) with
    | false=>
     refine tZ 34 40 ?_;refine tZ 35 41 ?_;refine zD ?_;have O:Hid (¬X):=hid (fun h=>by rw [(q.1 h).2] at hkk;simp at hkk);clear qh R T;go_wp2_with fail;go_ret;exact⟨⟨k,rfl,Hk.out k (fun h=>O.out (by rw [<- HX.out];exact h)) rfl⟩,Hj.out⟩
    | true=>
     refine tZ 34 40 ?_;refine tZ 35 41 ?_;refine zD ?_;have O:Hid X:=hid (q.2 ⟨Hs.out,by simpa using hkk⟩);clear qh R T;go_wp2_with fail;go_roundw;case rel=>exact⟨k+1,Hf,by go_num,hid (Hr (by rw [HX.out];exact O.out)),Hj⟩
     case measure=>simp [intOf];omega
  ·obtain rfl:k=m:=by omega
   have dk:decide ((k:Int)<(k:Int))=false:=by simp
   have Ht:decide (k<k)=false:=by simp
   go_wp2_with fail;go_quiet (fail);have Hb:=hid (Qaz M.out nq);go_wp2_with fail;go_ret;exact⟨⟨k,rfl,hm,Nat.le_refl _,HE.out,fun h=>by omega⟩,Hb.out⟩
theorem Qpg (B B':Nat)(v x:Value)(zs ns:List Int)(w:World)(ho:Own w B v zs)(hx:Own w B' x ns)(hxn:x.ownBlock≠none)(hB:B<=w.heap.size)(hl:zs.length+ns.length<=1000000000):
  ∃v' w',(Builtin.append_ #[22,22] 22 #[v,x]).run Tryz.prog w=.ok v' w'/\ Own w' B v' (zs++ns)/\ Gr w w' v v'/\ (v.ownBlock≠none ->v'.ownBlock≠none):=by
 have m:w.ownsRow B' 5 1 x ns.length (ns.map (Value.int .u8)):=hx;rcases m.2 with ⟨rfl,_⟩|⟨g,cap,u,rfl,_⟩
 ·exact absurd rfl hxn
 obtain⟨v',w',q,r,j⟩:=Qcl B v zs ns ⟨g,0,none⟩ ns.length cap w ho rfl (World.ownsRow.cells m rfl) hB (by omega);refine⟨v',w',q,r,j,fun hv=> ?_⟩;rcases j.l with e|⟨k,e,_⟩
 ·rw [e];exact hv
 ·rw [e];simp
theorem Ql6 {w:World}{B:Nat}{v:Value}{zs:List Int}(h:Own w B v zs)(hz:0<zs.length):v.ownBlock≠none:=by
 obtain⟨m,j⟩:=h;rcases j with ⟨_,j⟩|⟨g,cap,k,rfl,_⟩
 ·omega
 ·simp [Value.ownBlock]
theorem QlH (l:List Lf)(f:Nat)(p:List ByteArray):0<(tB l (f+1) p).length:=by
 rw [Qf1,List.length_append];have:=(Qah 9 (kS l p l.length).length).2;omega
theorem QiW (l:List Lf)(p:List ByteArray)(k:Nat):∀j,k<=j ->kS l p k <+:kS l p j
 | 0,h=>by rw [show k=0 by omega];exact List.prefix_refl _
 | j+1,h=>by
  by_cases e:k=j+1
  ·rw [e];exact List.prefix_refl _
  ·have m:=QiW l p k j (by omega);cases h1:nx p (gL l j) with
   | none=>rw [Qc2 h1];exact m
   | some y=>
    rw [Qc3 h1];split
    ·exact m
    ·exact m.trans (List.prefix_append _ _)
theorem Qhp {α:Type}(f:α ->List Int){a b:List α}(h:a <+:b):(a.flatMap f).length<=(b.flatMap f).length:=by
 obtain⟨c,rfl⟩:=h;rw [List.flatMap_append,List.length_append];omega
structure Bd (w wr:World)(body:Value)(zs:List Int):Prop where
 b:Below w.heap.size w wr
 o:Own wr w.heap.size body zs
 n:body.ownBlock≠none
theorem Bd.keep {w wr w1:World}{body:Value}{zs:List Int}(h:Bd w wr body zs)(hb:Below wr.heap.size wr w1):Bd w w1 body zs:=
 ⟨h.b.trans (hb.mono h.b.size),Own.kept h.o hb (fun k hk=>(World.ownsRow.lt h.o k hk).2),h.n⟩
theorem Bd.app {w wr w1:World}{body v:Value}{zs ns:List Int}(h:Bd w wr body zs)(hb:Below wr.heap.size wr w1)(ho:Own w1 wr.heap.size v ns)(hz:0<ns.length)(hl:zs.length+ns.length<=1000000000):
  ∃v' m,(Builtin.append_ #[22,22] 22 #[body,v]).run Tryz.prog w1=.ok v' m/\ Bd w m v' (zs++ns):=by
 have j:=h.keep hb;obtain⟨v',m,e,u,q,r⟩:=Qpg w.heap.size wr.heap.size body v zs ns w1 j.o ho (Ql6 ho hz) j.b.size hl;exact⟨v',m,e,j.b.trans (q.below j.b.size (fun k hk=>(World.ownsRow.lt j.o k hk).1)),u,r h.n⟩
theorem Bd.byte {w wr:World}{body:Value}{zs:List Int}(h:Bd w wr body zs)(Y:Int)(hl:zs.length<=1000000000):
  ∃v' m,(Builtin.append_ #[22,22] 22 #[body,.slice (some ⟨wr.heap.size,0,none⟩) 1 1]).run Tryz.prog (wr.alloc (.cells #[.int .u8 Y] 5))=.ok v' m/\ Bd w m v' (zs++[Y]):=by
 have v:Below wr.heap.size wr (wr.alloc (.cells #[.int .u8 Y] 5)):=zO _ _;have j:=h.keep v;obtain⟨v',m,e,y,r⟩:=Qcl w.heap.size body zs [Y] ⟨wr.heap.size,0,none⟩ 1 1 (wr.alloc (.cells #[.int .u8 Y] 5)) j.o rfl (fun i u hu=>cell_one_new _ _ _ i u hu) j.b.size (by omega);refine⟨v',m,e,j.b.trans (r.below j.b.size (fun k hk=>(World.ownsRow.lt j.o k hk).1)),y,?_⟩;rcases r.l with q|⟨k,q,_⟩
 ·rw [q];exact h.n
 ·rw [q];simp
theorem Qmm {R F T:Nat ->Int}{n:Nat}{l:List Lf}{p:List ByteArray}{i e J g:Nat}{y:Ky}(hlv:QbS R F T n l l.length)(hI:Iv l p i e)(hij:i<=J)(hfr:y ∉ kS l p J)(h1:1<=g)(hge:J+g<=e)(hy:Qau (gL l J).p (kd (gL l J).fl) p.length=y)(hsame:∀t,t<g ->Qau (gL l (J+t)).p (kd (gL l (J+t)).fl) p.length=y)(hdiff:J+g<e ->Qau (gL l (J+g)).p (kd (gL l (J+g)).fl) p.length≠y):
  kS l p (J+g)=kS l p J++[y]/\ dsK l p y l.length=((List.range g).map fun t=>gL l (J+t))/\ (∀s,y=(s,3) ->Iv l (p++[s]) J (J+g))/\∀z,nx p (gL l (J+g))=some z ->J+g<e ->z ∉ kS l p (J+g):=by
 have q:=hI.2.2;have j:∀t,t<g ->nx p (gL l (J+t))=some y:=fun t ht=>by
  rw [Qbi];exact⟨Qfo.1 ((hI.1 (J+t) (by omega)).2 (by omega)),hsame t ht⟩
 have m:J+g<e ->nx p (gL l (J+g))≠some y:=fun hlt he=>by
  rw [Qbi] at he;exact hdiff hlt he.2
 have k:=Qkq hlv hI hij hfr h1 hge j m;refine⟨?_,Qko k (by omega),fun s es=>by subst es;exact Qmn k (by omega),fun z hz hlt=>Qkp hlv hI hfr h1 hge j m hlt hz⟩;have:=Qfe hfr j (g - 1) (by omega);rwa [show J+(g - 1+1)=J+g by omega] at this
theorem Bd.made (w:World):Bd w (w.alloc (.cells #[] 5)) (.slice (some ⟨w.heap.size,0,none⟩) 0 0) []:=by
 refine⟨zO _ _,?_,by simp [Value.ownBlock]⟩;have:=World.ownsRow_lit (base:=w.heap.size) (e:=5) (size:=1) w #[] 0 (by omega) (by unfold maxLen;omega) rfl;simpa [Own] using this
theorem Bd.front {w wr w1:World}{body u:Value}{zs ns:List Int}(h:Bd w wr body zs)(hb:Below wr.heap.size wr w1)(ho:Own w1 wr.heap.size u ns)(hl:ns.length+zs.length<=1000000000):
  ∃v' j,(Builtin.append_ #[22,22] 22 #[u,body]).run Tryz.prog w1=.ok v' j/\ Own j w.heap.size v' (ns++zs)/\ Below w.heap.size w j:=by
 have m:=h.keep hb;have q:=Own.weak ho h.b.size;obtain⟨v',j,e,v,r,y⟩:=Qpg w.heap.size w.heap.size u body ns zs w1 q m.o h.n m.b.size hl;exact⟨v',j,e,v,m.b.trans (r.below m.b.size (fun k hk=>(World.ownsRow.lt q k hk).1))⟩
structure Lp (l:List Lf)(p:List ByteArray)(w:World)(J M:Nat)(a:Option Addr)(c:Nat):Prop where
 c1:M<=c
 c2:c<=9223372036854775807
 a1:0<M ->∃b o,a=some ⟨b,o,none⟩/\ LAt w b o l J M
 fr:0<M ->∀y,nx p (gL l J)=some y ->y ∉ kS l p J
def QmS:Value ->Nat
 | .slice _ n _=>n
 | _=>0
theorem Qid {R F T:Nat ->Int}{n:Nat}(l:List Lf)(hlv:QbS R F T n l l.length)(hbd:LvB l)(f:Nat)(p:List ByteArray)(hpf:p.length+(f+1)=8)
  (ih:∀(s:ByteArray),1<=f ->∀(i m c:Nat) (a:Option Addr) (w:World),m<=c ->c<=9223372036854775807 ->Iv l (p++[s]) i (i+m) ->(0<m ->∃b off,a=some ⟨b,off,none⟩/\ LAt w b off l i m) ->(tB l f (p++[s])).length<=90000000 ->
   Calls Tryz.prog 29 #[.slice a m c,.int .i64 ((p++[s]).length:Int)] w fun e w'=>∃v,e=.returned v/\ Own w' w.heap.size v (tB l f (p++[s]))/\ Below w.heap.size w w')
  (i m c:Nat) (a:Option Addr) (w:World) (hmc:m<=c) (hcm:c<=9223372036854775807) (hI:Iv l p i (i+m)) (hL:0<m ->∃b off,a=some ⟨b,off,none⟩/\ LAt w b off l i m) (hl:(tB l (f+1) p).length<=90000000):
  Calls Tryz.prog 29 #[.slice a m c,.int .i64 (p.length:Int)] w fun e w'=>∃v,e=.returned v/\ Own w' w.heap.size v (tB l (f+1) p)/\ Below w.heap.size w w':=by
  obtain⟨TB,Gn⟩:∃TB,tB l (f+1) p=TB:=⟨_,rfl⟩;rw [Gn] at hl ⊢;have Gk:Hid (uvF 9 (kS l p l.length).length++(kS l p l.length).flatMap (kB l f p)=TB):=hid (by rw [<- Gn,Qf1]);have Hm:=hid hI;have HL:=hid hL;obtain⟨d,hd⟩:∃d,p.length=d:=⟨_,rfl⟩;have HD:=hid hd;have G8:Hid (∀(s:ByteArray),1<=f ->∀(i m c:Nat) (a:Option Addr) (w:World),m<=c ->c<=9223372036854775807 ->Iv l (p++[s]) i (i+m) ->(0<m ->∃b off,a=some ⟨b,off,none⟩/\ LAt w b off l i m) ->(tB l f (p++[s])).length<=90000000 ->
   Calls Tryz.prog 29 #[.slice a m c,.int .i64 ((d:Int)+1)] w fun e w'=>∃v,e=.returned v/\ Own w' w.heap.size v (tB l f (p++[s]))/\ Below w.heap.size w w'):=hid (fun s hf i m c a w j k G h4 h5=>by
    have:=ih s hf i m c a w j k G h4 h5;rw [show (((p++[s]).length:Nat):Int)=(d:Int)+1 by simp;omega] at this;exact this)
  rw [hd] at hpf ⊢;have Kf:m<=1000:=by have:=hI.2;have:=hbd.len;omega
  clear Gn hI hL hd ih;go_enter Tryz.func29,Tryz.ntmps29;go_wp2_with fail;go_loopw [0,5,6] (fun lv cv bd wr=>∃(J M E:Nat) (a':Option Addr),Hid (i<=J/\ J+M=i+m)/\ lv=.slice a' M E/\ cv=.int .i64 ((kS l p J).length:Nat)/\ Hid (Lp l p w J M a' E)/\ Hid (Bd w wr bd ((kS l p J).flatMap (kB l f p)))) (fun lv _ _ _=>QmS lv);case atStart=>
   have e:=Hm.start i zL;refine⟨i,m,c,a,hid ⟨Nat.le_refl _,rfl⟩,rfl,by rw [e];rfl,hid ⟨hmc,hcm,HL.out,fun _ y _=>by rw [e];simp⟩,hid ?_⟩;rw [e];exact Bd.made w
  case round=>
   obtain⟨J,M,E,a',u,rfl,rfl,Hv,Hi⟩:=hrel;clear HL;by_cases Gh:0<M
   ·obtain⟨b,o,rfl,H6⟩:=Hv.a1 Gh;have Hz:=hid H6;have hM:M<=1000:=by have:=u.out;omega
    have Hl:Hid (i+m<=l.length/\ l.length<=1000):=hid ⟨Hm.2.2,hbd.len⟩;have HP:Hid (∀t,t<M ->d<(gL l (J+t)).p.length/\ (gL l (J+t)).p.length<=8):=hid (fun t ht=>by
     have hJ:=u.out;have he:=Hl.out;have j:=Qfo.1 ((Hm.1 (J+t) (by omega)).2 (by omega));rw [HD.out] at j;exact⟨j.2,(hlv (J+t) (by omega)).1.1.2.1⟩)
    have Hy:=HP 0 Gh;have G9:Hid (QbW (gL l J)):=hid ((hlv J (by have:=u.out;have:=Hl.out;omega)).1);obtain⟨qa,qc,h0,hs,j,k,G,h4⟩:=H6.2 0 Gh;simp only [Nat.add_zero,Nat.zero_mul] at h0 hs j k G h4 Hy;rcases hs with hs|⟨kb,ko,rfl,G4,G5⟩
    ·omega
    have h5:=G5 d Hy.1;have Hx:=H6.1;have Gd:=hid (Hv.fr Gh);have H0:Hid (nx p (gL l J)=some (Qau (gL l J).p (kd (gL l J).fl) d)):=hid (by
     have hJ:=u.out;have he:=Hl.out;have j:=Qfo.1 ((Hm.1 J (by omega)).2 (by omega));rw [Qbi];exact⟨j,by rw [HD.out]⟩)
    have Gr:(gS (gL l J).p d).size<=40:=(G9.1.2.2 d Hy.1).2;have Hr:=hid (Qkz l b o J M E d wr (by omega) (by omega) (by omega) (fun t ht=>by have:=HP t ht;omega) (H6.below Hi.b));have Gg:Hid (Qau (gL l J).p (kd (gL l J).fl) d=(gS (gL l J).p d,kAt d (gL l J).p.length (gL l J).fl)):=hid rfl;have Gf:Hid (kAt d (gL l J).p.length (gL l J).fl=1 \/kAt d (gL l J).p.length (gL l J).fl=2 \/(kAt d (gL l J).p.length (gL l J).fl=3/\ 1<=f)):=hid (by
     unfold kAt;split
     ·exact .inr (.inr ⟨rfl,by omega⟩)
     ·rcases QgB (gL l J).fl with h|h
      ·exact .inl h
      ·exact .inr (.inl h))
    have N:Hid ((kS l p J).length<=1000/\ ((kS l p J).flatMap (kB l f p)).length<=90000000):=hid ⟨by have:=Qe8 l p J;have hJ:=u.out;have he:=Hl.out;omega,by
     have j:=Qhp (kB l f p) (QiW l p J l.length (by have hJ:=u.out;have he:=Hl.out;omega));have k:TB.length<=90000000:=hl;rw [<- Gk.out,List.length_append] at k;omega⟩
    have Hs:Hid (∀g,1<=g ->g<=M ->(∀t,t<g ->Qau (gL l (J+t)).p (kd (gL l (J+t)).fl) d=Qau (gL l J).p (kd (gL l J).fl) d) ->(g<M ->Qau (gL l (J+g)).p (kd (gL l (J+g)).fl) d≠Qau (gL l J).p (kd (gL l J).fl) d) ->
      kS l p (J+g)=kS l p J++[Qau (gL l J).p (kd (gL l J).fl) d]/\ dsK l p (Qau (gL l J).p (kd (gL l J).fl) d) l.length=((List.range g).map fun t=>gL l (J+t))/\ (∀s,Qau (gL l J).p (kd (gL l J).fl) d=(s,3) ->Iv l (p++[s]) J (J+g))/\ (g<M ->∀z,nx p (gL l (J+g))=some z ->z ∉ kS l p (J+g))/\ ((kS l p (J+g)).flatMap (kB l f p)).length<=90000000):=hid (fun g g1 g2 g3 g4=>by
     have hJ:=u.out;have he:=Hl.out;have Gp:=HD.out;obtain⟨r1,r2,r3,r4⟩:=Qmm hlv Hm.out hJ.1 (Gd _ H0.out) g1 (by omega) (by rw [Gp]) (by rw [Gp];exact g3) (by rw [Gp];exact fun h=>g4 (by omega));refine⟨r1,r2,r3,fun h z hz=>r4 z hz (by omega),?_⟩;have j:=Qhp (kB l f p) (QiW l p (J+g) l.length (by omega));have k:TB.length<=90000000:=hl;rw [<- Gk.out,List.length_append] at k;omega)
    have Ge:Hid (∀t,t<M ->∃r q:Nat,∃v,r<=7/\ q<=1000000000/\ v.size<=200/\ (∀Y:Int,lfB Y (gL l (J+t))=uvF 9 r++(uvF 9 q++if Y=1 then Qae v else []))/\∀w',Below w.heap.size w w' ->w'.cell? ⟨b,o+t*5+2,none⟩=some (.int .i64 (r:Int))/\ w'.cell? ⟨b,o+t*5+3,none⟩=some (.int .i64 (q:Int))/\ w'.cell? ⟨b,o+t*5+4,none⟩=some (.string v)):=hid (fun t ht=>by
     have hJ:=u.out;have he:=Hl.out;have hr:=hbd.rep (J+t) (by omega);have hq:=hbd.seq (J+t) (by omega);have hv:=hbd.val (J+t) (by omega);refine⟨(gL l (J+t)).r.toNat,(gL l (J+t)).q.toNat,(gL l (J+t)).v,by omega,by omega,hv,fun Y=>rfl,fun w' hb'=> ?_⟩;obtain⟨_,_,_,_,_,U,V,Z⟩:=(Hz.below hb').2 t ht;refine⟨?_,?_,Z⟩
     ·rw [U];congr 2;omega
     ·rw [V];congr 2;omega)
    obtain⟨x,hx⟩:∃x,gL l J=x:=⟨_,rfl⟩;rw [hx] at h0 j k G h4 h5 Hy Gr Gg Gf H0 Hs Hr;clear hx;obtain⟨xp,fl,xr,xq,xv⟩:=x;dsimp only at h0 j k G h4 h5 Hy Gr Gg Gf H0 Hs Hr;rw [Gg.out] at H0 Hs Hr;obtain⟨s,Gq⟩:∃s,gS xp d=s:=⟨_,rfl⟩;obtain⟨pn,Gi⟩:∃pn,xp.length=pn:=⟨_,rfl⟩;obtain⟨Y,hY⟩:∃Y,kAt d pn fl=Y:=⟨_,rfl⟩;rw [Gq,Gi,hY] at H0 Hs Hr;rw [Gi,hY] at Gf;rw [Gq] at Gr h5;rw [Gi] at h0 Hy;have Ka:=hid hY;clear Gq Gi hY Gg G5 H6;have HC:Hid (∀w',Below w.heap.size w w' ->w'.cell? ⟨b,o,none⟩=some (.slice (some ⟨kb,ko,none⟩) pn qc)/\ w'.cell? ⟨b,o+1,none⟩=some (.bool fl)/\ w'.cell? ⟨b,o+2,none⟩=some (.int .i64 xr)/\ w'.cell? ⟨b,o+3,none⟩=some (.int .i64 xq)/\ w'.cell? ⟨b,o+4,none⟩=some (.string xv)/\ w'.cell? ⟨kb,ko+d,none⟩=some (.string s)):=hid (fun w' hB=>⟨(hB.cell (p:=⟨b,_,none⟩) Hx).trans h0,(hB.cell (p:=⟨b,_,none⟩) Hx).trans j,(hB.cell (p:=⟨b,_,none⟩) Hx).trans k,(hB.cell (p:=⟨b,_,none⟩) Hx).trans G,(hB.cell (p:=⟨b,_,none⟩) Hx).trans h4,(hB.cell (p:=⟨kb,_,none⟩) G4).trans h5⟩);clear h0 j k G h4 h5 Hx G4;obtain⟨X,Hf⟩:∃X,(kS l p J).length=X:=⟨_,rfl⟩;obtain⟨H,Hg⟩:∃H,(kS l p J).flatMap (kB l f p)=H:=⟨_,rfl⟩;rw [Hf,Hg] at N;rw [Hg] at Hi;have Hq:=hid Hf;have Hw:=hid Hg;have Go:=N.1;simp only [Hf];have Ke:M<=E:=Hv.c1;have Kb:E<=9223372036854775807:=Hv.c2;clear Hf Hg Hv;go_wp2_with fail;refine Hr.mono ?_;rintro e w1 ⟨⟨g,rfl,g1,g2,g3,g4⟩,b1⟩;have O:=hid (Hs g g1 g2 g3 g4);have Hj:=hid (Hi.keep b1);obtain⟨q0,q1,q2,q3,q4,q5⟩:=HC w1 Hj.b;clear Hs g3 g4 Hi Hr b1;go_wp2_with fail;refine(QgG (some ⟨kb,ko,none⟩) pn qc fl xr xq xv d w1 (by omega) (by omega)).mono ?_;rintro e w2 ⟨rfl,b2⟩;rw [Ka.out];have Hk:=hid (Hj.keep b2);clear q0 q1 q2 q3 q4 q5 Hj b2;obtain⟨q0,q1,q2,q3,q4,q5⟩:=HC w2 Hk.b;go_wp2_with fail;refine(QhP s w2 (by omega)).mono ?_;rintro e w3 ⟨v3,rfl,o3,b3,z3⟩;have Gt:=QaJ s;obtain⟨v4,w4,B,G0⟩:=Hk.app b3 o3 (by unfold Qae;have:=(Qah 9 s.size).2;rw [List.length_append];omega) (by have:=N.2;omega);have Hb:=hid G0;clear q0 q1 q2 q3 q4 q5 Hk b3 o3 z3 G0;have Hu:Hid ((H++Qae s).length<=90000050):=hid (by have:=N.2;rw [List.length_append];omega);rcases Gf.out with rfl|rfl|⟨rfl,hf⟩
    ·have Ht:Hid (kB l f p (s,1)=Qae s++([1]++(uvF 9 g++(List.range g).flatMap fun t=>lfB 1 (gL l (J+t))))):=hid (by unfold kB;rw [if_neg (show¬(1:Int)=3 by decide),O.2.1];unfold mB;simp [List.flatMap_map]);obtain⟨v5,w5,Ha,Hd⟩:=Hb.byte 1 (by have:=Hu.out;omega);have L:=hid Hd;have Hn:Hid ((H++Qae s++[1]).length<=90000051):=hid (by have:=Hu.out;rw [List.length_append];simp;simpa using this);clear Hd Hb Gt;go_wp2_with (at_builtin;first|(refine Qaa rfl _ _ _ _ rfl B (by rfl) (by rfl) rfl ?_;clear B)|(refine Qaa rfl _ _ _ _ rfl Ha (by rfl) (by rfl) rfl ?_;clear Ha));refine(QaP g w5 (by omega)).mono ?_;rintro e w6 ⟨v6,rfl,o6,b6,z6⟩;have H9:=Qah 9 g;obtain⟨v7,w7,K,He⟩:=L.app b6 o6 H9.2 (by have:=Hn.out;omega);have I:=hid He;obtain⟨A,D⟩:∃A,H++Qae s++[1]++uvF 9 g=A:=⟨_,rfl⟩;have Gm:=hid D;have Gj:Hid (A.length<=90000070):=hid (by rw [<- D,List.length_append];have:=Hn.out;omega);rw [D] at I;clear D He o6 b6 z6 H9 L;go_wp2_with (at_builtin;refine Qaa rfl _ _ _ _ rfl K (by rfl) (by rfl) rfl ?_;clear K);go_loopw [6,9] (fun bd iv wr=>∃t:Nat,t<=g/\ iv=.int .i64 t/\ Hid (Bd w wr bd (A++(List.range t).flatMap fun t=>lfB 1 (gL l (J+t))))) (fun _ iv _=>g - (intOf iv).toNat);case atStart=>exact⟨0,Nat.zero_le _,rfl,hid (by simpa using I.out)⟩
     case round=>
      obtain⟨t,ht,rfl,Q⟩:=hrel;clear I;by_cases Gs:t<g
      ·obtain⟨r,q,v,hr,hq,hv,C,Ho⟩:=Ge t (by omega);have HK:=hid Ho;obtain⟨U,V,Z⟩:=Ho _ Q.b;clear Ho;have H1:Hid (A++((List.range (t+1)).flatMap fun t=>lfB 1 (gL l (J+t)))=A++((List.range t).flatMap fun t=>lfB 1 (gL l (J+t)))++(uvF 9 r++(uvF 9 q++Qae v))):=hid (by rw [List.range_succ,List.flatMap_append];simp [C]);have Hc:Hid ((A++(List.range t).flatMap fun t=>lfB 1 (gL l (J+t))).length<=90000070+230*1000):=hid (by
        have k:=Qco (fun t=>lfB 1 (gL l (J+t))) (fun _=>1) 230 (List.range t) (fun z hz=>by
         have Kc:=List.mem_range.1 hz;obtain⟨r,q,v,hr,hq,hv,C,_⟩:=Ge z (by omega);have a1:=(Qah 9 r).1;have a2:=(Qah 9 q).1;have a3:=QaJ v;rw [C];simp only [List.length_append];split
         ·omega
         ·simp;omega)
        have G:∀ls:List Nat,(ls.map fun _=>1).sum=ls.length:=fun ls=>by
         induction ls with
         | nil=>rfl
         | cons a r ih=>simp only [List.map_cons,List.sum_cons,ih,List.length_cons];omega
        rw [G,List.length_range] at k;have:=Gj.out;rw [List.length_append];omega)
       obtain⟨us,Ga⟩:∃us,A++((List.range t).flatMap fun t=>lfB 1 (gL l (J+t)))=us:=⟨_,rfl⟩;rw [Ga] at Q H1 Hc;clear Ga C;have Gv:=Qah 9 r;have Gu:=Qah 9 q;go_wp2_with fail;refine(QaP r _ (by omega)).mono ?_;rintro e y1 ⟨u1,rfl,Gb,H2,Gw⟩;obtain⟨u2,y2,H7,H4⟩:=Q.app H2 Gb Gv.2 (by have:=Hc.out;omega);have Hh:=hid H4;clear H4 H2 Gb Gw Q U V Z;obtain⟨U,V,Z⟩:=HK _ Hh.b;go_wp2_with (at_builtin;refine Qaa rfl _ _ _ _ rfl H7 (by rfl) (by rfl) rfl ?_;clear H7);refine(QaP q _ (by omega)).mono ?_;rintro e y3 ⟨u3,rfl,Gc,H3,Gx⟩;obtain⟨u4,y4,H8,H5⟩:=Hh.app H3 Gc Gu.2 (by have:=Hc.out;rw [List.length_append];omega);have Hp:=hid H5;clear H5 H3 Gc Gx Hh U V Z;obtain⟨U,V,Z⟩:=HK _ Hp.b;go_wp2_with (at_builtin;refine Qaa rfl _ _ _ _ rfl H8 (by rfl) (by rfl) rfl ?_;clear H8);refine(QhP v _ (by omega)).mono ?_;rintro e y5 ⟨u5,rfl,G6,Gz,Kd⟩;have Kg:=QaJ v;obtain⟨u6,y6,G2,G1⟩:=Hp.app Gz G6 (by unfold Qae;have:=(Qah 9 v.size).2;rw [List.length_append];omega) (by have:=Hc.out;rw [List.length_append,List.length_append];omega);have G7:=hid G1;clear G1 Gz G6 Kd Hp U V Z;go_wp2_with (at_builtin;refine Qaa rfl _ _ _ _ rfl G2 (by rfl) (by rfl) rfl ?_;clear G2);go_roundw;case rel=>exact⟨t+1,Gs,by go_num,hid (by rw [H1.out];simpa using G7.out)⟩
       case measure=>simp [intOf];omega
      ·obtain rfl:g=t:=by omega
       have W:Hid (Bd w wr u6 ((kS l p (J+g)).flatMap (kB l f p))):=hid (by rw [O.1,List.flatMap_append,Hw.out];simp only [List.flatMap_cons,List.flatMap_nil,List.append_nil];rw [Ht.out];simpa [<- Gm.out] using Q.out);have P:Hid ((kS l p (J+g)).length=X+1):=hid (by rw [O.1,List.length_append,Hq.out];rfl);have S:Hid (0<M - g ->∀y,nx p (gL l (J+g))=some y ->y ∉ kS l p (J+g)):=hid (fun h=>O.2.2.2.1 (by omega));clear Q Hw Hq Gd;by_cases G3:g<E
       ·go_wp2_with fail;go_roundw;case rel=>exact⟨J+g,M - g,E - g,some ⟨b,o+g*5,none⟩,hid (by have:=u.out;omega),by first|rfl|rw [if_neg (by omega)],by rw [P.out];go_num,hid ⟨by omega,by omega,fun h=>⟨b,_,rfl,Hz.drop g2⟩,S.out⟩,W⟩
        case measure=>simp [QmS];omega
       ·go_wp2_with fail;go_roundw;case rel=>exact⟨J+g,M - g,E - g,some ⟨b,o,none⟩,hid (by have:=u.out;omega),by first|rfl|rw [if_pos (by omega)],by rw [P.out];go_num,hid ⟨by omega,by omega,fun h=>by omega,S.out⟩,W⟩
        case measure=>simp [QmS];omega
    ·have Ht:Hid (kB l f p (s,2)=Qae s++([2]++(uvF 9 g++(List.range g).flatMap fun t=>lfB 2 (gL l (J+t))))):=hid (by unfold kB;rw [if_neg (show¬(2:Int)=3 by decide),O.2.1];unfold mB;simp [List.flatMap_map]);obtain⟨v5,w5,Ha,Hd⟩:=Hb.byte 2 (by have:=Hu.out;omega);have L:=hid Hd;have Hn:Hid ((H++Qae s++[2]).length<=90000051):=hid (by have:=Hu.out;rw [List.length_append];simp;simpa using this);clear Hd Hb Gt;go_wp2_with (at_builtin;first|(refine Qaa rfl _ _ _ _ rfl B (by rfl) (by rfl) rfl ?_;clear B)|(refine Qaa rfl _ _ _ _ rfl Ha (by rfl) (by rfl) rfl ?_;clear Ha));refine(QaP g w5 (by omega)).mono ?_;rintro e w6 ⟨v6,rfl,o6,b6,z6⟩;have H9:=Qah 9 g;obtain⟨v7,w7,K,He⟩:=L.app b6 o6 H9.2 (by have:=Hn.out;omega);have I:=hid He;obtain⟨A,D⟩:∃A,H++Qae s++[2]++uvF 9 g=A:=⟨_,rfl⟩;have Gm:=hid D;have Gj:Hid (A.length<=90000070):=hid (by rw [<- D,List.length_append];have:=Hn.out;omega);rw [D] at I;clear D He o6 b6 z6 H9 L;go_wp2_with (at_builtin;refine Qaa rfl _ _ _ _ rfl K (by rfl) (by rfl) rfl ?_;clear K);go_loopw [6,9] (fun bd iv wr=>∃t:Nat,t<=g/\ iv=.int .i64 t/\ Hid (Bd w wr bd (A++(List.range t).flatMap fun t=>lfB 2 (gL l (J+t))))) (fun _ iv _=>g - (intOf iv).toNat);case atStart=>exact⟨0,Nat.zero_le _,rfl,hid (by simpa using I.out)⟩
     case round=>
      obtain⟨t,ht,rfl,Q⟩:=hrel;clear I;by_cases Gs:t<g
      ·obtain⟨r,q,v,hr,hq,hv,C,Ho⟩:=Ge t (by omega);have HK:=hid Ho;obtain⟨U,V,Z⟩:=Ho _ Q.b;clear Ho;have H1:Hid (A++((List.range (t+1)).flatMap fun t=>lfB 2 (gL l (J+t)))=A++((List.range t).flatMap fun t=>lfB 2 (gL l (J+t)))++(uvF 9 r++uvF 9 q)):=hid (by rw [List.range_succ,List.flatMap_append];simp [C]);have Hc:Hid ((A++(List.range t).flatMap fun t=>lfB 2 (gL l (J+t))).length<=90000070+230*1000):=hid (by
        have k:=Qco (fun t=>lfB 2 (gL l (J+t))) (fun _=>1) 230 (List.range t) (fun z hz=>by
         have Kc:=List.mem_range.1 hz;obtain⟨r,q,v,hr,hq,hv,C,_⟩:=Ge z (by omega);have a1:=(Qah 9 r).1;have a2:=(Qah 9 q).1;have a3:=QaJ v;rw [C];simp only [List.length_append];split
         ·omega
         ·simp;omega)
        have G:∀ls:List Nat,(ls.map fun _=>1).sum=ls.length:=fun ls=>by
         induction ls with
         | nil=>rfl
         | cons a r ih=>simp only [List.map_cons,List.sum_cons,ih,List.length_cons];omega
        rw [G,List.length_range] at k;have:=Gj.out;rw [List.length_append];omega)
       obtain⟨us,Ga⟩:∃us,A++((List.range t).flatMap fun t=>lfB 2 (gL l (J+t)))=us:=⟨_,rfl⟩;rw [Ga] at Q H1 Hc;clear Ga C;have Gv:=Qah 9 r;have Gu:=Qah 9 q;go_wp2_with fail;refine(QaP r _ (by omega)).mono ?_;rintro e y1 ⟨u1,rfl,Gb,H2,Gw⟩;obtain⟨u2,y2,H7,H4⟩:=Q.app H2 Gb Gv.2 (by have:=Hc.out;omega);have Hh:=hid H4;clear H4 H2 Gb Gw Q U V Z;obtain⟨U,V,Z⟩:=HK _ Hh.b;go_wp2_with (at_builtin;refine Qaa rfl _ _ _ _ rfl H7 (by rfl) (by rfl) rfl ?_;clear H7);refine(QaP q _ (by omega)).mono ?_;rintro e y3 ⟨u3,rfl,Gc,H3,Gx⟩;obtain⟨u4,y4,H8,H5⟩:=Hh.app H3 Gc Gu.2 (by have:=Hc.out;rw [List.length_append];omega);have Hp:=hid H5;clear H5 H3 Gc Gx Hh U V Z;obtain⟨U,V,Z⟩:=HK _ Hp.b;go_wp2_with (at_builtin;refine Qaa rfl _ _ _ _ rfl H8 (by rfl) (by rfl) rfl ?_;clear H8);go_roundw;case rel=>exact⟨t+1,Gs,by go_num,hid (by rw [H1.out];simpa using Hp.out)⟩
       case measure=>simp [intOf];omega
      ·obtain rfl:g=t:=by omega
       have W:Hid (Bd w wr u6 ((kS l p (J+g)).flatMap (kB l f p))):=hid (by rw [O.1,List.flatMap_append,Hw.out];simp only [List.flatMap_cons,List.flatMap_nil,List.append_nil];rw [Ht.out];simpa [<- Gm.out] using Q.out);have P:Hid ((kS l p (J+g)).length=X+1):=hid (by rw [O.1,List.length_append,Hq.out];rfl);have S:Hid (0<M - g ->∀y,nx p (gL l (J+g))=some y ->y ∉ kS l p (J+g)):=hid (fun h=>O.2.2.2.1 (by omega));clear Q Hw Hq Gd;by_cases G3:g<E
       ·go_wp2_with fail;go_roundw;case rel=>exact⟨J+g,M - g,E - g,some ⟨b,o+g*5,none⟩,hid (by have:=u.out;omega),by first|rfl|rw [if_neg (by omega)],by rw [P.out];go_num,hid ⟨by omega,by omega,fun h=>⟨b,_,rfl,Hz.drop g2⟩,S.out⟩,W⟩
        case measure=>simp [QmS];omega
       ·go_wp2_with fail;go_roundw;case rel=>exact⟨J+g,M - g,E - g,some ⟨b,o,none⟩,hid (by have:=u.out;omega),by first|rfl|rw [if_pos (by omega)],by rw [P.out];go_num,hid ⟨by omega,by omega,fun h=>by omega,S.out⟩,W⟩
        case measure=>simp [QmS];omega
    ·have Ht:Hid (kB l f p (s,3)=Qae s++([3]++tB l f (p++[s]))):=hid (by unfold kB;rw [if_pos rfl]);have Gl:Hid ((tB l f (p++[s])).length<=90000000/\ 0<(tB l f (p++[s])).length):=hid ⟨by
      have j:=O.2.2.2.2;rw [O.1,List.flatMap_append,List.length_append] at j;simp only [List.flatMap_cons,List.flatMap_nil,List.append_nil] at j;rw [Ht.out] at j;simp only [List.length_append] at j;omega,by
      obtain⟨f',rfl⟩:∃f',f=f'+1:=⟨f - 1,by omega⟩;exact QlH _ _ _⟩
     obtain⟨v5,w5,Ha,Hd⟩:=Hb.byte 3 (by have:=Hu.out;omega);have L:=hid Hd;have Hn:Hid ((H++Qae s++[3]).length<=90000051):=hid (by have:=Hu.out;rw [List.length_append];simp;simpa using this);clear Hd Hb Gt;go_wp2_with (at_builtin;first|(refine Qaa rfl _ _ _ _ rfl B (by rfl) (by rfl) rfl ?_;clear B)|(refine Qaa rfl _ _ _ _ rfl Ha (by rfl) (by rfl) rfl ?_;clear Ha));refine(G8 s hf J g E (some ⟨b,o,none⟩) w5 (by omega) Kb (O.2.2.1 s rfl) (fun _=>⟨b,o,rfl,(Hz.take g2).below L.b⟩) Gl.1).mono ?_;rintro e w6 ⟨v6,rfl,o6,b6⟩;obtain⟨v7,w7,K,He⟩:=L.app b6 o6 Gl.2 (by have:=Hn.out;have:=Gl.1;omega);have I:=hid He;clear He o6 b6 L;have W:Hid (Bd w w7 v7 ((kS l p (J+g)).flatMap (kB l f p))):=hid (by rw [O.1,List.flatMap_append,Hw.out];simp only [List.flatMap_cons,List.flatMap_nil,List.append_nil];rw [Ht.out];simpa [List.append_assoc] using I.out);have P:Hid ((kS l p (J+g)).length=X+1):=hid (by rw [O.1,List.length_append,Hq.out];rfl);have S:Hid (0<M - g ->∀y,nx p (gL l (J+g))=some y ->y ∉ kS l p (J+g)):=hid (fun h=>O.2.2.2.1 (by omega));clear I Hw Hq Gd;by_cases G3:g<E
     ·go_wp2_with (at_builtin;refine Qaa rfl _ _ _ _ rfl K (by rfl) (by rfl) rfl ?_;clear K);go_roundw;case rel=>exact⟨J+g,M - g,E - g,some ⟨b,o+g*5,none⟩,hid (by have:=u.out;omega),by first|rfl|rw [if_neg (by omega)],by rw [P.out];go_num,hid ⟨by omega,by omega,fun h=>⟨b,_,rfl,Hz.drop g2⟩,S.out⟩,W⟩
      case measure=>simp [QmS];omega
     ·go_wp2_with (at_builtin;refine Qaa rfl _ _ _ _ rfl K (by rfl) (by rfl) rfl ?_;clear K);go_roundw;case rel=>exact⟨J+g,M - g,E - g,some ⟨b,o,none⟩,hid (by have:=u.out;omega),by first|rfl|rw [if_pos (by omega)],by rw [P.out];go_num,hid ⟨by omega,by omega,fun h=>by omega,S.out⟩,W⟩
      case measure=>simp [QmS];omega
   ·obtain rfl:M=0:=by omega
    have Gy:Hid (kS l p J=kS l p l.length):=hid (by have j:=u.out;have k:=Hm.out;rw [k.stop l.length k.2.2 zL];congr 1;omega);have N:Hid ((kS l p J).length<=1000/\ uvF 9 (kS l p J).length++(kS l p J).flatMap (kB l f p)=TB):=hid ⟨by have:=Qe8 l p J;have j:=u.out;have k:=Hm.2.2;have:=hbd.len;omega,by rw [Gy.out];exact Gk.out⟩;obtain⟨X,Hf⟩:∃X,(kS l p J).length=X:=⟨_,rfl⟩;obtain⟨H,Hg⟩:∃H,(kS l p J).flatMap (kB l f p)=H:=⟨_,rfl⟩;rw [Hf,Hg] at N;rw [Hg] at Hi;have Go:=N.1;simp only [Hf];clear Hf Hg Hv Gy u;go_wp2_with fail;refine(QaP X _ (by omega)).mono ?_;rintro e w1 ⟨v1,rfl,o1,b1,z1⟩;obtain⟨v2,w2,B,o2,b2⟩:=Hi.front b1 o1 (by have j:=N.2;have k:TB.length<=90000000:=hl;rw [<- j,List.length_append] at k;omega);rw [N.2] at o2;have HO:=hid o2;have HB:=hid b2;clear o2 b2 b1 o1 z1 Hi;go_wp2_with (at_builtin;refine Qaa rfl _ _ _ _ rfl B (by rfl) (by rfl) rfl ?_;clear B);go_ret;exact⟨v2,rfl,HO.out,HB.out⟩
theorem Qm6 {R F T:Nat ->Int}{n:Nat}(l:List Lf)(hlv:QbS R F T n l l.length)(hbd:LvB l):∀(f:Nat) (p:List ByteArray),p.length+f=8 ->1<=f ->∀(i m c:Nat) (a:Option Addr) (w:World),m<=c ->c<=9223372036854775807 ->Iv l p i (i+m) ->(0<m ->∃b off,a=some ⟨b,off,none⟩/\ LAt w b off l i m) ->(tB l f p).length<=90000000 ->
  Calls Tryz.prog 29 #[.slice a m c,.int .i64 (p.length:Int)] w fun e w'=>∃v,e=.returned v/\ Own w' w.heap.size v (tB l f p)/\ Below w.heap.size w w':=by
 intro f;induction f with
 | zero=>intro p _ j;omega
 | succ f IH=>exact fun p hpf _ i m c a w j h2 h3 h4 h5=>Qid l hlv hbd f p hpf (fun s hf=>IH (p++[s]) (by rw [List.length_append];simp;omega) hf) i m c a w j h2 h3 h4 h5
open Go.Sort
theorem QjQ {w:World}{o:Oper}{a:Act}{K:Act ->World ->Prop}{Q:Exit ->Act ->World ->Prop}(s x:Operand)
  (ho:o.op=.call {callee:=.builtin .append,args:=#[s,x],argTypes:=#[22,22]})
  (B B':Nat) (b v:Value) (zs ys:List Int) (hs:a.eval s=b) (hown:Own w B b zs) (hx:a.eval x=v) (hv:Own w B' v ys) (hvn:v.ownBlock≠none) (hbn:b.ownBlock≠none) (hl:zs.length+ys.length<=1000000000) (hB:B<=w.heap.size)
  (h:∀v' w',Own w' B v' (zs++ys) ->Gr w w' b v' ->v'.ownBlock≠none ->K (a.put o.dst v') w'):o.wp Tryz.prog a w K Q:=by
 obtain⟨p,q,z,t,i⟩:=info_parts Tryz.infoByte;have u:=hv;obtain⟨V,y⟩:=hv;rcases y with ⟨rfl,_⟩|⟨g,cap,A,rfl,E,M,U,O,r⟩
 ·exact absurd rfl hvn
 refine QaN s x 22 ho B 5 p (.int .u8 0) 1 1 Tryz.underlying22 q z t i rfl (by decide) b zs.length _ hs hown ⟨g,0,none⟩ ys.length cap (ys.map (Value.int .u8)) hx (by simp) (World.ownsRow.cells u rfl) (ints_oneCell .u8 _) (by unfold maxLen;omega) (by omega) hB ?_;intro v' w' k m j;refine h v' w' ?_ (Gr.app m j) ?_
 ·unfold Own;rw [List.length_append,List.map_append];exact k
 ·rcases j with j|j
  ·rw [j];exact hbn
  ·rw [j];simp
theorem QbQ {w:World}{ops:Array Oper}{rest:List Oper}{o:Oper}{a:Act}{Q:Exit ->Act ->World ->Prop}(hgd:o.guard=none)(s x:Operand)
  (ho:o.op=.call {callee:=.builtin .append,args:=#[s,x],argTypes:=#[22,22]})
  (B B':Nat) (b v:Value) (zs ys:List Int) (hs:a.eval s=b) (hown:Own w B b zs) (hx:a.eval x=v) (hv:Own w B' v ys) (hvn:v.ownBlock≠none) (hbn:b.ownBlock≠none) (hl:zs.length+ys.length<=1000000000) (hB:B<=w.heap.size)
  (h:∀v' w',Own w' B v' (zs++ys) ->Gr w w' b v' ->v'.ownBlock≠none ->wpList Tryz.prog ops Q rest (a.put o.dst v') w'):wpList Tryz.prog ops Q (o::rest) a w:=
 wpList_plain hgd fun _ hK=>QjQ s x ho B B' b v zs ys hs hown hx hv hvn hbn hl hB fun v' w' h2 h3 h4=>hK _ _ (h v' w' h2 h3 h4)
theorem Own.some {w:World}{B:Nat}{v:Value}{zs:List Int}(h:Own w B v zs)(hz:0<zs.length):v.ownBlock≠none:=by
 obtain⟨m,j⟩:=h;rcases j with ⟨_,j⟩|⟨g,cap,k,rfl,_⟩
 ·omega
 ·simp [Value.ownBlock]
def QdC (L:Int ->List (Int×Int))(k:Nat):List Int:=(KS L k).flatMap (QmQ L)
theorem Qga (L:Int ->List (Int×Int))(ks:List Int):∀k,k<=ks.length ->Qf8 L ks k=(ks.take k).flatMap (QmQ L)
 | 0,_=>by simp [Qf8]
 | k+1,h=>by
  have e:ks.take (k+1)=ks.take k++[ks.getD k 0]:=by
   rw [List.take_add_one];simp [List.getD,show k<ks.length by omega]
  rw [e,List.flatMap_append,<- Qga L ks k (by omega)];simp [Qf8]
theorem Qfq (L:Int ->List (Int×Int)):Qee L=uvF 9 (KS L 8).length++QdC L 8:=by
 unfold Qee QdC;rw [Qga L _ _ zL,List.take_length]
theorem Qlb {L:Int ->List (Int×Int)}{k:Nat}(h:L (k:Int)≠[]):KS L (k+1)=KS L k++[(k:Int)]:=by
 have:(L (k:Int)).isEmpty=false:=by cases e:L (k:Int) with|nil=>exact absurd e h|cons _ _=>rfl
 simp [KS,this]
theorem Qnc {L:Int ->List (Int×Int)}{k:Nat}(h:L (k:Int)=[]):KS L (k+1)=KS L k:=by simp [KS,h]
theorem QfH {L:Int ->List (Int×Int)}{k:Nat}(h:L (k:Int)≠[]):QdC L (k+1)=QdC L k++(uvF 9 k++(uvF 9 (L (k:Int)).length++spK (L (k:Int)) (L (k:Int)).length)):=by
 unfold QdC;rw [Qlb h,List.flatMap_append];simp [QmQ,QjS]
theorem Qhk {L:Int ->List (Int×Int)}{k:Nat}(h:L (k:Int)=[]):QdC L (k+1)=QdC L k:=by
 unfold QdC;rw [Qnc h]
theorem Qc9 {L:Int ->List (Int×Int)}(hL:∀r,(L r).length<=1000):∀k,(QdC L k).length<=30000*k
 | 0=>by simp [QdC,KS]
 | k+1=>by
  have:=Qc9 hL k;by_cases h:L (k:Int)=[]
  ·rw [Qhk h];omega
  ·have j:=(Qah 9 k).1;have m:=(Qah 9 (L (k:Int)).length).1;have q:=Qep (L (k:Int)) (L (k:Int)).length;have u:=hL (k:Int);rw [QfH h];simp only [List.length_append];omega
def Qje (l:List (Int×Int))(j:Nat):Int:=loK l j - 2
theorem Qoa {w:World}{B n cap g:Nat}{r:Int}{l:List (Int×Int)}(h:w.ownsRow B 79 3 (.slice (some ⟨g,0,none⟩) n cap) n (QaA r l))(hl:l.length=n):
  ∀i,i<n ->w.cell? ⟨g,i*3+1,none⟩=some (.int .i64 (sF l i))/\ w.cell? ⟨g,i*3+2,none⟩=some (.int .i64 (sT l i)):=by
 intro i j;have k:∀(l:List (Int×Int)) (i:Nat),i<l.length ->(QaA r l)[i*3+1]? =some (.int .i64 (l.getD i (0,0)).1)/\ (QaA r l)[i*3+2]? =some (.int .i64 (l.getD i (0,0)).2):=by
  intro l;induction l with
  | nil=>intro i j;simp at j
  | cons a l ih=>
   intro i j;cases i with
   | zero=>simp [QaA]
   | succ i=>
    have:=ih i (by simpa using j);have e:QaA r (a::l)=.int .i64 r::.int .i64 a.1::.int .i64 a.2::QaA r l:=by simp [QaA]
    rw [e,show (i+1)*3+1=i*3+1+1+1+1 from by omega,show (i+1)*3+2=i*3+2+1+1+1 from by omega];simpa using this
 rw [h.cellAt _ (by omega),h.cellAt _ (by omega)];exact k l i (by omega)
theorem QmU (a:Option Addr)(n c:Nat)(R F T:Nat ->Int)(w:World)(hn:n<=1048576)(h:Qb5 w a n R F T)(hok:QcR R F T n=true):
  Calls Tryz.prog 28 #[.agg #[.slice a n c]] w fun e w'=>∃v,e=.returned (.tuple #[v,.bool true])/\ Own w' w.heap.size v (Qee (Lk R F T n))/\ Below w.heap.size w w':=by
 have Hn:=Qao.1 hok;have Kq:=Hn.2;have B0:Below w.heap.size w (w.alloc (.cells #[.slice a n c] 27)):=zO _ _;obtain⟨L,H⟩:∃L,Lk R F T n=L:=⟨_,rfl⟩;have Hg:Hid (∀r,(L r).length<=1000):=fun r=>by rw [<- H];exact Nat.le_trans (Qdl R F T n r) Kq
 have H6:Hid (∀r,Srt (L r)):=fun r=>by rw [<- H];exact(Qdm n Hn.1 r).1
 have Kh:Hid (∀(rep:Int) (w:World),Qb5 w a n R F T ->Calls Tryz.prog 59 #[.agg #[.slice a n c],.int .i64 rep] w fun e w'=>∃v,e=.returned v/\ w'.ownsRow w.heap.size 79 3 v (L rep).length (QaA rep (L rep))/\ Below w.heap.size w w'):=fun rep w h=>by rw [<- H];exact Qof a n c R F T rep w hn h
 rw [H];clear Hn H;go_enter Tryz.func28,Tryz.ntmps28;go_wp2_with fail;refine(Qgf a n c R F T _ hn (h.below B0)).mono ?_;rintro e w1 ⟨rfl,b1⟩;rw [hok];have Gb:w1.cell? ⟨w.heap.size,0,none⟩=some (.slice a n c):=by rw [(Qcs b1).1 _ _ (by simp)];simp
 have z1:w.heap.size+1<=w1.heap.size:=by have:=b1.size;simp at this;omega
 have Kb:=hid (Qac B0 b1);have HW:=hid h;clear b1 B0 hok h;go_wp2_with fail;go_loopw [4,5,6] (fun cv b' i wr=>∃(k:Nat) (u:List Int),k<=8/\ i=.int .i64 k/\ cv=.int .i64 ((KS L k).length:Nat)/\ Hid (Own wr (w.heap.size+1) b' u)/\ Hid (u=QdC L k)/\ Hid (Below w.heap.size w wr)/\ Hid (b'.ownBlock≠none)/\ wr.cell? ⟨w.heap.size,0,none⟩=some (.slice a n c)/\ w.heap.size+1<=wr.heap.size) (fun _ _ i _=>8 - (intOf i).toNat);case atStart=>
  refine⟨0,[],by omega,rfl,rfl,?_,hid rfl,hid (Kb.alloc (by omega) _),hid (by simp [Value.ownBlock]),?_,by simp;omega⟩
  ·have:=World.ownsRow_lit (base:=w.heap.size+1) (e:=5) (size:=1) w1 #[] 0 (by omega) (by unfold maxLen;omega) rfl;exact hid (by simpa [Own] using this)
  ·rw [Below.cell (B:=w1.heap.size) (zO _ _) (show w.heap.size<w1.heap.size by omega)];exact Gb
 case round=>
  obtain⟨k,u,q,rfl,rfl,O,Q,He,Ha,Km,K2⟩:=hrel;by_cases Gg:k<8
  ·have Ko:=QfC L k;have Ht:=HW.below He.out;have Gx:=hid Ht;clear Ht;go_wp2_with fail;refine(Kh (k:Int) wr Gx.out).mono ?_;rintro e z ⟨v2,rfl,o,I⟩;obtain⟨l,y⟩:∃l,L (k:Int)=l:=⟨_,rfl⟩;have K0:l.length<=1000:=by rw [<- y];exact Hg _
   have Ka:Hid (∀j,j<l.length ->1<=loK l j/\ loK l j<=sF l j/\ sF l j<=sT l j/\ sT l j<=1000000000):=fun j hj=>QlD (by rw [<- y];exact H6 _) hj;have A:Hid (Own z (w.heap.size+1) u5 u):=O.kept I (fun k q=>(World.ownsRow.lt O.out k q).2);have H1:Hid (Below w.heap.size w z):=He.trans (I.mono (by omega));have Hh:z.cell? ⟨w.heap.size,0,none⟩=some (.slice a n c):=by rw [Below.cell I (show w.heap.size<wr.heap.size by omega)];exact Km
   have z2:=I.size;have Ku:u.length<=30000*k:=by rw [Q.out];exact Qc9 Hg.out k
   have Kk:Hid (∀g,u5.ownBlock=some g ->g<wr.heap.size):=fun g hg=>(World.ownsRow.lt O.out g hg).2;rw [y] at o;clear I O He Gx;by_cases X:l=[]
   ·subst X;have Hx:=hid (Qnc y);have Hu:=hid (Qhk y);clear y;rcases o.2 with ⟨rfl,_⟩|⟨g,cap,Kl,rfl,_⟩
    ·clear o;go_wp2_with fail;go_roundw;case rel=>exact⟨k+1,u,Gg,by go_num,by rw [Hx.out],A,hid (by rw [Hu.out,Q.out]),H1,Ha,Hh,by omega⟩
     case measure=>simp [intOf];omega
    ·clear o;go_wp2_with fail;go_roundw;case rel=>exact⟨k+1,u,Gg,by go_num,by rw [Hx.out],A,hid (by rw [Hu.out,Q.out]),H1,Ha,Hh,by omega⟩
     case measure=>simp [intOf];omega
   ·have Kz:0<l.length:=List.length_pos_iff.2 X;have Hx:=hid (Qlb (L:=L) (k:=k) (by rw [y];exact X));have Ga:=QfH (L:=L) (k:=k) (by rw [y];exact X);rw [y] at Ga;have Hu:=hid Ga;rcases o.2 with ⟨_,e0⟩|⟨g,cap,Kl,rfl,Kx,_,K1,Kn,_,_⟩
    ·omega
    have HC:=hid (Qoa o rfl);have Ky:g<z.heap.size:=(o.lt g rfl).2;unfold maxLen at Kn;have Ge:some g≠u5.ownBlock:=fun e=>by have:=Kk g e.symm;omega
    have Ks:some w.heap.size≠u5.ownBlock:=fun e=>by have:=(World.ownsRow.lt A.out _ e.symm).1;omega
    have l3:=Qah 9 k;have l4:=Qah 9 l.length;have Kw:((l.length:Int)==0)=false:=by simp;omega
    clear o y Ga X;go_wp2_with fail;refine(QaP k z (by omega)).mono ?_;rintro e w3 ⟨v3,rfl,t,p,Kt⟩;have V:=hid (A.kept p (fun k q=>(World.ownsRow.lt A.out k q).2));have Z:=hid t;have Hy:=hid (t.some (by omega));have Gk:Hid (Gr z w3 u5 u5):=Gr.of_below p;clear t p;go_wp2_with (at_builtin;refine QbQ rfl _ _ rfl (w.heap.size+1) z.heap.size u5 v3 u (uvF 9 k) rfl V.out rfl Z.out Hy.out Ha.out ?c1 ?c2 ?_);case c1=>omega
    case c2=>omega
    intro P w4 C E H0;have Hv:=hid (Gk.trans E);have Y:=hid C;have Go:=hid H0;have z4:=E.g.size;clear C E H0 V Z Hy Gk;go_wp2_with fail;refine(QaP l.length w4 (by omega)).mono ?_;rintro e w5 ⟨v5,rfl,Gh,H8,K3⟩;have Gu:=hid (Y.kept H8 (fun k q=>(World.ownsRow.lt Y.out k q).2));have Gy:=hid Gh;have Gp:=hid (Gh.some (by omega));have Gl:Hid (Gr w4 w5 P P):=Gr.of_below H8;clear Gh H8;go_wp2_with (at_builtin;refine QbQ rfl _ _ rfl (w.heap.size+1) w4.heap.size P v5 (u++uvF 9 k) (uvF 9 l.length) rfl Gu.out rfl Gy.out Gp.out Go.out ?d1 ?d2 ?_);case d1=>simp;omega
    case d2=>omega
    intro v6 w6 G8 Gc G6;have Kd:=hid (Hv.trans (Gl.trans Gc));have Kg:=hid G8;have Kf:=hid G6;have z6:=Gc.g.size;clear G8 Gc G6 Gu Gy Gp Gl Y Hv Go;go_wp2_with fail;go_loopw [5,8,9] (fun b' la i wr'=>∃(j:Nat) (s:List Int),j<=l.length/\ i=.int .i64 j/\ la=.int .i64 (Qje l j)/\ Hid (Own wr' (w.heap.size+1) b' s)/\ Hid (s=u++uvF 9 k++uvF 9 l.length++spK l j)/\ Hid (Gr z wr' u5 b')/\ Hid (b'.ownBlock≠none)/\ z.heap.size<=wr'.heap.size) (fun _ _ i _=>l.length - (intOf i).toNat);case atStart=>exact⟨0,_,Nat.zero_le _,rfl,rfl,Kg,hid (by simp [spK]),Kd,Kf,by omega⟩
    case round=>
     obtain⟨j,s,hj,rfl,rfl,Hb,Ho,M,Hc,Kr⟩:=hrel;have Kv:s.length<=240000+20+20*j:=by
      rw [Ho.out];have:=Qep l j;simp only [List.length_append];omega
     by_cases Hz:j<l.length
     ·obtain⟨q1,q2,q3,q4⟩:=Ka j Hz;have G4:=M.g.cell (HC j Hz).1 Ge;have G5:=M.g.cell (HC j Hz).2 Ge;have Kp:Qje l j=loK l j - 2:=rfl;obtain⟨D,G2⟩:∃D:Int,sF l j - Qje l j=D:=⟨_,rfl⟩;obtain⟨b,G1⟩:∃m:Nat,sF l j - loK l j=(m:Int):=⟨(sF l j - loK l j).toNat,by omega⟩;obtain⟨U,H7⟩:∃m:Nat,sT l j - sF l j=(m:Int):=⟨(sT l j - sF l j).toNat,by omega⟩;have x1:IntKind.i64.wrap (sF l j - Qje l j)=D:=by rw [G2];exact Qan _ (by omega) (by omega)
      have x2:IntKind.i64.wrap (D - 2)=(b:Int):=by rw [show D - 2=(b:Int) by omega];exact Qan _ (by omega) (by omega)
      have x3:IntKind.i64.wrap (sT l j - sF l j)=(U:Int):=by rw [H7];exact Qan _ (by omega) (by omega)
      have Kj:Hid (spK l (j+1)=spK l j++(uvF 9 b++uvF 9 U)):=by show spK l j++_=_;rw [G1,H7];rfl
      have Ke:Hid (sT l j=Qje l (j+1)):=by show sT l j=loK l (j+1) - 2;show sT l j=sT l j+2 - 2;omega
      have y1:b<=1000000000:=by omega
      have y2:U<=1000000000:=by omega
      have y3:=Qah 9 b;have y4:=Qah 9 U;have Hm:some g≠u5.ownBlock:=fun e=>by
       rcases M.l with h|⟨i,h,hi⟩
       ·exact Ge (e.trans h)
       ·rw [h] at e;injection e with e;omega
      clear G1 H7 G2 Kp;go_wp2_with fail;refine(QaP b wr (by omega)).mono ?_;rintro e w7 ⟨v7,rfl,Gi,H9,K4⟩;have Gv:=hid (Hb.kept H9 (fun k q=>(World.ownsRow.lt Hb.out k q).2));have Gz:=hid Gi;have Gq:=hid (Gi.some (by omega));have Gm:Hid (Gr wr w7 u5 u5):=Gr.of_below H9;clear Gi H9;go_wp2_with (at_builtin;refine QbQ rfl _ _ rfl (w.heap.size+1) wr.heap.size u5 v7 s (uvF 9 b) rfl Gv.out rfl Gz.out Gq.out Hc.out ?f1 ?f2 ?_);case f1=>omega
      case f2=>omega
      intro v8 W G9 Gd G7;have N:=Gm.trans Gd;have Hi:=N.g.cell G4 Hm;have Hk:=N.g.cell G5 Hm;have Hf:some g≠v8.ownBlock:=fun e=>by
       rcases N.l with h|⟨i,h,hi⟩
       ·exact Hm (e.trans h)
       ·rw [h] at e;injection e with e;omega
      have Gn:=hid (M.trans N);have H5:=hid G9;have Gs:=hid G7;have z8:=Gd.g.size;clear G9 Gd G7 Gv Gz Gq Gm N G4 G5 x1 x2;go_wp2_with fail;refine zR (S:=fun w'=>w'.cell? ⟨g,j*3+1,none⟩=some (.int .i64 (sF l j))/\ w'.cell? ⟨g,j*3+2,none⟩=some (.int .i64 (sT l j))) ⟨Hi,Hk⟩ (fun qh=> ?_);refine tZ 0 53 ?_;refine tZ 1 54 ?_;refine tZ 2 55 ?_;refine tZ 3 56 ?_;refine tZ 4 57 ?_;refine tZ 5 58 ?_;refine tZ 6 59 ?_;refine tZ 7 60 ?_;refine tZ 8 61 ?_;refine tZ 9 62 ?_;refine tZ 10 63 ?_;refine tZ 11 64 ?_;refine cZ 12 ?_;intro K G;go_simp;refine(QaP U _ (by omega)).mono ?_;rintro e w9 ⟨v9,rfl,Gj,G3,K5⟩;have Hd:Below W.heap.size W w9:=(Below.refl _ W).drew.trans G3;have Gw:=hid (H5.kept Hd (fun k q=>(World.ownsRow.lt H5.out k q).2));have G0:=hid Gj;have Gt:=hid (Gj.some (by omega));have Hw:Hid (Gr W w9 v8 v8):=Gr.of_below Hd;have Hj:=Hw.g.cell Hi Hf;have Hl:=Hw.g.cell Hk Hf;have z9:=Hd.size;clear Gj G3 Hd;refine G.out _ _ ⟨Hj,Hl⟩ (fun qh=> ?_);clear G K;try simp only [zP]
      refine cZ 13 ?_;intro K G;rw [if_pos (by rfl)];refine QjQ _ _ (by rfl) (w.heap.size+1) W.heap.size v8 v9 (s++uvF 9 b) (uvF 9 U) (by rfl) Gw.out (by rfl) G0.out Gt.out Gs.out (by simp;omega) (by omega) ?_;intro K6 K7 Hs J Hr;have Hp:=J.g.cell Hj Hf;have Hq:=J.g.cell Hl Hf;have H2:=hid (Gn.trans (Hw.trans J));have H4:=hid Hs;have H3:=hid Hr;have K8:=J.g.size;clear Hs J Hr;refine G.out _ _ ⟨Hp,Hq⟩ (fun qh=> ?_);clear G K;try simp only [zP]
      refine tZ 14 5 ?_;refine zD ?_;clear qh Hi Hk Hj Hl Gw G0 Gt Hw H5 Gs Gn;go_wp2_with fail;go_roundw;case rel=>exact⟨j+1,_,Hz,by go_num,by rw [Ke.out],H4,hid (by rw [Kj.out,Ho.out];simp),H2,H3,by omega⟩
      case measure=>simp [intOf];omega
     ·obtain rfl:j=l.length:=by omega
      go_wp2_with fail;go_roundw;case rel=>
       refine⟨k+1,s,Gg,by go_num,?_,Hb,hid ?_,hid ?_,Hc,M.g.cell Hh Ks,by omega⟩
       ·rw [Hx.out];simp
       ·rw [Hu.out,Ho.out,Q.out];simp
       ·exact H1.trans (M.below (by omega) (fun g hg=>by have:=(World.ownsRow.lt A.out g hg).1;omega))
      case measure=>simp [intOf];omega
  ·obtain rfl:k=8:=by omega
   have Ku:u.length<=30000*8:=by rw [Q.out];exact Qc9 Hg.out 8
   have Ko:=QfC L 8;have l3:=Qah 9 (KS L 8).length;have Ki:=hid (Qfq L);go_wp2_with fail;refine(QaP (KS L 8).length wr (by omega)).mono ?_;rintro e w3 ⟨v3,rfl,t,p,Kt⟩;have V:=hid (O.kept p (fun k q=>(World.ownsRow.lt O.out k q).2));have Z:=hid t;have Hy:=hid (t.some (by omega));have Kc:=hid (He.trans (p.mono (by omega)));have Gf:Hid (∀g,v3.ownBlock=some g ->wr.heap.size<=g):=fun g hg=>(World.ownsRow.lt t g hg).1;clear t p;go_wp2_with (at_builtin;refine QbQ rfl _ _ rfl wr.heap.size (w.heap.size+1) v3 u5 (uvF 9 (KS L 8).length) u rfl Z.out rfl V.out Ha.out Hy.out ?g1 ?g2 ?_);case g1=>omega
   case g2=>omega
   intro P w4 C E H0;have Hv:=hid E;have Y:=hid C;clear C E H0 V Z;go_wp2_with fail;go_ret2;refine⟨P,rfl,?_,Kc.trans (Hv.below (by omega) (fun g hg=>by have:=Gf g hg;omega))⟩;rw [Ki.out,<- Q.out];exact Y.weak (by omega)
end Go.Proofs.YtjdcfkmhmnblbaaGreatDoor
