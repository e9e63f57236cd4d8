import Derived.Test.YtpfmeafmepgimaaGreatFkg29
import Derived.Test.YtpfmeafmepgimaaGreatFkg25
import Derived.Test.YtpfmeafmepgimaaGreatFkg28
import Derived.Test.YtpfmeafmepgimaaGreatFkg24
import Derived.Test.YtpfmeafmepgimaaGreatFkg18
import Derived.Test.YtpfmeafmepgimaaGreatFkg03
import Derived.Test.YtpfmeafmepgimaaGreatFkg23
import Derived.Test.YtpfmeafmepgimaaGreatFkg27
set_option linter.unusedVariables false
set_option linter.unusedSimpArgs false
set_option maxRecDepth 100000
set_option maxHeartbeats 40000000
namespace Go.Proofs.YtpfmeafmepgimaaGreat
open Go.ChangeShapes Go.WideShapes Go.ChangeAt Go.RowKit Go.Maps
def seP (S:Sx)(rep:Int)(p:List ByteArray)(fl on:Bool)(v:ByteArray):List Lf:=if on then [nxY S rep p fl v] else []
def seOk (S:Sx)(rep:Int)(on:Bool):Prop:=(0<=rep/\ rep<8)/\ (on=true ->topK S.R S.T rep S.n+1<=1000000000)
noncomputable def seD (S:Sx)(rep:Int)(p:List ByteArray)(fl on:Bool)(v:ByteArray):Sx:=dlS (gnS p fl) S.l (seP S rep p fl on v)
noncomputable def seC (S:Sx)(rep:Int)(p:List ByteArray)(fl on:Bool)(v:ByteArray):Int:=if ocC S p v=0 then(if yes (seOk S rep on)=true then chC S (seD S rep p fl on v) else 3) else ocC S p v
noncomputable def seX (S:Sx)(rep:Int)(p:List ByteArray)(fl on:Bool)(v:ByteArray):Sx:=if ocC S p v=0 then(if yes (seOk S rep on)=true then chX S (seD S rep p fl on v) else Sx.mt) else Sx.mt
noncomputable def seY (S:Sx)(rep:Int)(p:List ByteArray)(fl on:Bool)(v:ByteArray):Sx:=if ocC S p v=0 then(if yes (seOk S rep on)=true then chY S (seD S rep p fl on v) else Sx.mt) else Sx.mt
section
variable {S : Sx} {rep : Int} {p : List ByteArray} {fl on : Bool} {v : ByteArray}
theorem se_n (h:ocC S p v≠0):seX S rep p fl on v=Sx.mt/\ seY S rep p fl on v=Sx.mt/\ seC S rep p fl on v=ocC S p v:=by unfold seX seY seC;rw [if_neg h,if_neg h,if_neg h];exact⟨rfl,rfl,rfl⟩
theorem se_3 (h:ocC S p v=0)(hn:¬seOk S rep on):seX S rep p fl on v=Sx.mt/\ seY S rep p fl on v=Sx.mt/\ seC S rep p fl on v=3:=by unfold seX seY seC;rw [if_pos h,if_pos h,if_pos h,yes_f hn];exact⟨rfl,rfl,rfl⟩
theorem se_t (h:ocC S p v=0)(hn:seOk S rep on):seX S rep p fl on v=chX S (seD S rep p fl on v)/\ seY S rep p fl on v=chY S (seD S rep p fl on v)/\ seC S rep p fl on v=chC S (seD S rep p fl on v):=by unfold seX seY seC;rw [if_pos h,if_pos h,if_pos h,yes_t hn];exact⟨rfl,rfl,rfl⟩
theorem se_pto (hs:StOk S.R S.F S.T S.n S.l)(hp:PthOk p)(hv:v.size<=200)(hf:fl=true ->emB v=true)(h:seOk S rep on):PtO S (seP S rep p fl on v):=by
 unfold seP;cases on with
 | true=>exact nx_pto hs hp hv hf ⟨h.1,h.2 rfl⟩
 | false=>exact PtO.nil S
theorem next_ok (hs:StOk S.R S.F S.T S.n S.l):nextOk S.R S.F S.T rep S.n=yes (nxOk S rep):=by
 have hb:=topK_bd hs.1 rep;have e:nextOk S.R S.F S.T rep S.n=runOkB rep (topK S.R S.T rep S.n+1) (topK S.R S.T rep S.n+1):=by unfold nextOk;rw [hs.1];rfl
 rw [e];by_cases h:nxOk S rep
 ·rw [yes_t h];exact runOk_true ⟨h.1.1,h.1.2,by omega,by omega,h.2⟩
 ·rw [yes_f h];exact runOk_false (fun hh=>h ⟨⟨hh.1,hh.2.1⟩,by omega⟩)
end
theorem leafApp1 (B:Nat)(w:World)(g0:Nat)(pa:Option Addr)(m pc:Nat)(fl:Bool)(r q:Int)(v:ByteArray)(h:w.ownsRow B 65 5 (.slice (some ⟨g0,0,none⟩) 0 0) 0 [])(hB:B<=w.heap.size):
  ∃g c w',(Builtin.append_ #[23,23] 23 #[.slice (some ⟨g0,0,none⟩) 0 0,.slice (some ⟨w.heap.size,0,none⟩) 1 1]).run Tryz.prog (w.alloc (.cells #[.slice pa m pc,.bool fl,.int .i64 r,.int .i64 q,.string v] 65))=.ok (.slice (some ⟨g,0,none⟩) 1 c) w'/\ Below B w w'/\ g<w'.heap.size/\ w'.cell? ⟨g,0,none⟩=some (.slice pa m pc)/\ w'.cell? ⟨g,1,none⟩=some (.bool fl)/\ w'.cell? ⟨g,2,none⟩=some (.int .i64 r)/\ w'.cell? ⟨g,3,none⟩=some (.int .i64 q)/\ w'.cell? ⟨g,4,none⟩=some (.string v):=by
 obtain⟨i0,hi,hz0,hz1,hz2⟩:=info_parts infoLeaf;have b2:Below w.heap.size w (w.alloc (.cells #[.slice pa m pc,.bool fl,.int .i64 r,.int .i64 q,.string v] 65)):=(Below.refl _ _).alloc (Nat.le_refl _) _;have h2:=World.ownsRow.alloc h (.cells #[.slice pa m pc,.bool fl,.int .i64 r,.int .i64 q,.string v] 65);have hn5:=cell_five_new w (.slice pa m pc) (.bool fl) (.int .i64 r) (.int .i64 q) (.string v) 65;obtain⟨W2,hW2⟩:∃W2,w.alloc (.cells #[.slice pa m pc,.bool fl,.int .i64 r,.int .i64 q,.string v] 65)=W2:=⟨_,rfl⟩;rw [hW2] at h2 hn5 b2 ⊢;have hz:W2.heap.size=w.heap.size+1:=by rw [<- hW2];simp
 obtain⟨v',w3,hr,g2,g3,g4,g5⟩:=run_append_own_at (P:=Tryz.prog) W2 B 23 23 65 i0 _ 5 64 Tryz.underlying23 hi hz0 hz1 hz2 rfl (by decide) (.slice (some ⟨g0,0,none⟩) 0 0) 0 [] h2 ⟨w.heap.size,0,none⟩ 1 1 [.slice pa m pc,.bool fl,.int .i64 r,.int .i64 q,.string v] rfl hn5 (fun u hu=>by
  simp only [List.mem_cons,List.not_mem_nil,or_false] at hu;rcases hu with e|e|e|e|e<;>rw [e]<;>rfl) (by unfold maxLen;omega) (by omega) (by omega)
 rcases g2.2 with ⟨hv,h0⟩|⟨g,cap,cur,hv,hb,hh,r1,r2,r3,r4⟩
 ·omega
 subst hv;have hc:∀j,j<5 ->w3.cell? ⟨g,j,none⟩=([.slice pa m pc,.bool fl,.int .i64 r,.int .i64 q,.string v]:List Value)[j]? :=fun j hj=>World.ownsRow.cellAt g2 j (by omega);refine⟨g,cap,w3,hr,?_,(Array.getElem?_eq_some_iff.1 hh).1,hc 0 (by omega),hc 1 (by omega),hc 2 (by omega),hc 3 (by omega),hc 4 (by omega)⟩;exact(b2.mono hB).grown g3 (by omega) (fun k hk=>(World.ownsRow.lt h2 k hk).1)
theorem l3SetC (a:Option Addr)(c:Nat)(xa:Option Addr)(d:Nat)(pa:Option Addr)(pc:Nat)(S:Sx)(rep:Int)(p:List ByteArray)(fl on:Bool)(v:ByteArray)(w:World)(hm:S.Sm)(hT:I64 S.T)(h1:LCap w a S.l)(h3:RSeg w xa S.n S.R S.F S.T)(hp:p.length<=1048576)(hpc:p.length<=pc/\ pc<=9223372036854775807)(hseg:SSeg w pa p)(hv:v.size<=1048576)(hfv:fl=true ->emB v=true):
  Calls Tryz.prog 99 #[.agg #[.slice a S.l.length c,.slice xa S.n d],.int .i64 rep,.slice pa p.length pc,.bool fl,.bool on,.string v] w fun e w'=>∃a m x t a' m' x' t',e=.returned (.tuple #[.agg #[.slice a (seX S rep p fl on v).l.length m,.slice x (seX S rep p fl on v).n t],.agg #[.slice a' (seY S rep p fl on v).l.length m',.slice x' (seY S rep p fl on v).n t'],.int .i64 (seC S rep p fl on v)])/\ SNc w' w.heap.size a x (seX S rep p fl on v)/\ SNc w' w.heap.size a' x' (seY S rep p fl on v)/\ Below w.heap.size w w':=by
 obtain⟨W,hW⟩:∃W,((w.alloc (.cells #[.slice a S.l.length c,.slice xa S.n d] 28)).alloc (.cells #[.slice none 0 0,.slice none 0 0] 28)).alloc (.cells #[.slice none 0 0,.slice none 0 0] 28)=W:=⟨_,rfl⟩;have b0:Below w.heap.size w W:=by rw [<- hW];exact(below2 _ _ _).alloc (by simp;omega) _
 have zW:W.heap.size=w.heap.size+3:=by rw [<- hW];simp
 have A0:Bx2 W w.heap.size (.slice a S.l.length c) (.slice xa S.n d):=by rw [<- hW];exact((Bx2.made w _ _ _).allocs _).allocs _
 have R0:Bx2 W (w.heap.size+1) (.slice none 0 0) (.slice none 0 0):=by
  rw [<- hW];have:=Bx2.made (w.alloc (.cells #[.slice a S.l.length c,.slice xa S.n d] 28)) (.slice none 0 0) (.slice none 0 0) 28;exact(by simpa using this:Bx2 _ (w.heap.size+1) _ _).allocs _
 have Q0:Bx2 W (w.heap.size+1+1) (.slice none 0 0) (.slice none 0 0):=by
  rw [<- hW];simpa using Bx2.made ((w.alloc (.cells #[.slice a S.l.length c,.slice xa S.n d] 28)).alloc (.cells #[.slice none 0 0,.slice none 0 0] 28)) (.slice none 0 0) (.slice none 0 0) 28
 have HA0:=hid A0;have HR0:=hid R0;have HQ0:=hid Q0;have HB0:=hid b0;have HZW:=hid zW;have k0:=A0.c0;have k1:=A0.c1;have HOK:=hid (specStateOk a c S.l xa S.n d S.R S.F S.T W hm.l1 hm.p1 hm.n1 (h1.below b0) (h3.below b0));change Hid (Calls _ _ _ _ fun e w'=>e=.returned (.bool (stB S))/\ _) at HOK;have H1:=hid h1;have H3:=hid h3;have HSG:=hid hseg;have HPC:=hid hpc;have HFV:=hid hfv;have HN1:=hid hm.n1;obtain⟨B,hB⟩:∃B,stB S=B:=⟨_,rfl⟩;have HSB:=hid hB;rw [hB] at HOK;clear b0 zW A0 R0 Q0 h1 h3 hseg hB hpc hfv;go_enter Tryz.func99,Tryz.ntmps99;go_wp2_with fail;try rw [hW]
 clear hW;refine HOK.out.mono ?_;rintro e w1 ⟨rfl,b1⟩;have HBB:=hid (keepS HB0.out b1);have HRR1:=hid (HR0.out.below b1 HR0.out.lt);have HRR2:=hid (HQ0.out.below b1 HQ0.out.lt);have HA1:=hid (HA0.out.below b1 HA0.out.lt);have HZ1:Hid (w.heap.size+3<=w1.heap.size):=hid (by have:=HZW.out;have:=b1.size;omega);clear b1 k0 k1 HOK;cases B with
 | false=>
  have HZ:Hid (seX S rep p fl on v=Sx.mt/\ seY S rep p fl on v=Sx.mt/\ seC S rep p fl on v=1):=hid (by
   have e:=ocC_1 (p:=p) (v:=v) HSB.out;have:=se_n (S:=S) (rep:=rep) (p:=p) (fl:=fl) (on:=on) (v:=v) (by rw [e];decide);rw [e] at this;exact this)
  have TB:=twoB HRR1.out HRR2.out (show w.heap.size+1≠w.heap.size+1+1 by omega) (.slice none 0 0) (.slice none 0 0) (.slice none 0 0) (.slice none 0 0);have r0:=HRR1.out.c0;have r1:=HRR1.out.c1;have rf:=HRR1.out.f;have q0:=TB.1.c0;have q1:=TB.1.c1;have qf:=TB.1.f;have HTW:=hid TB.2;clear TB;go_wp2_with fail;obtain⟨X1,X2⟩:=HTW.out;refine bodyPost_ret (v:=.tuple #[.agg #[.slice none 0 0,.slice none 0 0],.agg #[.slice none 0 0,.slice none 0 0],.int .i64 1]) (by simp [results,Tryz.results99,go_sem,X1.c0,X1.c1,X2.c0,X2.c1]) rfl ?_;rw [HZ.out.1,HZ.out.2.1,HZ.out.2.2];have G3:=below4 HBB.out (show w.heap.size<=w.heap.size+1 by omega) (show w.heap.size<=w.heap.size+1+1 by omega) (.slice none 0 0) (.slice none 0 0) (.slice none 0 0) (.slice none 0 0);first
   | exact⟨none,0,none,0,none,0,none,0,rfl,SNc.mt _ _ _ _,SNc.mt _ _ _ _,G3⟩
   | exact⟨none,0,none,0,none,0,none,⟨0,rfl⟩,SNc.mt _ _ _ _,SNc.mt _ _ _ _,G3⟩
 | true=>
  have HPS:=hid (pathSpec p pa pc w1 hp (HSG.out.below HBB.out));obtain⟨Z,hZ⟩:∃Z,yes (PthOk p)=Z:=⟨_,rfl⟩;rw [hZ] at HPS;have HZp:=hid hZ;clear hZ;go_wp2_with fail;refine HPS.out.mono ?_;rintro e w2 ⟨rfl,rfl⟩;clear HPS;cases Z with
  | false=>
   have HZ:Hid (seX S rep p fl on v=Sx.mt/\ seY S rep p fl on v=Sx.mt/\ seC S rep p fl on v=2):=hid (by
    have e:=ocC_2 (p:=p) (v:=v) HSB.out (fun h=>by have:=HZp.out;rw [yes_t h.1] at this;cases this);have:=se_n (S:=S) (rep:=rep) (p:=p) (fl:=fl) (on:=on) (v:=v) (by rw [e];decide);rw [e] at this;exact this)
   have TB:=twoB HRR1.out HRR2.out (show w.heap.size+1≠w.heap.size+1+1 by omega) (.slice none 0 0) (.slice none 0 0) (.slice none 0 0) (.slice none 0 0);have r0:=HRR1.out.c0;have r1:=HRR1.out.c1;have rf:=HRR1.out.f;have q0:=TB.1.c0;have q1:=TB.1.c1;have qf:=TB.1.f;have HTW:=hid TB.2;clear TB;go_wp2_with fail;obtain⟨X1,X2⟩:=HTW.out;refine bodyPost_ret (v:=.tuple #[.agg #[.slice none 0 0,.slice none 0 0],.agg #[.slice none 0 0,.slice none 0 0],.int .i64 2]) (by simp [results,Tryz.results99,go_sem,X1.c0,X1.c1,X2.c0,X2.c1]) rfl ?_;rw [HZ.out.1,HZ.out.2.1,HZ.out.2.2];have G3:=below4 HBB.out (show w.heap.size<=w.heap.size+1 by omega) (show w.heap.size<=w.heap.size+1+1 by omega) (.slice none 0 0) (.slice none 0 0) (.slice none 0 0) (.slice none 0 0);first
    | exact⟨none,0,none,0,none,0,none,0,rfl,SNc.mt _ _ _ _,SNc.mt _ _ _ _,G3⟩
    | exact⟨none,0,none,0,none,0,none,⟨0,rfl⟩,SNc.mt _ _ _ _,SNc.mt _ _ _ _,G3⟩
  | true=>
   by_cases hvs:v.size<=200
   ·have i0:¬(v.size:Int)>200:=by omega
    have hpo:=yes_iff.1 HZp.out;have hs:=stB_t HSB.out;have HS0:=hid hs;have HPO:=hid hpo;have HVS:=hid hvs;have HO0:=hid (ocC_0 (p:=p) (v:=v) HSB.out ⟨hpo,hvs⟩);have HND:=hid (specNext xa S.n d S.R S.F S.T rep w2 HN1.out (H3.out.below HBB.out) hT);rw [next_ok hs] at HND;have l1:=HA1.out.c1;have hl1:S.l.length<=1000:=hs.2.1;clear hpo hs hvs;go_wp2_with fail;refine HND.out.mono ?_;rintro e w3 ⟨hy,hno,b3⟩;clear HND l1;obtain⟨dr,dq,ok,he,hok,hdq⟩:∃dr dq ok,e=.returned (.tuple #[.agg #[.int .i64 dr,.int .i64 dq],.bool ok])/\ ok=yes (nxOk S rep)/\ (ok=true ->dr=rep/\ dq=topK S.R S.T rep S.n+1):=by
     cases hk:yes (nxOk S rep) with
     | true=>exact⟨rep,topK S.R S.T rep S.n+1,true,hy hk,rfl,fun _=>⟨rfl,rfl⟩⟩
     | false=>exact⟨0,0,false,hno hk,rfl,fun h=>by cases h⟩
    clear hy hno;subst he;have HOKB:=hid hok;have HDQ:=hid hdq;clear hok hdq;obtain⟨u4,hu4⟩:∃u4,w3.alloc (.cells #[.int .i64 dr,.int .i64 dq] 63)=u4:=⟨_,rfl⟩;have b4:Below w3.heap.size w3 u4:=by rw [<- hu4];exact(Below.refl _ _).alloc (Nat.le_refl _) _
    have HD4:Hid (Bx2 u4 w3.heap.size (.int .i64 dr) (.int .i64 dq)):=hid (by rw [<- hu4];exact Bx2.made _ _ _ _);have HB24:=hid (keepS b3 b4);clear b3 b4;by_cases hsk:seOk S rep on
    ·have HSO:=hid hsk;have hr1:0<=rep:=hsk.1.1;have hr2:rep<8:=hsk.1.2;have hr3:¬rep<0:=by omega
     have hr4:¬8<=rep:=by omega
     have HZr:=hid (se_t (S:=S) (rep:=rep) (p:=p) (fl:=fl) (on:=on) (v:=v) HO0.out hsk);cases on with
     | true=>
      obtain rfl:ok=true:=by rw [HOKB.out];exact yes_t ⟨hsk.1,hsk.2 rfl⟩
      obtain⟨e1,e2⟩:=HDQ.out rfl;subst e1;have HYE:Hid (nxY S dr p fl v=⟨p,fl,dr,dq,v⟩):=hid (by unfold nxY;rw [<- e2]);have HSD:Hid (seD S dr p fl true v=dlS (gnS p fl) S.l [⟨p,fl,dr,dq,v⟩]):=hid (by unfold seD seP;rw [if_pos rfl,HYE.out]);have HPT:Hid (PtO S [⟨p,fl,dr,dq,v⟩]):=hid (by rw [<- HYE.out];exact nx_pto HS0.out HPO.out HVS.out HFV.out ⟨hsk.1,hsk.2 rfl⟩);clear hsk e2;have HA4:=hid (HA1.out.below HB24.out HA1.out.lt);have HB4:=hid (keepS HBB.out HB24.out);obtain⟨w5,hw5⟩:∃w5,u4.alloc (.cells #[] 4)=w5:=⟨_,rfl⟩;have b5:Below u4.heap.size u4 w5:=by rw [<- hw5];exact(Below.refl _ _).alloc (Nat.le_refl _) _
      have HG0:Hid (BR w5 u4.heap.size (.slice (some ⟨u4.heap.size,0,none⟩) 0 0) (gnB (gnS p fl) S.l 0)):=hid (by rw [<- hw5];exact BR.new _);have HB5:=hid b5;clear b5;go_wp2_with fail;try rw [hu4]
      try rw [hw5]
      clear hw5 hu4;go_loopw [17,18] (fun o i wr=>∃k:Nat,k<=S.l.length/\ i=.int .i64 k/\ Hid (Below u4.heap.size u4 wr)/\ Hid (BR wr u4.heap.size o (gnB (gnS p fl) S.l k))) (fun _ i _=>S.l.length - (intOf i).toNat);case atStart=>exact⟨0,Nat.zero_le _,rfl,HB5,HG0⟩
      case round=>
       clear HB5 HG0;obtain⟨k,hk,rfl,HB,HO⟩:=hrel;have HLW:=hid (keepS HB4.out HB.out);have A1:=HA4.out.below HB.out HA4.out.lt;have k0:=A1.c0;have k1:=A1.c1;by_cases hlt:k<S.l.length
       ·have i1:(0:Int)<=(k:Int):=Int.natCast_nonneg _;have i2:(k:Int)<(S.l.length:Int):=by omega
        obtain⟨ab,ao,rfl,hab,hcs⟩:=(H1.out).resolve_left (by omega);obtain⟨qa,qc,⟨c0,hcap⟩,sg,c1,c2,c3,c4⟩:=hcs k hlt;have x0:=(HLW.out.cell (p:=⟨ab,ao+k*5,none⟩) hab).trans c0;have x1:=(HLW.out.cell (p:=⟨ab,ao+k*5+1,none⟩) hab).trans c1;have HC:=hid (cmpSpec (gL S.l k).p p qa pa qc pc wr hcap.1 HPC.out.1 hcap.2 HPC.out.2 (sg.below HLW.out) (HSG.out.below HLW.out));have HPZ:Hid (cmpP (gL S.l k).p p=0↔(gL S.l k).p=p):=hid cmpP_z;have HSTEP:Hid (gnB (gnS p fl) S.l (k+1)=gnB (gnS p fl) S.l k++[yes ((gL S.l k).p=p/\ (gL S.l k).fl=fl)]):=hid (gnB_succ hlt);obtain⟨y,hy⟩:∃y,gL S.l k=y:=⟨_,rfl⟩;rw [hy] at x0 x1 HC HPZ HSTEP;obtain⟨lp,yf,yr,yq,yv⟩:=y;dsimp only at x0 x1 HC HPZ HSTEP;obtain⟨C,hC⟩:∃C,cmpP lp p=C:=⟨_,rfl⟩;rw [hC] at HPZ HC;clear hC hy hcs sg c0 c1 c2 c3 c4 hcap hab A1;go_wp2_with fail;refine HC.out.mono ?_;rintro e w6 ⟨rfl,dn,hw6⟩;have HB6:Hid (Below u4.heap.size u4 w6):=hid (by rw [hw6];exact below_drewS HB.out dn);have o6:BR w6 u4.heap.size u17 (gnB (gnS p fl) S.l k):=by rw [hw6];exact HO.out.below (below_drewS (Below.refl _ _) dn)
        have y1:w6.cell? ⟨ab,ao+k*5+1,none⟩=some (.bool yf):=by rw [hw6];simpa using x1
        have m0:w6.cell? ⟨w.heap.size,0,none⟩=some (.slice (some ⟨ab,ao,none⟩) S.l.length c):=by rw [hw6];simpa using k0
        have HAP:Hid (∀bb,yes (lp=p/\ yf=fl)=bb ->∃v7 w7,(Builtin.append_ #[153,153] 153 #[u17,.slice (some ⟨w6.heap.size,0,none⟩) 1 1]).run Tryz.prog (w6.alloc (.cells #[.bool bb] 4))=.ok v7 w7/\ BR w7 u4.heap.size v7 (gnB (gnS p fl) S.l (k+1))/\ Below u4.heap.size u4 w7):=hid (fun bb hbb=>by
         obtain⟨v7,w7,h1,h2,h3⟩:=boolApp u4.heap.size w6 u17 (gnB (gnS p fl) S.l k) bb o6 HB6.out.size (by have:=gnB_le (gnS p fl) S.l k;omega);exact⟨v7,w7,h1,by rw [HSTEP.out,hbb];exact h2,HB6.out.trans h3⟩)
        clear HC hw6 o6 x0 x1 k0 k1 HO HSTEP;by_cases hz:C=0
        ·have d0:(C==0)=true:=by simpa using hz
         cases yf<;>cases fl
         ·obtain⟨v7,w7,happ,o7,b7⟩:=HAP.out true (yes_t ⟨HPZ.out.1 hz,rfl⟩);have HB7:=hid b7;have HO7:=hid o7;clear HAP o7 b7;go_wp2_with (at_builtin;refine wpList_app2 rfl _ _ _ _ rfl happ (by rfl) (by rfl) rfl ?_;clear happ);go_roundw;case rel=>exact⟨k+1,hlt,by go_num,HB7,HO7⟩
          case measure=>simp [intOf];omega
         ·obtain⟨v7,w7,happ,o7,b7⟩:=HAP.out false (yes_f (fun h=>by cases h.2));have HB7:=hid b7;have HO7:=hid o7;clear HAP o7 b7;go_wp2_with (at_builtin;refine wpList_app2 rfl _ _ _ _ rfl happ (by rfl) (by rfl) rfl ?_;clear happ);go_roundw;case rel=>exact⟨k+1,hlt,by go_num,HB7,HO7⟩
          case measure=>simp [intOf];omega
         ·obtain⟨v7,w7,happ,o7,b7⟩:=HAP.out false (yes_f (fun h=>by cases h.2));have HB7:=hid b7;have HO7:=hid o7;clear HAP o7 b7;go_wp2_with (at_builtin;refine wpList_app2 rfl _ _ _ _ rfl happ (by rfl) (by rfl) rfl ?_;clear happ);go_roundw;case rel=>exact⟨k+1,hlt,by go_num,HB7,HO7⟩
          case measure=>simp [intOf];omega
         ·obtain⟨v7,w7,happ,o7,b7⟩:=HAP.out true (yes_t ⟨HPZ.out.1 hz,rfl⟩);have HB7:=hid b7;have HO7:=hid o7;clear HAP o7 b7;go_wp2_with (at_builtin;refine wpList_app2 rfl _ _ _ _ rfl happ (by rfl) (by rfl) rfl ?_;clear happ);go_roundw;case rel=>exact⟨k+1,hlt,by go_num,HB7,HO7⟩
          case measure=>simp [intOf];omega
        ·have d0:(C==0)=false:=by simpa using hz
         obtain⟨v7,w7,happ,o7,b7⟩:=HAP.out false (yes_f (fun h=>hz (HPZ.out.2 h.1)));have HB7:=hid b7;have HO7:=hid o7;clear HAP o7 b7;go_wp2_with (at_builtin;refine wpList_app2 rfl _ _ _ _ rfl happ (by rfl) (by rfl) rfl ?_;clear happ);go_roundw;case rel=>exact⟨k+1,hlt,by go_num,HB7,HO7⟩
         case measure=>simp [intOf];omega
       ·obtain rfl:k=S.l.length:=by omega
        obtain⟨gg,gc,hvv,hgl,hgc⟩:=HO.out.cells;subst hvv;rw [gnB_len];rw [gnB_len] at hgc;obtain⟨w5,hw5⟩:∃w5,wr.alloc (.cells #[] 65)=w5:=⟨_,rfl⟩;have b5:Below wr.heap.size wr w5:=by rw [<- hw5];exact(Below.refl _ _).alloc (Nat.le_refl _) _
        have hrow:w5.ownsRow wr.heap.size 65 5 (.slice (some ⟨wr.heap.size,0,none⟩) 0 0) 0 []:=by
         rw [<- hw5];exact World.ownsRow_lit (base:=wr.heap.size) (e:=65) (size:=5) wr #[] 0 (Nat.le_refl _) (by unfold maxLen;omega) rfl
        obtain⟨g7,c7,w7,happ,b7,hg7,q0,q1,q2,q3,q4⟩:=leafApp1 wr.heap.size w5 wr.heap.size pa p.length pc fl dr dq v hrow b5.size;have bW:Below wr.heap.size wr w7:=b5.trans b7;have hput:LCap w7 (some ⟨g7,0,none⟩) [(⟨p,fl,dr,dq,v⟩:Lf)]:=by
         refine .inr ⟨g7,0,rfl,hg7,fun i hi=> ?_⟩;obtain rfl:i=0:=by simpa using hi
         exact⟨pa,pc,⟨q0,HPC.out⟩,(HSG.out.below HLW.out).below bW,q1,q2,q3,q4⟩
        have D5:=(HD4.out.below HB.out HD4.out.lt).below b5 (HD4.out.below HB.out HD4.out.lt).lt;have t0:=D5.c0;have t1:=D5.c1;have A7:=(HA4.out.below HB.out HA4.out.lt).below bW (HA4.out.below HB.out HA4.out.lt).lt;have t2:=A7.c0;have t3:=A7.c1;have b25:=keepS HB.out bW;have bl5:=keepS HLW.out bW;have HCH:=hid (l3ChangeC (gnS p fl) [⟨p,fl,dr,dq,v⟩] a c xa d gg gc (some ⟨g7,0,none⟩) c7 S w7 HS0.out HPT.out (H1.out.below bl5) (H3.out.below bl5) (Nat.lt_of_lt_of_le hgl bW.size) (fun i hi=>by
         rw [<- gnB_at hi];exact(bW.cell (p:=⟨gg,i,none⟩) hgl).trans (hgc i hi)) hput)
        obtain⟨X,hX⟩:∃X,chX S (dlS (gnS p fl) S.l [⟨p,fl,dr,dq,v⟩])=X:=⟨_,rfl⟩;obtain⟨Y,hY⟩:∃Y,chY S (dlS (gnS p fl) S.l [⟨p,fl,dr,dq,v⟩])=Y:=⟨_,rfl⟩;obtain⟨Cc,hCc⟩:∃Cc,chC S (dlS (gnS p fl) S.l [⟨p,fl,dr,dq,v⟩])=Cc:=⟨_,rfl⟩;rw [hX,hY,hCc] at HCH;have HXYC:Hid (seX S dr p fl true v=X/\ seY S dr p fl true v=Y/\ seC S dr p fl true v=Cc):=hid (by
         obtain⟨z1,z2,z3⟩:=HZr.out;rw [HSD.out] at z1 z2 z3;exact⟨z1.trans hX,z2.trans hY,z3.trans hCc⟩)
        have HB25:=hid b25;have HZ3:Hid (w.heap.size+3<=w7.heap.size):=hid (by have h1:=HZ1.out;have h2:=b25.size;have h3:=HB24.out.size;omega);clear hX hY hCc hgl hgc b25 bl5 HO A1 A7 bW hrow k0 k1;have k0:=(HA4.out.below HB.out HA4.out.lt).c0;clear b5 D5 hput q0 q1 q2 q3 q4 hg7 b7 HB;go_wp2_with (at_builtin;refine wpList_app2 rfl _ _ _ _ rfl happ (by rfl) (by rfl) rfl ?_;clear happ);refine HCH.out.mono ?_;rintro e w4 ⟨ra,rc,rx,rd,ra',rc',rx',rd',rfl,ox,oy,b4⟩;have b24:=keepS HB24.out (keepS HB25.out b4);have HR1x:=hid (HRR1.out.below b24 HRR1.out.lt);have HR2x:=hid (HRR2.out.below b24 HRR2.out.lt);have HBx:=hid (keepS HBB.out b24);have HOX:=hid ox;have HOY:=hid oy;clear b4 b24 ox oy HCH t2 t3 k0 HRR1 HRR2 HBB;try clear t0 t1
        have HRR1:=HR1x;have HRR2:=HR2x;have HBB:=HBx;clear HR1x HR2x HBx;have TB:=twoB HRR1.out HRR2.out (show w.heap.size+1≠w.heap.size+1+1 by omega) (.slice ra X.l.length rc) (.slice rx X.n rd) (.slice ra' Y.l.length rc') (.slice rx' Y.n rd');have r0:=HRR1.out.c0;have r1:=HRR1.out.c1;have rf:=HRR1.out.f;have q0:=TB.1.c0;have q1:=TB.1.c1;have qf:=TB.1.f;have HTW:=hid TB.2;clear TB;go_wp2_with fail;obtain⟨X1,X2⟩:=HTW.out;refine bodyPost_ret (v:=.tuple #[.agg #[.slice ra X.l.length rc,.slice rx X.n rd],.agg #[.slice ra' Y.l.length rc',.slice rx' Y.n rd'],.int .i64 Cc]) (by simp [results,Tryz.results99,go_sem,X1.c0,X1.c1,X2.c0,X2.c1]) rfl ?_;have hz:=HZ3.out;have G3:=below4 HBB.out (show w.heap.size<=w.heap.size+1 by omega) (show w.heap.size<=w.heap.size+1+1 by omega) (.slice ra X.l.length rc) (.slice rx X.n rd) (.slice ra' Y.l.length rc') (.slice rx' Y.n rd');rw [HXYC.out.1,HXYC.out.2.1,HXYC.out.2.2];have G1:=snc4 (r1:=w.heap.size+1) (r2:=w.heap.size+1+1) HOX.out (show w.heap.size<=w7.heap.size by omega) (show w.heap.size+1<w7.heap.size by omega) (show w.heap.size+1+1<w7.heap.size by omega) (.slice ra X.l.length rc) (.slice rx X.n rd) (.slice ra' Y.l.length rc') (.slice rx' Y.n rd');have G2:=snc4 (r1:=w.heap.size+1) (r2:=w.heap.size+1+1) HOY.out (show w.heap.size<=w7.heap.size by omega) (show w.heap.size+1<w7.heap.size by omega) (show w.heap.size+1+1<w7.heap.size by omega) (.slice ra X.l.length rc) (.slice rx X.n rd) (.slice ra' Y.l.length rc') (.slice rx' Y.n rd');first
         | exact⟨ra,rc,rx,rd,ra',rc',rx',rd',rfl,G1,G2,G3⟩
         | exact⟨ra,rc,rx,rd,ra',rc',rx',⟨rd',rfl⟩,G1,G2,G3⟩
     | false=>
      have HSD:Hid (seD S rep p fl false v=dlS (gnS p fl) S.l []):=hid rfl;clear hsk;have HA4:=hid (HA1.out.below HB24.out HA1.out.lt);have HB4:=hid (keepS HBB.out HB24.out);obtain⟨w5,hw5⟩:∃w5,u4.alloc (.cells #[] 4)=w5:=⟨_,rfl⟩;have b5:Below u4.heap.size u4 w5:=by rw [<- hw5];exact(Below.refl _ _).alloc (Nat.le_refl _) _
      have HG0:Hid (BR w5 u4.heap.size (.slice (some ⟨u4.heap.size,0,none⟩) 0 0) (gnB (gnS p fl) S.l 0)):=hid (by rw [<- hw5];exact BR.new _);have HB5:=hid b5;clear b5;go_wp2_with fail;try rw [hu4]
      try rw [hw5]
      clear hw5 hu4;go_loopw [17,18] (fun o i wr=>∃k:Nat,k<=S.l.length/\ i=.int .i64 k/\ Hid (Below u4.heap.size u4 wr)/\ Hid (BR wr u4.heap.size o (gnB (gnS p fl) S.l k))) (fun _ i _=>S.l.length - (intOf i).toNat);case atStart=>exact⟨0,Nat.zero_le _,rfl,HB5,HG0⟩
      case round=>
       clear HB5 HG0;obtain⟨k,hk,rfl,HB,HO⟩:=hrel;have HLW:=hid (keepS HB4.out HB.out);have A1:=HA4.out.below HB.out HA4.out.lt;have k0:=A1.c0;have k1:=A1.c1;by_cases hlt:k<S.l.length
       ·have i1:(0:Int)<=(k:Int):=Int.natCast_nonneg _;have i2:(k:Int)<(S.l.length:Int):=by omega
        obtain⟨ab,ao,rfl,hab,hcs⟩:=(H1.out).resolve_left (by omega);obtain⟨qa,qc,⟨c0,hcap⟩,sg,c1,c2,c3,c4⟩:=hcs k hlt;have x0:=(HLW.out.cell (p:=⟨ab,ao+k*5,none⟩) hab).trans c0;have x1:=(HLW.out.cell (p:=⟨ab,ao+k*5+1,none⟩) hab).trans c1;have HC:=hid (cmpSpec (gL S.l k).p p qa pa qc pc wr hcap.1 HPC.out.1 hcap.2 HPC.out.2 (sg.below HLW.out) (HSG.out.below HLW.out));have HPZ:Hid (cmpP (gL S.l k).p p=0↔(gL S.l k).p=p):=hid cmpP_z;have HSTEP:Hid (gnB (gnS p fl) S.l (k+1)=gnB (gnS p fl) S.l k++[yes ((gL S.l k).p=p/\ (gL S.l k).fl=fl)]):=hid (gnB_succ hlt);obtain⟨y,hy⟩:∃y,gL S.l k=y:=⟨_,rfl⟩;rw [hy] at x0 x1 HC HPZ HSTEP;obtain⟨lp,yf,yr,yq,yv⟩:=y;dsimp only at x0 x1 HC HPZ HSTEP;obtain⟨C,hC⟩:∃C,cmpP lp p=C:=⟨_,rfl⟩;rw [hC] at HPZ HC;clear hC hy hcs sg c0 c1 c2 c3 c4 hcap hab A1;go_wp2_with fail;refine HC.out.mono ?_;rintro e w6 ⟨rfl,dn,hw6⟩;have HB6:Hid (Below u4.heap.size u4 w6):=hid (by rw [hw6];exact below_drewS HB.out dn);have o6:BR w6 u4.heap.size u17 (gnB (gnS p fl) S.l k):=by rw [hw6];exact HO.out.below (below_drewS (Below.refl _ _) dn)
        have y1:w6.cell? ⟨ab,ao+k*5+1,none⟩=some (.bool yf):=by rw [hw6];simpa using x1
        have m0:w6.cell? ⟨w.heap.size,0,none⟩=some (.slice (some ⟨ab,ao,none⟩) S.l.length c):=by rw [hw6];simpa using k0
        have HAP:Hid (∀bb,yes (lp=p/\ yf=fl)=bb ->∃v7 w7,(Builtin.append_ #[153,153] 153 #[u17,.slice (some ⟨w6.heap.size,0,none⟩) 1 1]).run Tryz.prog (w6.alloc (.cells #[.bool bb] 4))=.ok v7 w7/\ BR w7 u4.heap.size v7 (gnB (gnS p fl) S.l (k+1))/\ Below u4.heap.size u4 w7):=hid (fun bb hbb=>by
         obtain⟨v7,w7,h1,h2,h3⟩:=boolApp u4.heap.size w6 u17 (gnB (gnS p fl) S.l k) bb o6 HB6.out.size (by have:=gnB_le (gnS p fl) S.l k;omega);exact⟨v7,w7,h1,by rw [HSTEP.out,hbb];exact h2,HB6.out.trans h3⟩)
        clear HC hw6 o6 x0 x1 k0 k1 HO HSTEP;by_cases hz:C=0
        ·have d0:(C==0)=true:=by simpa using hz
         cases yf<;>cases fl
         ·obtain⟨v7,w7,happ,o7,b7⟩:=HAP.out true (yes_t ⟨HPZ.out.1 hz,rfl⟩);have HB7:=hid b7;have HO7:=hid o7;clear HAP o7 b7;go_wp2_with (at_builtin;refine wpList_app2 rfl _ _ _ _ rfl happ (by rfl) (by rfl) rfl ?_;clear happ);go_roundw;case rel=>exact⟨k+1,hlt,by go_num,HB7,HO7⟩
          case measure=>simp [intOf];omega
         ·obtain⟨v7,w7,happ,o7,b7⟩:=HAP.out false (yes_f (fun h=>by cases h.2));have HB7:=hid b7;have HO7:=hid o7;clear HAP o7 b7;go_wp2_with (at_builtin;refine wpList_app2 rfl _ _ _ _ rfl happ (by rfl) (by rfl) rfl ?_;clear happ);go_roundw;case rel=>exact⟨k+1,hlt,by go_num,HB7,HO7⟩
          case measure=>simp [intOf];omega
         ·obtain⟨v7,w7,happ,o7,b7⟩:=HAP.out false (yes_f (fun h=>by cases h.2));have HB7:=hid b7;have HO7:=hid o7;clear HAP o7 b7;go_wp2_with (at_builtin;refine wpList_app2 rfl _ _ _ _ rfl happ (by rfl) (by rfl) rfl ?_;clear happ);go_roundw;case rel=>exact⟨k+1,hlt,by go_num,HB7,HO7⟩
          case measure=>simp [intOf];omega
         ·obtain⟨v7,w7,happ,o7,b7⟩:=HAP.out true (yes_t ⟨HPZ.out.1 hz,rfl⟩);have HB7:=hid b7;have HO7:=hid o7;clear HAP o7 b7;go_wp2_with (at_builtin;refine wpList_app2 rfl _ _ _ _ rfl happ (by rfl) (by rfl) rfl ?_;clear happ);go_roundw;case rel=>exact⟨k+1,hlt,by go_num,HB7,HO7⟩
          case measure=>simp [intOf];omega
        ·have d0:(C==0)=false:=by simpa using hz
         obtain⟨v7,w7,happ,o7,b7⟩:=HAP.out false (yes_f (fun h=>hz (HPZ.out.2 h.1)));have HB7:=hid b7;have HO7:=hid o7;clear HAP o7 b7;go_wp2_with (at_builtin;refine wpList_app2 rfl _ _ _ _ rfl happ (by rfl) (by rfl) rfl ?_;clear happ);go_roundw;case rel=>exact⟨k+1,hlt,by go_num,HB7,HO7⟩
         case measure=>simp [intOf];omega
       ·obtain rfl:k=S.l.length:=by omega
        obtain⟨gg,gc,hvv,hgl,hgc⟩:=HO.out.cells;subst hvv;rw [gnB_len];rw [gnB_len] at hgc;obtain⟨w5,hw5⟩:∃w5,wr.alloc (.cells #[] 65)=w5:=⟨_,rfl⟩;have b5:Below wr.heap.size wr w5:=by rw [<- hw5];exact(Below.refl _ _).alloc (Nat.le_refl _) _
        have hrow:w5.ownsRow wr.heap.size 65 5 (.slice (some ⟨wr.heap.size,0,none⟩) 0 0) 0 []:=by
         rw [<- hw5];exact World.ownsRow_lit (base:=wr.heap.size) (e:=65) (size:=5) wr #[] 0 (Nat.le_refl _) (by unfold maxLen;omega) rfl
        have bW:=b5;have A7:=(HA4.out.below HB.out HA4.out.lt).below bW (HA4.out.below HB.out HA4.out.lt).lt;have t2:=A7.c0;have t3:=A7.c1;have b25:=keepS HB.out bW;have bl5:=keepS HLW.out bW;have HCH:=hid (l3ChangeC (gnS p fl) [] a c xa d gg gc (some ⟨wr.heap.size,0,none⟩) 0 S w5 HS0.out (PtO.nil S) (H1.out.below bl5) (H3.out.below bl5) (Nat.lt_of_lt_of_le hgl bW.size) (fun i hi=>by
         rw [<- gnB_at hi];exact(bW.cell (p:=⟨gg,i,none⟩) hgl).trans (hgc i hi)) (.inl rfl))
        obtain⟨X,hX⟩:∃X,chX S (dlS (gnS p fl) S.l [])=X:=⟨_,rfl⟩;obtain⟨Y,hY⟩:∃Y,chY S (dlS (gnS p fl) S.l [])=Y:=⟨_,rfl⟩;obtain⟨Cc,hCc⟩:∃Cc,chC S (dlS (gnS p fl) S.l [])=Cc:=⟨_,rfl⟩;rw [hX,hY,hCc] at HCH;have HXYC:Hid (seX S rep p fl false v=X/\ seY S rep p fl false v=Y/\ seC S rep p fl false v=Cc):=hid (by
         obtain⟨z1,z2,z3⟩:=HZr.out;rw [HSD.out] at z1 z2 z3;exact⟨z1.trans hX,z2.trans hY,z3.trans hCc⟩)
        have HB25:=hid b25;have HZ3:Hid (w.heap.size+3<=w5.heap.size):=hid (by have h1:=HZ1.out;have h2:=b25.size;have h3:=HB24.out.size;omega);clear hX hY hCc hgl hgc b25 bl5 HO A1 A7 bW hrow k0 k1;have k0:=(HA4.out.below HB.out HA4.out.lt).c0;clear b5 HB;go_wp2_with fail;try rw [hw5]
        clear hw5;refine HCH.out.mono ?_;rintro e w4 ⟨ra,rc,rx,rd,ra',rc',rx',rd',rfl,ox,oy,b4⟩;have b24:=keepS HB24.out (keepS HB25.out b4);have HR1x:=hid (HRR1.out.below b24 HRR1.out.lt);have HR2x:=hid (HRR2.out.below b24 HRR2.out.lt);have HBx:=hid (keepS HBB.out b24);have HOX:=hid ox;have HOY:=hid oy;clear b4 b24 ox oy HCH t2 t3 k0 HRR1 HRR2 HBB;try clear t0 t1
        have HRR1:=HR1x;have HRR2:=HR2x;have HBB:=HBx;clear HR1x HR2x HBx;have TB:=twoB HRR1.out HRR2.out (show w.heap.size+1≠w.heap.size+1+1 by omega) (.slice ra X.l.length rc) (.slice rx X.n rd) (.slice ra' Y.l.length rc') (.slice rx' Y.n rd');have r0:=HRR1.out.c0;have r1:=HRR1.out.c1;have rf:=HRR1.out.f;have q0:=TB.1.c0;have q1:=TB.1.c1;have qf:=TB.1.f;have HTW:=hid TB.2;clear TB;go_wp2_with fail;obtain⟨X1,X2⟩:=HTW.out;refine bodyPost_ret (v:=.tuple #[.agg #[.slice ra X.l.length rc,.slice rx X.n rd],.agg #[.slice ra' Y.l.length rc',.slice rx' Y.n rd'],.int .i64 Cc]) (by simp [results,Tryz.results99,go_sem,X1.c0,X1.c1,X2.c0,X2.c1]) rfl ?_;have hz:=HZ3.out;have G3:=below4 HBB.out (show w.heap.size<=w.heap.size+1 by omega) (show w.heap.size<=w.heap.size+1+1 by omega) (.slice ra X.l.length rc) (.slice rx X.n rd) (.slice ra' Y.l.length rc') (.slice rx' Y.n rd');rw [HXYC.out.1,HXYC.out.2.1,HXYC.out.2.2];have G1:=snc4 (r1:=w.heap.size+1) (r2:=w.heap.size+1+1) HOX.out (show w.heap.size<=w5.heap.size by omega) (show w.heap.size+1<w5.heap.size by omega) (show w.heap.size+1+1<w5.heap.size by omega) (.slice ra X.l.length rc) (.slice rx X.n rd) (.slice ra' Y.l.length rc') (.slice rx' Y.n rd');have G2:=snc4 (r1:=w.heap.size+1) (r2:=w.heap.size+1+1) HOY.out (show w.heap.size<=w5.heap.size by omega) (show w.heap.size+1<w5.heap.size by omega) (show w.heap.size+1+1<w5.heap.size by omega) (.slice ra X.l.length rc) (.slice rx X.n rd) (.slice ra' Y.l.length rc') (.slice rx' Y.n rd');first
         | exact⟨ra,rc,rx,rd,ra',rc',rx',rd',rfl,G1,G2,G3⟩
         | exact⟨ra,rc,rx,rd,ra',rc',rx',⟨rd',rfl⟩,G1,G2,G3⟩
    ·have HZ:=hid (se_3 (S:=S) (rep:=rep) (p:=p) (fl:=fl) (on:=on) (v:=v) HO0.out hsk);by_cases hr:0<=rep/\ rep<8
     ·have hr1:0<=rep:=hr.1;have hr2:rep<8:=hr.2;have hr3:¬rep<0:=by omega
      have hr4:¬8<=rep:=by omega
      cases on with
      | true=>
       obtain rfl:ok=false:=by rw [HOKB.out];exact yes_f (fun h=>hsk ⟨hr,fun _=>h.2⟩)
       clear hsk hr;have HRx1:=hid (HRR1.out.below HB24.out HRR1.out.lt);have HRx2:=hid (HRR2.out.below HB24.out HRR2.out.lt);have HBx:=hid (keepS HBB.out HB24.out);clear HRR1 HRR2 HBB HB24 HD4;have HRR1:=HRx1;have HRR2:=HRx2;have HBB:=HBx;clear HRx1 HRx2 HBx;have TB:=twoB HRR1.out HRR2.out (show w.heap.size+1≠w.heap.size+1+1 by omega) (.slice none 0 0) (.slice none 0 0) (.slice none 0 0) (.slice none 0 0);have r0:=HRR1.out.c0;have r1:=HRR1.out.c1;have rf:=HRR1.out.f;have q0:=TB.1.c0;have q1:=TB.1.c1;have qf:=TB.1.f;have HTW:=hid TB.2;clear TB;go_wp2_with fail;try rw [hu4]
       obtain⟨X1,X2⟩:=HTW.out;refine bodyPost_ret (v:=.tuple #[.agg #[.slice none 0 0,.slice none 0 0],.agg #[.slice none 0 0,.slice none 0 0],.int .i64 3]) (by simp [results,Tryz.results99,go_sem,X1.c0,X1.c1,X2.c0,X2.c1]) rfl ?_;rw [HZ.out.1,HZ.out.2.1,HZ.out.2.2];have G3:=below4 HBB.out (show w.heap.size<=w.heap.size+1 by omega) (show w.heap.size<=w.heap.size+1+1 by omega) (.slice none 0 0) (.slice none 0 0) (.slice none 0 0) (.slice none 0 0);first
        | exact⟨none,0,none,0,none,0,none,0,rfl,SNc.mt _ _ _ _,SNc.mt _ _ _ _,G3⟩
        | exact⟨none,0,none,0,none,0,none,⟨0,rfl⟩,SNc.mt _ _ _ _,SNc.mt _ _ _ _,G3⟩
      | false=>exact absurd ⟨hr,fun h=>by cases h⟩ hsk
     ·by_cases hr3:rep<0
      ·clear hsk hr;have HRx1:=hid (HRR1.out.below HB24.out HRR1.out.lt);have HRx2:=hid (HRR2.out.below HB24.out HRR2.out.lt);have HBx:=hid (keepS HBB.out HB24.out);clear HRR1 HRR2 HBB HB24 HD4;have HRR1:=HRx1;have HRR2:=HRx2;have HBB:=HBx;clear HRx1 HRx2 HBx;have TB:=twoB HRR1.out HRR2.out (show w.heap.size+1≠w.heap.size+1+1 by omega) (.slice none 0 0) (.slice none 0 0) (.slice none 0 0) (.slice none 0 0);have r0:=HRR1.out.c0;have r1:=HRR1.out.c1;have rf:=HRR1.out.f;have q0:=TB.1.c0;have q1:=TB.1.c1;have qf:=TB.1.f;have HTW:=hid TB.2;clear TB;go_wp2_with fail;try rw [hu4]
       obtain⟨X1,X2⟩:=HTW.out;refine bodyPost_ret (v:=.tuple #[.agg #[.slice none 0 0,.slice none 0 0],.agg #[.slice none 0 0,.slice none 0 0],.int .i64 3]) (by simp [results,Tryz.results99,go_sem,X1.c0,X1.c1,X2.c0,X2.c1]) rfl ?_;rw [HZ.out.1,HZ.out.2.1,HZ.out.2.2];have G3:=below4 HBB.out (show w.heap.size<=w.heap.size+1 by omega) (show w.heap.size<=w.heap.size+1+1 by omega) (.slice none 0 0) (.slice none 0 0) (.slice none 0 0) (.slice none 0 0);first
        | exact⟨none,0,none,0,none,0,none,0,rfl,SNc.mt _ _ _ _,SNc.mt _ _ _ _,G3⟩
        | exact⟨none,0,none,0,none,0,none,⟨0,rfl⟩,SNc.mt _ _ _ _,SNc.mt _ _ _ _,G3⟩
      ·have hr1:0<=rep:=by omega
       have hr4:8<=rep:=by omega
       have hr2:¬rep<8:=by omega
       clear hsk hr;have HRx1:=hid (HRR1.out.below HB24.out HRR1.out.lt);have HRx2:=hid (HRR2.out.below HB24.out HRR2.out.lt);have HBx:=hid (keepS HBB.out HB24.out);clear HRR1 HRR2 HBB HB24 HD4;have HRR1:=HRx1;have HRR2:=HRx2;have HBB:=HBx;clear HRx1 HRx2 HBx;have TB:=twoB HRR1.out HRR2.out (show w.heap.size+1≠w.heap.size+1+1 by omega) (.slice none 0 0) (.slice none 0 0) (.slice none 0 0) (.slice none 0 0);have r0:=HRR1.out.c0;have r1:=HRR1.out.c1;have rf:=HRR1.out.f;have q0:=TB.1.c0;have q1:=TB.1.c1;have qf:=TB.1.f;have HTW:=hid TB.2;clear TB;go_wp2_with fail;try rw [hu4]
       obtain⟨X1,X2⟩:=HTW.out;refine bodyPost_ret (v:=.tuple #[.agg #[.slice none 0 0,.slice none 0 0],.agg #[.slice none 0 0,.slice none 0 0],.int .i64 3]) (by simp [results,Tryz.results99,go_sem,X1.c0,X1.c1,X2.c0,X2.c1]) rfl ?_;rw [HZ.out.1,HZ.out.2.1,HZ.out.2.2];have G3:=below4 HBB.out (show w.heap.size<=w.heap.size+1 by omega) (show w.heap.size<=w.heap.size+1+1 by omega) (.slice none 0 0) (.slice none 0 0) (.slice none 0 0) (.slice none 0 0);first
        | exact⟨none,0,none,0,none,0,none,0,rfl,SNc.mt _ _ _ _,SNc.mt _ _ _ _,G3⟩
        | exact⟨none,0,none,0,none,0,none,⟨0,rfl⟩,SNc.mt _ _ _ _,SNc.mt _ _ _ _,G3⟩
   ·have i0:(v.size:Int)>200:=by omega
    have HZ:Hid (seX S rep p fl on v=Sx.mt/\ seY S rep p fl on v=Sx.mt/\ seC S rep p fl on v=2):=hid (by
     have e:=ocC_2 (p:=p) (v:=v) HSB.out (fun h=>hvs h.2);have:=se_n (S:=S) (rep:=rep) (p:=p) (fl:=fl) (on:=on) (v:=v) (by rw [e];decide);rw [e] at this;exact this)
    clear hvs;have TB:=twoB HRR1.out HRR2.out (show w.heap.size+1≠w.heap.size+1+1 by omega) (.slice none 0 0) (.slice none 0 0) (.slice none 0 0) (.slice none 0 0);have r0:=HRR1.out.c0;have r1:=HRR1.out.c1;have rf:=HRR1.out.f;have q0:=TB.1.c0;have q1:=TB.1.c1;have qf:=TB.1.f;have HTW:=hid TB.2;clear TB;go_wp2_with fail;obtain⟨X1,X2⟩:=HTW.out;refine bodyPost_ret (v:=.tuple #[.agg #[.slice none 0 0,.slice none 0 0],.agg #[.slice none 0 0,.slice none 0 0],.int .i64 2]) (by simp [results,Tryz.results99,go_sem,X1.c0,X1.c1,X2.c0,X2.c1]) rfl ?_;rw [HZ.out.1,HZ.out.2.1,HZ.out.2.2];have G3:=below4 HBB.out (show w.heap.size<=w.heap.size+1 by omega) (show w.heap.size<=w.heap.size+1+1 by omega) (.slice none 0 0) (.slice none 0 0) (.slice none 0 0) (.slice none 0 0);first
     | exact⟨none,0,none,0,none,0,none,0,rfl,SNc.mt _ _ _ _,SNc.mt _ _ _ _,G3⟩
     | exact⟨none,0,none,0,none,0,none,⟨0,rfl⟩,SNc.mt _ _ _ _,SNc.mt _ _ _ _,G3⟩
theorem specWriteReg (a:Option Addr)(c:Nat)(xa:Option Addr)(d:Nat)(pa:Option Addr)(pc:Nat)(S:Sx)(rep:Int)(p:List ByteArray)(v:ByteArray)(w:World)(hm:S.Sm)(hT:I64 S.T)(h1:LCap w a S.l)(h3:RSeg w xa S.n S.R S.F S.T)(hp:p.length<=1048576)(hpc:p.length<=pc/\ pc<=9223372036854775807)(hseg:SSeg w pa p)(hv:v.size<=1048576):
  Calls Tryz.prog 77 #[.agg #[.slice a S.l.length c,.slice xa S.n d],.int .i64 rep,.slice pa p.length pc,.string v] w fun e w'=>∃a m x t a' m' x' t',e=.returned (.tuple #[.agg #[.slice a (seX S rep p false true v).l.length m,.slice x (seX S rep p false true v).n t],.agg #[.slice a' (seY S rep p false true v).l.length m',.slice x' (seY S rep p false true v).n t'],.int .i64 (seC S rep p false true v)])/\ SNc w' w.heap.size a x (seX S rep p false true v)/\ SNc w' w.heap.size a' x' (seY S rep p false true v)/\ Below w.heap.size w w':=by
 obtain⟨W,hW⟩:∃W,((w.alloc (.cells #[.slice a S.l.length c,.slice xa S.n d] 28)).alloc (.cells #[.slice none 0 0,.slice none 0 0] 28)).alloc (.cells #[.slice none 0 0,.slice none 0 0] 28)=W:=⟨_,rfl⟩;have b0:Below w.heap.size w W:=by rw [<- hW];exact(below2 _ _ _).alloc (by simp;omega) _
 have zW:W.heap.size=w.heap.size+3:=by rw [<- hW];simp
 have A0:Bx2 W w.heap.size (.slice a S.l.length c) (.slice xa S.n d):=by rw [<- hW];exact((Bx2.made w _ _ _).allocs _).allocs _
 have R0:Bx2 W (w.heap.size+1) (.slice none 0 0) (.slice none 0 0):=by
  rw [<- hW];have:=Bx2.made (w.alloc (.cells #[.slice a S.l.length c,.slice xa S.n d] 28)) (.slice none 0 0) (.slice none 0 0) 28;exact(by simpa using this:Bx2 _ (w.heap.size+1) _ _).allocs _
 have Q0:Bx2 W (w.heap.size+1+1) (.slice none 0 0) (.slice none 0 0):=by
  rw [<- hW];simpa using Bx2.made ((w.alloc (.cells #[.slice a S.l.length c,.slice xa S.n d] 28)).alloc (.cells #[.slice none 0 0,.slice none 0 0] 28)) (.slice none 0 0) (.slice none 0 0) 28
 have HA0:=hid A0;have HR0:=hid R0;have HQ0:=hid Q0;have HB0:=hid b0;have HZW:=hid zW;have k0:=A0.c0;have k1:=A0.c1;have HCH:=hid (l3SetC a c xa d pa pc S rep p false true v W hm hT (h1.below b0) (h3.below b0) hp hpc (hseg.below b0) hv (fun h=>by cases h));obtain⟨X,hX⟩:∃X,seX S rep p false true v=X:=⟨_,rfl⟩;obtain⟨Y,hY⟩:∃Y,seY S rep p false true v=Y:=⟨_,rfl⟩;obtain⟨Cc,hCc⟩:∃Cc,seC S rep p false true v=Cc:=⟨_,rfl⟩;rw [hX,hY,hCc] at HCH;have HXYC:=hid (And.intro hX (And.intro hY hCc));have HZ3:Hid (w.heap.size+3<=W.heap.size):=hid (by omega);clear b0 zW A0 R0 Q0 h1 h3 hseg hpc hX hY hCc;go_enter Tryz.func77,Tryz.ntmps77;go_wp2_with fail;try rw [hW]
 clear hW;refine HCH.out.mono ?_;rintro e w4 ⟨ra,rc,rx,rd,ra',rc',rx',rd',rfl,ox,oy,b4⟩;have HRR1:=hid (HR0.out.below b4 HR0.out.lt);have HRR2:=hid (HQ0.out.below b4 HQ0.out.lt);have HBB:=hid (keepS HB0.out b4);have HOX:=hid ox;have HOY:=hid oy;clear b4 ox oy HCH k0 k1;have TB:=twoB HRR1.out HRR2.out (show w.heap.size+1≠w.heap.size+1+1 by omega) (.slice ra X.l.length rc) (.slice rx X.n rd) (.slice ra' Y.l.length rc') (.slice rx' Y.n rd');have r0:=HRR1.out.c0;have r1:=HRR1.out.c1;have rf:=HRR1.out.f;have q0:=TB.1.c0;have q1:=TB.1.c1;have qf:=TB.1.f;have HTW:=hid TB.2;clear TB;go_wp2_with fail;obtain⟨X1,X2⟩:=HTW.out;refine bodyPost_ret (v:=.tuple #[.agg #[.slice ra X.l.length rc,.slice rx X.n rd],.agg #[.slice ra' Y.l.length rc',.slice rx' Y.n rd'],.int .i64 Cc]) (by simp [results,Tryz.results77,go_sem,X1.c0,X1.c1,X2.c0,X2.c1]) rfl ?_;have hz:=HZ3.out;have G3:=below4 HBB.out (show w.heap.size<=w.heap.size+1 by omega) (show w.heap.size<=w.heap.size+1+1 by omega) (.slice ra X.l.length rc) (.slice rx X.n rd) (.slice ra' Y.l.length rc') (.slice rx' Y.n rd');rw [HXYC.out.1,HXYC.out.2.1,HXYC.out.2.2];have G1:=snc4 (r1:=w.heap.size+1) (r2:=w.heap.size+1+1) HOX.out (show w.heap.size<=W.heap.size by omega) (show w.heap.size+1<W.heap.size by omega) (show w.heap.size+1+1<W.heap.size by omega) (.slice ra X.l.length rc) (.slice rx X.n rd) (.slice ra' Y.l.length rc') (.slice rx' Y.n rd');have G2:=snc4 (r1:=w.heap.size+1) (r2:=w.heap.size+1+1) HOY.out (show w.heap.size<=W.heap.size by omega) (show w.heap.size+1<W.heap.size by omega) (show w.heap.size+1+1<W.heap.size by omega) (.slice ra X.l.length rc) (.slice rx X.n rd) (.slice ra' Y.l.length rc') (.slice rx' Y.n rd');first
  | exact⟨ra,rc,rx,rd,ra',rc',rx',rd',rfl,G1,G2,G3⟩
  | exact⟨ra,rc,rx,rd,ra',rc',rx',⟨rd',rfl⟩,G1,G2,G3⟩
theorem specSetFlag (a:Option Addr)(c:Nat)(xa:Option Addr)(d:Nat)(pa:Option Addr)(pc:Nat)(S:Sx)(rep:Int)(p:List ByteArray)(on:Bool)(w:World)(hm:S.Sm)(hT:I64 S.T)(h1:LCap w a S.l)(h3:RSeg w xa S.n S.R S.F S.T)(hp:p.length<=1048576)(hpc:p.length<=pc/\ pc<=9223372036854775807)(hseg:SSeg w pa p):
  Calls Tryz.prog 79 #[.agg #[.slice a S.l.length c,.slice xa S.n d],.int .i64 rep,.slice pa p.length pc,.bool on] w fun e w'=>∃a m x t a' m' x' t',e=.returned (.tuple #[.agg #[.slice a (seX S rep p true on ⟨#[]⟩).l.length m,.slice x (seX S rep p true on ⟨#[]⟩).n t],.agg #[.slice a' (seY S rep p true on ⟨#[]⟩).l.length m',.slice x' (seY S rep p true on ⟨#[]⟩).n t'],.int .i64 (seC S rep p true on ⟨#[]⟩)])/\ SNc w' w.heap.size a x (seX S rep p true on ⟨#[]⟩)/\ SNc w' w.heap.size a' x' (seY S rep p true on ⟨#[]⟩)/\ Below w.heap.size w w':=by
 obtain⟨W,hW⟩:∃W,((w.alloc (.cells #[.slice a S.l.length c,.slice xa S.n d] 28)).alloc (.cells #[.slice none 0 0,.slice none 0 0] 28)).alloc (.cells #[.slice none 0 0,.slice none 0 0] 28)=W:=⟨_,rfl⟩;have b0:Below w.heap.size w W:=by rw [<- hW];exact(below2 _ _ _).alloc (by simp;omega) _
 have zW:W.heap.size=w.heap.size+3:=by rw [<- hW];simp
 have A0:Bx2 W w.heap.size (.slice a S.l.length c) (.slice xa S.n d):=by rw [<- hW];exact((Bx2.made w _ _ _).allocs _).allocs _
 have R0:Bx2 W (w.heap.size+1) (.slice none 0 0) (.slice none 0 0):=by
  rw [<- hW];have:=Bx2.made (w.alloc (.cells #[.slice a S.l.length c,.slice xa S.n d] 28)) (.slice none 0 0) (.slice none 0 0) 28;exact(by simpa using this:Bx2 _ (w.heap.size+1) _ _).allocs _
 have Q0:Bx2 W (w.heap.size+1+1) (.slice none 0 0) (.slice none 0 0):=by
  rw [<- hW];simpa using Bx2.made ((w.alloc (.cells #[.slice a S.l.length c,.slice xa S.n d] 28)).alloc (.cells #[.slice none 0 0,.slice none 0 0] 28)) (.slice none 0 0) (.slice none 0 0) 28
 have HA0:=hid A0;have HR0:=hid R0;have HQ0:=hid Q0;have HB0:=hid b0;have HZW:=hid zW;have k0:=A0.c0;have k1:=A0.c1;have HCH:=hid (l3SetC a c xa d pa pc S rep p true on ⟨#[]⟩ W hm hT (h1.below b0) (h3.below b0) hp hpc (hseg.below b0) (by decide) (fun _=>by simp [emB]));obtain⟨X,hX⟩:∃X,seX S rep p true on ⟨#[]⟩=X:=⟨_,rfl⟩;obtain⟨Y,hY⟩:∃Y,seY S rep p true on ⟨#[]⟩=Y:=⟨_,rfl⟩;obtain⟨Cc,hCc⟩:∃Cc,seC S rep p true on ⟨#[]⟩=Cc:=⟨_,rfl⟩;rw [hX,hY,hCc] at HCH;have HXYC:=hid (And.intro hX (And.intro hY hCc));have HZ3:Hid (w.heap.size+3<=W.heap.size):=hid (by omega);clear b0 zW A0 R0 Q0 h1 h3 hseg hpc hX hY hCc;go_enter Tryz.func79,Tryz.ntmps79;go_wp2_with fail;try rw [hW]
 clear hW;refine HCH.out.mono ?_;rintro e w4 ⟨ra,rc,rx,rd,ra',rc',rx',rd',rfl,ox,oy,b4⟩;have HRR1:=hid (HR0.out.below b4 HR0.out.lt);have HRR2:=hid (HQ0.out.below b4 HQ0.out.lt);have HBB:=hid (keepS HB0.out b4);have HOX:=hid ox;have HOY:=hid oy;clear b4 ox oy HCH k0 k1;have TB:=twoB HRR1.out HRR2.out (show w.heap.size+1≠w.heap.size+1+1 by omega) (.slice ra X.l.length rc) (.slice rx X.n rd) (.slice ra' Y.l.length rc') (.slice rx' Y.n rd');have r0:=HRR1.out.c0;have r1:=HRR1.out.c1;have rf:=HRR1.out.f;have q0:=TB.1.c0;have q1:=TB.1.c1;have qf:=TB.1.f;have HTW:=hid TB.2;clear TB;go_wp2_with fail;obtain⟨X1,X2⟩:=HTW.out;refine bodyPost_ret (v:=.tuple #[.agg #[.slice ra X.l.length rc,.slice rx X.n rd],.agg #[.slice ra' Y.l.length rc',.slice rx' Y.n rd'],.int .i64 Cc]) (by simp [results,Tryz.results79,go_sem,X1.c0,X1.c1,X2.c0,X2.c1]) rfl ?_;have hz:=HZ3.out;have G3:=below4 HBB.out (show w.heap.size<=w.heap.size+1 by omega) (show w.heap.size<=w.heap.size+1+1 by omega) (.slice ra X.l.length rc) (.slice rx X.n rd) (.slice ra' Y.l.length rc') (.slice rx' Y.n rd');rw [HXYC.out.1,HXYC.out.2.1,HXYC.out.2.2];have G1:=snc4 (r1:=w.heap.size+1) (r2:=w.heap.size+1+1) HOX.out (show w.heap.size<=W.heap.size by omega) (show w.heap.size+1<W.heap.size by omega) (show w.heap.size+1+1<W.heap.size by omega) (.slice ra X.l.length rc) (.slice rx X.n rd) (.slice ra' Y.l.length rc') (.slice rx' Y.n rd');have G2:=snc4 (r1:=w.heap.size+1) (r2:=w.heap.size+1+1) HOY.out (show w.heap.size<=W.heap.size by omega) (show w.heap.size+1<W.heap.size by omega) (show w.heap.size+1+1<W.heap.size by omega) (.slice ra X.l.length rc) (.slice rx X.n rd) (.slice ra' Y.l.length rc') (.slice rx' Y.n rd');first
  | exact⟨ra,rc,rx,rd,ra',rc',rx',rd',rfl,G1,G2,G3⟩
  | exact⟨ra,rc,rx,rd,ra',rc',rx',⟨rd',rfl⟩,G1,G2,G3⟩
end Go.Proofs.YtpfmeafmepgimaaGreat
namespace Go.Proofs.YtpfmeafmepgimaaGreat
open Go.ChangeShapes Go.WideShapes Go.ChangeAt Go.RowKit
structure Dr (S:Sx):Prop where
 vd:Vd S
 t:I64 S.T
theorem gR_far {u:List Rn}{i:Nat}(h:¬i<u.length):gR u i=(0,0,0):=by simp [gR,List.getD,h]
theorem fs_i64 {u:List Rn}(h:FSrt u):I64 fun i=>(gR u i).2.2:=fun i=>by
 by_cases hi:i<u.length
 ·have e:gR u i=u[i]:=by simp [gR,List.getD,hi]
  have:=h.2 _ (List.getElem_mem hi);unfold Rok at this;simp only [e];omega
 ·simp only [gR_far hi];omega
theorem vd_sm {S:Sx}(h:Vd S):S.Sm:=⟨by have:=h.2.1;omega,fun i=>by
 by_cases hi:i<S.l.length
 ·have:=(ok_pth h i hi).2;omega
 ·rw [gL_far hi];simp,by have:=(ctxB_iff.1 h.1).2;omega⟩
theorem Dr.mt:Dr Sx.mt:=⟨mt_vd,fun i=>by simp [Sx.mt]⟩
theorem Dr.jn {S S':Sx}(h:Dr S)(h':Dr S')(hf:jnF S S'=true):Dr (jnS S S'):=by
 refine⟨jn_vd h.vd h'.vd hf,?_⟩;have:=(jn_u h.vd h'.vd).1;rw [jnS_eq,fS_mk] at this;rw [jnS_eq];exact fs_i64 this
theorem dr_ch {S:Sx}{g:Lf ->Prop}{P:List Lf}(h:Vd S)(hp:PtO S P)(hf:chC S (dlS g S.l P)=0):Dr (chX S (dlS g S.l P))/\ Dr (chY S (dlS g S.l P)):=by
 cases hc:chF S (dlS g S.l P) with
 | false=>rw [(ch_f hc).2.2] at hf;cases hf
 | true=>
  rw [(ch_t hc).1,(ch_t hc).2.1];unfold chF at hc;simp only [Bool.and_eq_true,decide_eq_true_eq] at hc;obtain⟨hj,h1,h2⟩:=hc;have hw:=dl_w (g:=g) h hp;have hD:Dr (dlS g S.l P):=⟨⟨ctxB_iff.2 ⟨hw.1.1,h2⟩,hw.2⟩,fs_i64 (dlU_ok h hp).1⟩;refine⟨⟨jn_vd h hD.vd hj,?_⟩,hD⟩;have:=(jn_u h hD.vd).1;rw [jnS_eq,fS_mk] at this;rw [jnS_eq];exact fs_i64 this
theorem dr_se {S:Sx}{rep:Int}{p:List ByteArray}{fl on:Bool}{v:ByteArray}(h:Vd S)(hfv:fl=true ->emB v=true)(hc:seC S rep p fl on v=0):Dr (seX S rep p fl on v)/\ Dr (seY S rep p fl on v):=by
 by_cases h0:ocC S p v=0
 ·obtain⟨_,hp,hv⟩:=ocC_ok h0;by_cases h1:seOk S rep on
  ·obtain⟨e1,e2,e3⟩:=se_t (p:=p) (fl:=fl) (v:=v) h0 h1;rw [e1,e2];rw [e3] at hc;exact dr_ch h (se_pto h hp hv hfv h1) hc
  ·rw [(se_3 h0 h1).2.2] at hc;cases hc
 ·rw [(se_n h0).2.2] at hc;exact absurd hc h0
theorem dr_rm {S:Sx}{p:List ByteArray}(h:Vd S)(hc:rmC S p=0):Dr (rmX S p)/\ Dr (rmY S p):=by
 by_cases h0:ocC S p ⟨#[]⟩=0
 ·obtain⟨e1,e2,e3⟩:=rm_t h0;rw [e1,e2];rw [e3] at hc;exact dr_ch h (PtO.nil S) hc
 ·rw [(rm_f h0).2.2] at hc;exact absurd hc h0
def ChP (w:World)(X Y:Sx)(C:Int)(e:Ending)(w':World):Prop:=∃a m x t a' m' x' t',e=.returned (.tuple #[.agg #[.slice a X.l.length m,.slice x X.n t],.agg #[.slice a' Y.l.length m',.slice x' Y.n t'],.int .i64 C])/\ SNc w' w.heap.size a x X/\ SNc w' w.heap.size a' x' Y/\ Below w.heap.size w w'
def AcP (f:Nat ->Int)(n x:Nat)(S:Sx)(rep:Nat)(S1 S2:Sx)(x':Nat):Prop:=(Dr S1/\ Dr S2)/\∀(B lo rb:Nat) (a xa:Option Addr) (c d:Nat) (w:World),B<=lo ->lo<=w.heap.size ->RdJ w B rb f n x ->SNc w lo a xa S ->
  Calls Tryz.prog 52 #[.pointer (some ⟨rb,0,none⟩),.agg #[.slice a S.l.length c,.slice xa S.n d],.int .i64 (rep:Int)] w fun e w'=>∃a1 c1 x1 d1 a2 c2 x2 d2,e=.returned (.tuple #[.agg #[.slice a1 S1.l.length c1,.slice x1 S1.n d1],.agg #[.slice a2 S2.l.length c2,.slice x2 S2.n d2]])/\ SNc w' lo a1 x1 S1/\ SNc w' lo a2 x2 S2/\ RdJ w' B rb f n x'/\ w.grownBy w' (some rb)
theorem SNc.gr {w w1:World}{lo rb:Nat}{a x:Option Addr}{S:Sx}(h:SNc w lo a x S)(hg:w.grownBy w1 (some rb))(hr:rb<lo):SNc w1 lo a x S:=h.move (Nat.le_refl _) hg.size (fun q h1 h2=>hg.block q h2 (fun e=>by injection e with e;omega))
theorem grownBelow {w w1 w2:World}{rb B:Nat}(h1:w.grownBy w1 (some rb))(h2:Below B w1 w2)(hB:w.heap.size<=B):w.grownBy w2 (some rb):=
 ⟨h2.os.trans h1.os,h2.tape.trans h1.tape,h2.output.trans h1.output,Nat.le_trans h1.size h2.size,fun k hk hne=>(h2.block k (by omega)).trans (h1.block k hk hne)⟩
structure Gd (S:Sx):Prop where
 sm:S.Sm
 li:∀i,LfI (gL S.l i)
 t:I64 S.T
def wdN (i:Nat):List Int:=[97+(i:Int)/100,48+(i:Int)/10%10,48+(i:Int)%10]
def wdL (rep:Nat)(fl:Bool)(k:Nat):List Lf:=(List.range k).map fun i=>⟨[txJ (wdN i)],fl,rep,((i+1:Nat):Int),⟨#[]⟩⟩
theorem wdL_len (rep:Nat)(fl:Bool)(k:Nat):(wdL rep fl k).length=k:=by simp [wdL]
theorem wdL_succ (rep:Nat)(fl:Bool)(k:Nat):wdL rep fl (k+1)=wdL rep fl k++[⟨[txJ (wdN k)],fl,rep,((k+1:Nat):Int),⟨#[]⟩⟩]:=by simp [wdL,List.range_succ]
theorem wdL_at (rep:Nat)(fl:Bool)(k i:Nat):(gL (wdL rep fl k) i).p.length<=1/\ (i<k ->gL (wdL rep fl k) i=⟨[txJ (wdN i)],fl,rep,((i+1:Nat):Int),⟨#[]⟩⟩):=by
 by_cases h:i<k
 ·have e:gL (wdL rep fl k) i=⟨[txJ (wdN i)],fl,rep,((i+1:Nat):Int),⟨#[]⟩⟩:=by simp [gL,List.getD,wdL,h]
  exact⟨by rw [e];simp,fun _=>e⟩
 ·exact⟨by simp [gL,List.getD,wdL,h],fun h'=>absurd h' h⟩
def wdS (n rep:Nat)(fl:Bool):Sx:=⟨wdL rep fl n,1,fun _=>rep,fun _=>1,fun _=>n⟩
theorem wdS_gd {n rep:Nat}{fl:Bool}(hn:n<=1000)(hr:rep<8):Gd (wdS n rep fl):=by
 refine⟨⟨by show (wdL rep fl n).length<=_;rw [wdL_len];omega,fun i=> ?_,by show 1<=_;omega⟩,fun i=> ?_,fun i=> ?_⟩
 ·have:=(wdL_at rep fl n i).1;show (gL (wdL rep fl n) i).p.length<=_;omega
 ·show LfI (gL (wdL rep fl n) i);by_cases h:i<n
  ·rw [(wdL_at rep fl n i).2 h];exact⟨wfI (by simp<;>omega) (by simp<;>omega),wfI (by simp<;>omega) (by simp<;>omega)⟩
  ·have e:gL (wdL rep fl n) i=⟨[],false,0,0,ByteArray.empty⟩:=by simp [gL,List.getD,wdL,h]
   rw [e];exact⟨by decide,by decide⟩
 ·show _<=(n:Int)/\ (n:Int)<=_;omega
theorem LC.setB {w:World}{lo b i:Nat}{v u:Value}{l:List Lf}{P Q:Nat ->Nat}(h:LC w lo v l P Q)(hv:v.ownBlock≠some b)(hP:∀j,j<l.length ->P j≠b):LC (w.setCell ⟨b,i,none⟩ u) lo v l P Q:=
 ⟨own_at5 h.row (fun g hg=>Below.heap_setCell _ _ _ _ (fun e=>hv (by rw [hg,e]))),fun j hj=>by
  obtain⟨e1,e2,e3,e4⟩:=h.pt j hj;exact⟨e1,by simpa [World.setCell] using e2,e3,e4.1.same (Below.heap_setCell _ _ _ _ (fun e=>hP j hj e)),e4.2⟩⟩
structure WdS (w wr:World)(rep:Nat)(fl:Bool)(j g c:Nat)(P Q:Nat ->Nat):Prop where
 bx:Bx2 wr (w.heap.size+1+1) (.slice (some ⟨g,0,none⟩) j c) (.slice none 0 0)
 lc:LC wr (w.heap.size+1) (.slice (some ⟨g,0,none⟩) j c) (wdL rep fl j) P Q
 gb:g≠w.heap.size+1+1
 pb:∀i,i<j ->P i≠w.heap.size+1+1
 rs:Bx2 wr w.heap.size (.slice none 0 0) (.slice none 0 0)
 low:Below w.heap.size w wr
 sz:w.heap.size+3<=wr.heap.size
theorem wideJ (n rep:Nat)(od:Bool)(hn:n<=1000)(hrep:rep<8)(w:World):
  Calls Tryz.prog 27 #[.int .i64 (n:Int),.int .i64 (rep:Int),.int .i64 (if od then 1 else 0)] w fun e w'=>∃a c x d,e=.returned (.agg #[.slice a (wdS n rep od).l.length c,.slice x (wdS n rep od).n d])/\ SNc w' w.heap.size a x (wdS n rep od)/\ Below w.heap.size w w':=by
 obtain⟨i0,hi,hz0,hz1,hz2⟩:=info_parts infoLeaf;obtain⟨o,ho⟩:∃o:Int,(if od then(1:Int) else 0)=o:=⟨_,rfl⟩;have hod:(o==1)=od:=by rw [<- ho];cases od<;>rfl
 rw [ho];have HI:Hid (WdS w (((w.alloc (.cells #[.slice none 0 0,.slice none 0 0] 28)).alloc (.cells #[] 65)).alloc (.cells #[.slice (some ⟨w.heap.size+1,0,none⟩) 0 0,.slice none 0 0] 28)) rep od 0 (w.heap.size+1) 0 (fun _=>0) (fun _=>0)):=hid (by
  have R:=World.ownsRow_lit (base:=w.heap.size+1) (e:=65) (size:=5) (w.alloc (.cells #[.slice none 0 0,.slice none 0 0] 28)) #[] 0 (by simp) (by unfold maxLen;omega) rfl;refine⟨?_,⟨?_,fun i hi=>by simp [wdL] at hi⟩,by omega,fun i hi=>by omega,((Bx2.made w _ _ _).allocs _).allocs _,(below2 _ _ _).alloc (by simp;omega) _,by simp⟩
  ·simpa using Bx2.made ((w.alloc (.cells #[.slice none 0 0,.slice none 0 0] 28)).alloc (.cells #[] 65)) (.slice (some ⟨w.heap.size+1,0,none⟩) 0 0) (.slice none 0 0) 28
  ·have R2:=own_at5 R (fun g hg=>((Below.refl _ _).alloc (Nat.le_refl _) (.cells #[.slice (some ⟨w.heap.size+1,0,none⟩) 0 0,.slice none 0 0] 28)).block g (R.lt g hg).2);simpa [wdL] using R2)
 clear ho;go_enter Tryz.func27,Tryz.ntmps27;go_wp2_with fail;obtain⟨W3,hW3⟩:∃W3,(((w.alloc (.cells #[.slice none 0 0,.slice none 0 0] 28)).alloc (.cells #[] 65)).alloc (.cells #[.slice (some ⟨w.heap.size+1,0,none⟩) 0 0,.slice none 0 0] 28))=W3:=⟨_,rfl⟩;rw [hW3] at HI;try rw [hW3]
 clear hW3;go_loopw [8] (fun i wr=>∃(j g c:Nat) (P Q:Nat ->Nat),j<=n/\ i=.int .i64 (j:Int)/\ Hid (WdS w wr rep od j g c P Q)) (fun i _=>n - (intOf i).toNat);case atStart=>exact⟨0,_,_,_,_,Nat.zero_le _,rfl,HI⟩
 case round=>
  clear HI;obtain⟨j,g,c,P,Q,hj,rfl,HS⟩:=hrel;by_cases hlt:j<n
  ·have i1:(j:Int)<(n:Int):=by omega
   obtain⟨z1,hz1'⟩:∃z:Nat,97+j/100=z:=⟨_,rfl⟩;obtain⟨z2,hz2'⟩:∃z:Nat,48+j/10%10=z:=⟨_,rfl⟩;obtain⟨z3,hz3'⟩:∃z:Nat,48+j%10=z:=⟨_,rfl⟩;have hj1000:(j:Int)<1000:=by omega
   have w1:IntKind.i64.wrap (97+(j:Int)/100)=(z1:Int):=by rw [show 97+(j:Int)/100=(z1:Int) by omega];exact wrapIn _ (by omega) (by omega)
   have w2:IntKind.i64.wrap (48+(j:Int)/10%10)=(z2:Int):=by rw [show 48+(j:Int)/10%10=(z2:Int) by omega];exact wrapIn _ (by omega) (by omega)
   have w3:IntKind.i64.wrap (48+(j:Int)%10)=(z3:Int):=by rw [show 48+(j:Int)%10=(z3:Int) by omega];exact wrapIn _ (by omega) (by omega)
   have v1:IntKind.u8.wrap (z1:Int)=(z1:Int):=by rw [IntKind.wrap_u8];omega
   have v2:IntKind.u8.wrap (z2:Int)=(z2:Int):=by rw [IntKind.wrap_u8];omega
   have v3:IntKind.u8.wrap (z3:Int)=(z3:Int):=by rw [IntKind.wrap_u8];omega
   have hzs:wdN j=[(z1:Int),(z2:Int),(z3:Int)]:=by unfold wdN;rw [show 97+(j:Int)/100=(z1:Int) by omega,show 48+(j:Int)/10%10=(z2:Int) by omega,show 48+(j:Int)%10=(z3:Int) by omega]
   obtain⟨tx,htx⟩:∃tx,txJ (wdN j)=tx:=⟨_,rfl⟩;have hcv:(convert 22 9 (.slice (some ⟨wr.heap.size,0,none⟩) 3 3)).run Tryz.prog (wr.alloc (.cells #[.int .u8 (z1:Int),.int .u8 (z2:Int),.int .u8 (z3:Int)] 5))=.ok (.string tx) (wr.alloc (.cells #[.int .u8 (z1:Int),.int .u8 (z2:Int),.int .u8 (z3:Int)] 5)):=by
    have hO:Own (wr.alloc (.cells #[.int .u8 (z1:Int),.int .u8 (z2:Int),.int .u8 (z3:Int)] 5)) wr.heap.size (.slice (some ⟨wr.heap.size,0,none⟩) 3 3) (wdN j):=by
     rw [hzs];exact World.ownsRow_lit (base:=wr.heap.size) (e:=5) (size:=1) wr #[.int .u8 (z1:Int),.int .u8 (z2:Int),.int .u8 (z3:Int)] 3 (Nat.le_refl _) (by unfold maxLen;omega) rfl
    have:=strOwnJ ⟨hO,fun z hz=>by rw [hzs] at hz;simp at hz;omega⟩ 0;rw [World.drewN_zero,htx] at this;exact this
   have bB:Below wr.heap.size wr ((wr.alloc (.cells #[.int .u8 (z1:Int),.int .u8 (z2:Int),.int .u8 (z3:Int)] 5)).alloc (.cells #[.string tx] 9)):=below2 _ _ _;have zB:((wr.alloc (.cells #[.int .u8 (z1:Int),.int .u8 (z2:Int),.int .u8 (z3:Int)] 5)).alloc (.cells #[.string tx] 9)).heap.size=wr.heap.size+1+1:=by simp
   have hsz:=HS.out.sz;have hgl:=(HS.out.lc.lt g rfl);have hR:((wr.alloc (.cells #[.int .u8 (z1:Int),.int .u8 (z2:Int),.int .u8 (z3:Int)] 5)).alloc (.cells #[.string tx] 9)).ownsRow (wr.heap.size+1) 9 1 (.slice (some ⟨wr.heap.size+1,0,none⟩) 1 1) 1 ((List.range (1*1)).map fun t=> .string (gS [tx] t)):=by
    have:=World.ownsRow_lit (base:=wr.heap.size+1) (e:=9) (size:=1) (wr.alloc (.cells #[.int .u8 (z1:Int),.int .u8 (z2:Int),.int .u8 (z3:Int)] 5)) #[.string tx] 1 (by simp) (by unfold maxLen;omega) rfl;simpa [gS] using this
   obtain⟨g',c',w7,happ,lc7,gr7⟩:=LC.app HS.out.lc bB (by omega) (by rw [wdL_len];omega) ⟨[tx],od,rep,((j+1:Nat):Int),⟨#[]⟩⟩ (wr.heap.size+1) 1 (by omega) (by rw [zB];omega) (fun e=>by simp [Value.ownBlock] at e;omega) (by simpa using own_wrF hR) (by simp);rw [zB,wdL_len] at happ;rw [wdL_len] at lc7 gr7;have hg7:g'≠w.heap.size+1+1:=by
    have h1:=HS.out.gb;rcases gr7.l with e|⟨q,e,hq⟩
    ·simp [Value.ownBlock] at e;omega
    ·simp [Value.ownBlock] at e;rw [zB] at hq;omega
   have hP7:∀i,i<j+1 ->(if i=j then wr.heap.size+1 else P i)≠w.heap.size+1+1:=fun i hi=>by
    by_cases e:i=j
    ·rw [if_pos e];omega
    ·rw [if_neg e];exact HS.out.pb i (by omega)
   have ngg:∀b,g≠b ->∀k,(Value.slice (some ⟨g,0,none⟩) j c).ownBlock=some k ->k≠b:=fun b hb k e e2=>hb (by simp [Value.ownBlock] at e;omega);have bx7:=(HS.out.bx.below bB HS.out.bx.lt).gr gr7.g (ngg _ HS.out.gb);have rs7:=(HS.out.rs.below bB HS.out.rs.lt).gr gr7.g (ngg _ (by omega));have low7:Below w.heap.size w w7:=(HS.out.low.trans (bB.mono (by omega))).trans (gr7.below (by rw [zB];omega) (fun k e=>by simp [Value.ownBlock] at e;omega));have z7:=gr7.g.size;rw [zB] at z7;have HN:Hid (WdS w (w7.setCell ⟨w.heap.size+1+1,0,none⟩ (.slice (some ⟨g',0,none⟩) (j+1) c')) rep od (j+1) g' c' (fun i=>if i=j then wr.heap.size+1 else P i) (fun i=>if i=j then 1 else Q i)):=hid (by
    refine⟨bx7.set0 _,?_,hg7,hP7,rs7.setAt _ _ (by show w.heap.size+1+1≠w.heap.size;omega),low7.setCell (p:=⟨w.heap.size+1+1,0,none⟩) (by simp;omega) _,by simp [World.setCell];omega⟩;have l8:wdL rep od (j+1)=wdL rep od j++[⟨[tx],od,rep,((j+1:Nat):Int),⟨#[]⟩⟩]:=by rw [wdL_succ,htx]
    rw [l8];exact lc7.setB (fun e=>hg7 (by simpa [Value.ownBlock] using e)) (fun i hi=>hP7 i (by simpa [wdL_len] using hi)))
   have x0:=HS.out.bx.c0;have x1:=(HS.out.bx.allocs (.cells #[.int .u8 (z1:Int),.int .u8 (z2:Int),.int .u8 (z3:Int)] 5)).c0;have x2:=(HS.out.bx.below bB HS.out.bx.lt).c0;have y0:=bx7.c0;have yf:=bx7.f;have wj:IntKind.i64.wrap ((j:Int)+1)=((j+1:Nat):Int):=by rw [show (j:Int)+1=((j+1:Nat):Int) by omega];exact wrapIn _ (by omega) (by omega)
   clear hzs htx bB zB hsz hgl hR lc7 gr7 hg7 hP7 ngg bx7 rs7 low7 z7 hz1' hz2' hz3' HS;go_wp2_with (at_builtin;refine wpList_app2 rfl _ _ _ _ rfl happ (by rfl) (by rfl) rfl ?_;clear happ);go_roundw;case rel=>exact⟨j+1,_,_,_,_,hlt,by go_num,HN⟩
   case measure=>simp [intOf];omega
  ·obtain rfl:j=n:=by omega
   have i1:¬(j:Int)<(j:Int):=by omega
   have hsz:=HS.out.sz;have hgl:=(HS.out.lc.lt g rfl);obtain⟨W5,hW5⟩:∃W5,wr.alloc (.cells #[.int .i64 (rep:Int),.int .i64 1,.int .i64 (j:Int)] 87)=W5:=⟨_,rfl⟩;have b5:Below wr.heap.size wr W5:=by rw [<- hW5];exact(Below.refl _ _).alloc (Nat.le_refl _) _
   have z5:W5.heap.size=wr.heap.size+1:=by rw [<- hW5];simp
   have q0:W5.cell? ⟨wr.heap.size,0,none⟩=some (.int .i64 (rep:Int)):=by rw [<- hW5];simp
   have q1:W5.cell? ⟨wr.heap.size,1,none⟩=some (.int .i64 1):=by rw [<- hW5];simp
   have q2:W5.cell? ⟨wr.heap.size,2,none⟩=some (.int .i64 (j:Int)):=by rw [<- hW5];simp
   have bx5:=HS.out.bx.below b5 HS.out.bx.lt;have rs5:=HS.out.rs.below b5 HS.out.rs.lt;have lc5:=HS.out.lc.below b5;have bx6:=bx5.set1 (.slice (some ⟨wr.heap.size,0,none⟩) 1 1);have rs6:=rs5.setAt ⟨w.heap.size+1+1,1,none⟩ (.slice (some ⟨wr.heap.size,0,none⟩) 1 1) (by show w.heap.size+1+1≠w.heap.size;omega);have rs7:=rs6.set (.slice (some ⟨g,0,none⟩) j c) (.slice (some ⟨wr.heap.size,0,none⟩) 1 1);have hpl:∀i,i<(wdL rep od j).length ->w.heap.size+1<=P i:=fun i hi=>(HS.out.lc.pt i hi).1;have lc7:LC (((W5.setCell ⟨w.heap.size+1+1,1,none⟩ (.slice (some ⟨wr.heap.size,0,none⟩) 1 1)).setCell ⟨w.heap.size,0,none⟩ (.slice (some ⟨g,0,none⟩) j c)).setCell ⟨w.heap.size,1,none⟩ (.slice (some ⟨wr.heap.size,0,none⟩) 1 1)) (w.heap.size+1) (.slice (some ⟨g,0,none⟩) j c) (wdL rep od j) P Q:=
    ((lc5.setB (fun e=>HS.out.gb (by simpa [Value.ownBlock] using e)) (fun i hi=>HS.out.pb i (by simpa [wdL_len] using hi))).setB (fun e=>by simp [Value.ownBlock] at e;omega) (fun i hi=>by have:=hpl i hi;omega)).setB (fun e=>by simp [Value.ownBlock] at e;omega) (fun i hi=>by have:=hpl i hi;omega)
   have HL7:=hid lc7;have HR7:=hid rs7;have HB7:Hid (Below w.heap.size w (((W5.setCell ⟨w.heap.size+1+1,1,none⟩ (.slice (some ⟨wr.heap.size,0,none⟩) 1 1)).setCell ⟨w.heap.size,0,none⟩ (.slice (some ⟨g,0,none⟩) j c)).setCell ⟨w.heap.size,1,none⟩ (.slice (some ⟨wr.heap.size,0,none⟩) 1 1))):=hid ((((keepS HS.out.low b5).setCell (p:=⟨w.heap.size+1+1,1,none⟩) (by simp;omega) _).setCell (p:=⟨w.heap.size,0,none⟩) (Nat.le_refl _) _).setCell (p:=⟨w.heap.size,1,none⟩) (Nat.le_refl _) _);have HQ:Hid ((∀i,i<3 ->(((W5.setCell ⟨w.heap.size+1+1,1,none⟩ (.slice (some ⟨wr.heap.size,0,none⟩) 1 1)).setCell ⟨w.heap.size,0,none⟩ (.slice (some ⟨g,0,none⟩) j c)).setCell ⟨w.heap.size,1,none⟩ (.slice (some ⟨wr.heap.size,0,none⟩) 1 1)).cell? ⟨wr.heap.size,i,none⟩=W5.cell? ⟨wr.heap.size,i,none⟩)/\ wr.heap.size<W5.heap.size/\ w.heap.size<=wr.heap.size):=hid ⟨fun i hi=>by
    rw [World.cell?_setCell_other _ _ _ _ (by simp<;>omega),World.cell?_setCell_other _ _ _ _ (by simp<;>omega),World.cell?_setCell_other _ _ _ _ (by simp<;>omega)],by omega,by omega⟩
   have x0:=bx5.c0;have x1:=bx5.c1;have xf:=bx5.f;have y0:=bx6.c0;have y1:=bx6.c1;have o0:=rs6.c0;have o1:=rs6.c1;have of:=rs6.f;have HQ5:=hid (And.intro q0 (And.intro q1 q2));clear b5 z5 q0 q1 q2 bx5 rs5 lc5 bx6 rs6 rs7 lc7 hpl HS hsz hgl;go_wp2_with fail;have s0:=HR7.out.c0;have s1:=HR7.out.c1;refine bodyPost_ret (v:=.agg #[.slice (some ⟨g,0,none⟩) j c,.slice (some ⟨wr.heap.size,0,none⟩) 1 1]) (by simp [results,Tryz.results27,go_sem,s0,s1]) rfl ?_;have G0:Ending.returned (.agg #[.slice (some ⟨g,0,none⟩) j c,.slice (some ⟨wr.heap.size,0,none⟩) 1 1])=.returned (.agg #[.slice (some ⟨g,0,none⟩) (wdS j rep od).l.length c,.slice (some ⟨wr.heap.size,0,none⟩) (wdS j rep od).n 1]):=by
    rw [show (wdS j rep od).l.length=j from wdL_len rep od j];rfl
   have G1:SNc (((W5.setCell ⟨w.heap.size+1+1,1,none⟩ (.slice (some ⟨wr.heap.size,0,none⟩) 1 1)).setCell ⟨w.heap.size,0,none⟩ (.slice (some ⟨g,0,none⟩) j c)).setCell ⟨w.heap.size,1,none⟩ (.slice (some ⟨wr.heap.size,0,none⟩) 1 1)) w.heap.size (some ⟨g,0,none⟩) (some ⟨wr.heap.size,0,none⟩) (wdS j rep od):=fun w' k1 k2=>by
    constructor
    ·have:=(HL7.out.move k1 (fun q h1 h2=>k2 q (by omega) h2));exact this.lcap (by rw [wdL_len])
    ·have hq:=HQ.out;have e:=k2 wr.heap.size hq.2.2 (by simp [World.setCell];exact hq.2.1);refine .inr ⟨wr.heap.size,0,rfl,Nat.lt_of_lt_of_le (by simp [World.setCell];exact hq.2.1) k1,fun i hi=> ?_⟩;obtain rfl:i=0:=by have:i<1:=hi;omega
     exact⟨(World.cell?_of_block (a:=⟨wr.heap.size,0+0*3,none⟩) e).trans ((hq.1 0 (by omega)).trans HQ5.out.1),(World.cell?_of_block (a:=⟨wr.heap.size,0+0*3+1,none⟩) e).trans ((hq.1 1 (by omega)).trans HQ5.out.2.1),(World.cell?_of_block (a:=⟨wr.heap.size,0+0*3+2,none⟩) e).trans ((hq.1 2 (by omega)).trans HQ5.out.2.2)⟩
   first
    | exact⟨_,c,_,1,G0,G1,HB7.out⟩
    | exact⟨_,c,_,⟨1,G0⟩,G1,HB7.out⟩
end Go.Proofs.YtpfmeafmepgimaaGreat
