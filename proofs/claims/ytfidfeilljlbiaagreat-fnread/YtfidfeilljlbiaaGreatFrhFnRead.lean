import Derived.Test.YtfidfeilljlbiaaGreatFrg19
import Derived.Test.YtfidfeilljlbiaaGreatFrg18
import Derived.Test.YtfidfeilljlbiaaGreatFrg20
import Derived.Test.YtfidfeilljlbiaaGreatFrg22
import Derived.Deep.CutRange
import Derived.Deep.QuietTactic
import Derived.BigQuiet
set_option linter.unusedVariables false
set_option linter.unusedSimpArgs false
set_option maxRecDepth 100000
set_option maxHeartbeats 40000000
namespace Go.Proofs.YtfidfeilljlbiaaGreat
open Go.ChangeShapes Go.WideShapes Go.ChangeAt Go.RowKit Go.Deep
structure ChG (S X Y:Sx)(C:Int):Prop where
 z:C=0 ->jnB S Y=true/\ X=jnS S Y
 n:C≠0 ->X=Sx.mt/\ Y=Sx.mt
theorem ch_chg {S:Sx}{g:Lf ->Prop}{P:List Lf}(h:Vd S)(hp:PtO S P):ChG S (chX S (dlS g S.l P)) (chY S (dlS g S.l P)) (chC S (dlS g S.l P)):=by
 cases hc:chF S (dlS g S.l P) with
 | false=>
  obtain⟨e1,e2,e3⟩:=ch_f hc;exact⟨fun h=>absurd (e3.symm.trans h) (by decide),fun _=>⟨e1,e2⟩⟩
 | true=>
  obtain⟨e1,e2,e3⟩:=ch_t hc;refine⟨fun _=> ?_,fun h=>absurd e3 h⟩;have hd:=(dr_ch (g:=g) h hp e3).2;rw [e2] at hd ⊢;unfold chF at hc;simp only [Bool.and_eq_true] at hc;exact⟨jnB_iff.2 ⟨h,hd.vd,hc.1⟩,e1⟩
theorem se_chg {S:Sx}{rep:Int}{p:List ByteArray}{fl on:Bool}{v:ByteArray}(hfv:fl=true ->emB v=true):ChG S (seX S rep p fl on v) (seY S rep p fl on v) (seC S rep p fl on v):=by
 by_cases h0:ocC S p v=0
 ·obtain⟨hs,hp,hv⟩:=ocC_ok h0;have hs:=stB_t hs;by_cases h1:seOk S rep on
  ·obtain⟨e1,e2,e3⟩:=se_t (p:=p) (fl:=fl) (v:=v) h0 h1;rw [e1,e2,e3];exact ch_chg hs (se_pto hs hp hv hfv h1)
  ·obtain⟨e1,e2,e3⟩:=se_3 (fl:=fl) h0 h1;exact⟨fun h=>absurd (e3.symm.trans h) (by decide),fun _=>⟨e1,e2⟩⟩
 ·obtain⟨e1,e2,e3⟩:=se_n (rep:=rep) (fl:=fl) (on:=on) h0;exact⟨fun h=>by rw [e3] at h;exact absurd h h0,fun _=>⟨e1,e2⟩⟩
theorem rm_chg {S:Sx}{p:List ByteArray}:ChG S (rmX S p) (rmY S p) (rmC S p):=by
 by_cases h0:ocC S p ⟨#[]⟩=0
 ·obtain⟨hs,hp,hv⟩:=ocC_ok h0;have hs:=stB_t hs;obtain⟨e1,e2,e3⟩:=rm_t h0;rw [e1,e2,e3];exact ch_chg hs (PtO.nil S)
 ·obtain⟨e1,e2,e3⟩:=rm_f h0;exact⟨fun h=>by rw [e3] at h;exact absurd h h0,fun _=>⟨e1,e2⟩⟩
theorem mt_gd:Sx.mt.Sm/\∀i,LfI (gL Sx.mt.l i):=⟨⟨by simp [Sx.mt],fun i=>by simp [Sx.mt,gL],by simp [Sx.mt]⟩,fun i=>gL_fa (by simp [Sx.mt])⟩
theorem stOkT (a y:Option Addr)(c d:Nat)(S:Sx)(w:World)(hm:S.Sm)(hv:Vd S)(h:SCt w a y S):
  Calls Tryz.prog 14 #[.agg #[.slice a S.l.length c,.slice y S.n d]] w fun e w'=>e=.returned (.bool true)/\ Below w.heap.size w w':=by
 have:=specStateOk a c S.l y S.n d S.R S.F S.T w hm.l1 hm.p1 hm.n1 h.lf h.rn;rw [yes_t hv] at this;exact this
theorem chg_gd {S X Y:Sx}{C:Int}(h:ChG S X Y C):X.Sm/\∀i,LfI (gL X.l i):=by
 by_cases hC:C=0
 ·obtain⟨hj,rfl⟩:=h.z hC;exact jnv_gd hj
 ·rw [(h.n hC).1];exact mt_gd
theorem row0 {w:World}{B:Nat}{e:TypeId}{size:Nat}{v:Value}{xs:List Value}(h:w.ownsRow B e size v 0 xs):∃a c,v=.slice a 0 c:=by
 rcases h.2 with ⟨e,_⟩|⟨g,Ha,Hb,e,_⟩
 ·exact⟨_,_,e⟩
 ·exact⟨_,_,e⟩
theorem row1 {w:World}{B:Nat}{v:Value}{s:ByteArray}(h:w.ownsRow B 9 1 v 1 (sRowR [s])):∃g c,v=.slice (some ⟨g,0,none⟩) 1 c/\ g<w.heap.size/\ w.cell? ⟨g,0,none⟩=some (.string s):=by
 rcases h.2 with ⟨_,e⟩|⟨g,Ha,Hb,e,_⟩
 ·omega
 ·subst e;exact⟨g,Ha,rfl,(h.lt g rfl).2,(h.cellAt 0 (by omega)).trans (by simp [sRowR,gS])⟩
theorem fnReadWalk (a:Option Addr)(n c:Nat)(f:Nat ->Int)(w:World)(hn:n<=9223372036854775807)(hc:n<=c)(hs:Seg w a n f)(hf:Byt f):
  Calls Tryz.prog 3 #[.slice a n c] w fun e w'=>e=.returned (.bool true)/\ Below w.heap.size w w':=by
 by_cases h1:n<=1048576
 ·have i1:¬(1048576:Int)<(n:Int):=by omega
  obtain⟨S,Hm,p,v,⟨hg,Ju,J2,J3⟩,hd⟩:=drawWrJ f hf n hn;have HD:Hid (∀w1,Below w.heap.size w w1 ->Calls Tryz.prog 4 #[.slice a n c] w1 fun e w'=>DwQ S Hm p v w1 e w'):=hid (fun w1 b=>hd a c w1 hc (hs.below b));have Ks:=hid (HD.out w zI);have GS:Hid (S.Sm/\∀i,LfI (gL S.l i)):=hid ⟨hg.sm,hg.li⟩;have GT:=hid hg.t;have Ho:p.length<=1048576:=by omega
  have K1:v.size<=1048576:=by omega
  have K0:Hid ((Lit.int .i64 Hm).wf=true):=hid (wfI (by omega) (by omega));obtain⟨on,J0⟩:∃on,((v.size:Int)%2==0)=on:=⟨_,rfl⟩;clear hd hs hf hg;go_enter Tryz.func3,Tryz.ntmps3;go_wp2_with fail;refine Ks.out.mono ?_;rintro e v1 ⟨a0,c0,y0,d0,pa,pc,rfl,s0,Jk,b0⟩;have HL:=hid ((show Ats w [] from fun v hv=>by simp at hv).box b0 ⟨s0.at.1,s0.at.2⟩ c0 d0);have HB:=hid (keepS b0 (zO v1 (.cells #[.slice a0 S.l.length c0,.slice y0 S.n d0] 28)));have Gi:=hid (Jk.below (zO v1 (.cells #[.slice a0 S.l.length c0,.slice y0 S.n d0] 28)));obtain⟨U0,Gx⟩:∃U,v1.alloc (.cells #[.slice a0 S.l.length c0,.slice y0 S.n d0] 28)=U:=⟨_,rfl⟩;rw [Gx] at HL HB Gi;have Gl:=Gi.out.cap;have Hn:Hid (∀U,Below U0.heap.size U0 U ->SSeg U pa p):=hid (fun U b=>(Gi.out.below b).at);have HK:Hid (Below U0.heap.size U0 U0):=hid zI;clear s0 Jk b0 Ks Gi;obtain⟨Xw,G5⟩:∃X,(seX S Hm p false true v)=X:=⟨_,rfl⟩;obtain⟨Yw,G8⟩:∃Y,(seY S Hm p false true v)=Y:=⟨_,rfl⟩;obtain⟨Cw,Gw⟩:∃C,(seC S Hm p false true v)=C:=⟨_,rfl⟩;have Jq:Hid (ChG S Xw Yw Cw):=hid (by rw [<- G5,<- G8,<- Gw];exact se_chg (fun h=>by simp at h));have Hu:=hid (And.intro G5 (And.intro G8 Gw));clear G5 G8 Gw;obtain⟨Xf,G3⟩:∃X,(seX S Hm p true on ⟨#[]⟩)=X:=⟨_,rfl⟩;obtain⟨Yf,G6⟩:∃Y,(seY S Hm p true on ⟨#[]⟩)=Y:=⟨_,rfl⟩;obtain⟨Cf,Gu⟩:∃C,(seC S Hm p true on ⟨#[]⟩)=C:=⟨_,rfl⟩;have Jo:Hid (ChG S Xf Yf Cf):=hid (by rw [<- G3,<- G6,<- Gu];exact se_chg (fun _=>by simp [emB]));have Hy:=hid (And.intro G3 (And.intro G6 Gu));clear G3 G6 Gu;obtain⟨Xr,G4⟩:∃X,(rmX S p)=X:=⟨_,rfl⟩;obtain⟨Yr,G7⟩:∃Y,(rmY S p)=Y:=⟨_,rfl⟩;obtain⟨Cr,Gv⟩:∃C,(rmC S p)=C:=⟨_,rfl⟩;have Jp:Hid (ChG S Xr Yr Cr):=hid (by rw [<- G4,<- G7,<- Gv];exact rm_chg);have Hp:=hid (And.intro G4 (And.intro G7 Gv));clear G4 G7 Gv;have Ha:=HL.out ⟨v1.heap.size,a0,y0,c0,d0,S⟩ (by simp);have Hj:=Ha.1.c0;have Hk:=Ha.1.c1;have HC:=hid (specWriteReg a0 c0 y0 d0 pa pc S Hm p v U0 GS.out.1 GT.out Ha.2.lf Ha.2.rn Ho Gl (Hn.out _ HK.out) K1);rw [Hu.out.1,Hu.out.2.1,Hu.out.2.2] at HC;clear Ha;go_wp2_with fail;try rw [Gx]
  clear Gx;refine HC.out.mono ?_;rintro e w5 ⟨K3,Kc,K6,Kf,K9,Ki,Je,Kn,rfl,s5,t5,b5⟩;have Gp:=below2 w5 (.cells #[.slice K3 Xw.l.length Kc,.slice K6 Xw.n Kf] 28) (.cells #[.slice K9 Yw.l.length Ki,.slice Je Yw.n Kn] 28);have Hd:=hid (HL.out.box2 b5 ⟨s5.at.1,s5.at.2⟩ ⟨t5.at.1,t5.at.2⟩ Kc Kf Ki Kn);have Hb:=hid (keepS (keepS HB.out b5) Gp);have Hc:=hid (keepS (keepS HK.out b5) Gp);obtain⟨W5,Gy⟩:∃W,(w5.alloc (.cells #[.slice K3 Xw.l.length Kc,.slice K6 Xw.n Kf] 28)).alloc (.cells #[.slice K9 Yw.l.length Ki,.slice Je Yw.n Kn] 28)=W:=⟨_,rfl⟩;rw [Gy] at Hd Hb Hc;clear s5 t5 b5 Gp HC Hj Hk HL HB HK;have HK:=Hc;clear Hc;have HL:=Hd;have HB:=Hb;clear Hd Hb;have Ha:=HL.out ⟨v1.heap.size,a0,y0,c0,d0,S⟩ (by simp);have Hj:=Ha.1.c0;have Hk:=Ha.1.c1;have HC:=hid (specSetFlag a0 c0 y0 d0 pa pc S Hm p on W5 GS.out.1 GT.out Ha.2.lf Ha.2.rn Ho Gl (Hn.out _ HK.out));rw [Hy.out.1,Hy.out.2.1,Hy.out.2.2] at HC;clear Ha;go_wp2_with fail;try rw [Gy]
  clear Gy;refine HC.out.mono ?_;rintro e w6 ⟨K4,Kd,K7,Kg,Ja,Kj,Jf,Ko,rfl,s6,t6,b6⟩;have Gq:=below2 w6 (.cells #[.slice K4 Xf.l.length Kd,.slice K7 Xf.n Kg] 28) (.cells #[.slice Ja Yf.l.length Kj,.slice Jf Yf.n Ko] 28);have Hd:=hid (HL.out.box2 b6 ⟨s6.at.1,s6.at.2⟩ ⟨t6.at.1,t6.at.2⟩ Kd Kg Kj Ko);have Hb:=hid (keepS (keepS HB.out b6) Gq);have Hc:=hid (keepS (keepS HK.out b6) Gq);obtain⟨W6,Gz⟩:∃W,(w6.alloc (.cells #[.slice K4 Xf.l.length Kd,.slice K7 Xf.n Kg] 28)).alloc (.cells #[.slice Ja Yf.l.length Kj,.slice Jf Yf.n Ko] 28)=W:=⟨_,rfl⟩;rw [Gz] at Hd Hb Hc;clear s6 t6 b6 Gq HC Hj Hk HL HB HK;have HK:=Hc;clear Hc;have HL:=Hd;have HB:=Hb;clear Hd Hb;have Ha:=HL.out ⟨v1.heap.size,a0,y0,c0,d0,S⟩ (by simp);have Hj:=Ha.1.c0;have Hk:=Ha.1.c1;have HC:=hid (specRemove a0 c0 y0 d0 pa pc S p W6 GS.out.1 Ha.2.lf Ha.2.rn Ho Gl (Hn.out _ HK.out));rw [Hp.out.1,Hp.out.2.1,Hp.out.2.2] at HC;clear Ha;go_wp2_with fail;try rw [Gz]
  clear Gz;refine HC.out.mono ?_;rintro e w7 ⟨K5,Ke,K8,Kh,Jb,Kk,Jg,Kp,rfl,s7,t7,b7⟩;have Gr:=below2 w7 (.cells #[.slice K5 Xr.l.length Ke,.slice K8 Xr.n Kh] 28) (.cells #[.slice Jb Yr.l.length Kk,.slice Jg Yr.n Kp] 28);have Hd:=hid (HL.out.box2 b7 ⟨s7.at.1,s7.at.2⟩ ⟨t7.at.1,t7.at.2⟩ Ke Kh Kk Kp);have Hb:=hid (keepS (keepS HB.out b7) Gr);have Hc:=hid (keepS (keepS HK.out b7) Gr);obtain⟨W7,G0⟩:∃W,(w7.alloc (.cells #[.slice K5 Xr.l.length Ke,.slice K8 Xr.n Kh] 28)).alloc (.cells #[.slice Jb Yr.l.length Kk,.slice Jg Yr.n Kp] 28)=W:=⟨_,rfl⟩;rw [G0] at Hd Hb Hc;clear s7 t7 b7 Gr HC Hj Hk HL HB HK;have HK:=Hc;clear Hc;have HL:=Hd;have HB:=Hb;clear Hd Hb;have Ha:=HL.out ⟨v1.heap.size,a0,y0,c0,d0,S⟩ (by simp);have Hj:=Ha.1.c0;have Hk:=Ha.1.c1;have HC:=hid (implWriteReg a0 y0 pa c0 d0 pc S Hm p v W7 GS.out.1 GS.out.2 ⟨Ha.2.lf.seg,Ha.2.rn⟩ Ho (Hn.out _ HK.out) K1 K0.out);rw [Hu.out.1,Hu.out.2.1,Hu.out.2.2] at HC;clear Ha;go_wp2_with fail;try rw [G0]
  clear G0;refine HC.out.mono ?_;rintro e w8 ⟨Hv,Hs,Hw,Ht,Jc,Kl,Jh,Kq,Jx,rfl,s8,t8,b8⟩;have Gs:=below2 w8 (.cells #[.slice Hv Xw.l.length Hs,.slice Hw Xw.n Ht] 28) (.cells #[.slice Jc Yw.l.length Kl,.slice Jh Yw.n Kq] 28);have Hd:=hid (HL.out.box2 b8 s8.ct t8.ct Hs Ht Kl Kq);have Hb:=hid (keepS (keepS HB.out b8) Gs);have Hc:=hid (keepS (keepS HK.out b8) Gs);obtain⟨W8,G1⟩:∃W,(w8.alloc (.cells #[.slice Hv Xw.l.length Hs,.slice Hw Xw.n Ht] 28)).alloc (.cells #[.slice Jc Yw.l.length Kl,.slice Jh Yw.n Kq] 28)=W:=⟨_,rfl⟩;rw [G1] at Hd Hb Hc;clear s8 t8 b8 Gs HC Hj Hk HL HB HK;have HK:=Hc;clear Hc;have HL:=Hd;have HB:=Hb;clear Hd Hb;have Ha:=HL.out ⟨v1.heap.size,a0,y0,c0,d0,S⟩ (by simp);have Hj:=Ha.1.c0;have Hk:=Ha.1.c1;have HC:=hid (implSetFlag a0 y0 pa c0 d0 pc S Hm p on W8 GS.out.1 GS.out.2 ⟨Ha.2.lf.seg,Ha.2.rn⟩ Ho (Hn.out _ HK.out) K0.out);rw [Hy.out.1,Hy.out.2.1,Hy.out.2.2] at HC;clear Ha;go_wp2_with fail;try rw [G1]
  clear G1;refine HC.out.mono ?_;rintro e w9 ⟨Gb,H6,Gc,H7,Jd,Km,Ji,Kr,Jy,rfl,s9,t9,b9⟩;have Gt:=below2 w9 (.cells #[.slice Gb Xf.l.length H6,.slice Gc Xf.n H7] 28) (.cells #[.slice Jd Yf.l.length Km,.slice Ji Yf.n Kr] 28);have Hd:=hid (HL.out.box2 b9 s9.ct t9.ct H6 H7 Km Kr);have Hb:=hid (keepS (keepS HB.out b9) Gt);have Hc:=hid (keepS (keepS HK.out b9) Gt);obtain⟨W9,G2⟩:∃W,(w9.alloc (.cells #[.slice Gb Xf.l.length H6,.slice Gc Xf.n H7] 28)).alloc (.cells #[.slice Jd Yf.l.length Km,.slice Ji Yf.n Kr] 28)=W:=⟨_,rfl⟩;rw [G2] at Hd Hb Hc;clear s9 t9 b9 Gt HC Hj Hk HL HB HK;have HK:=Hc;clear Hc;have HL:=Hd;have HB:=Hb;clear Hd Hb;have Ha:=HL.out ⟨v1.heap.size,a0,y0,c0,d0,S⟩ (by simp);have Hj:=Ha.1.c0;have Hk:=Ha.1.c1;have HC:=hid (implRemove a0 y0 pa c0 d0 pc S p W9 GS.out.1 GS.out.2 ⟨Ha.2.lf.seg,Ha.2.rn⟩ Ho (Hn.out _ HK.out));rw [Hp.out.1,Hp.out.2.1,Hp.out.2.2] at HC;clear Ha;go_wp2_with fail;try rw [G2]
  clear G2;refine HC.out.mono ?_;rintro e Gg ⟨Hh,He,Hi,Hf,Ge,H8,Gf,H9,Jj,rfl,Jl,Jm,Gk⟩;have H3:=below2 Gg (.cells #[.slice Hh Xr.l.length He,.slice Hi Xr.n Hf] 28) (.cells #[.slice Ge Yr.l.length H8,.slice Gf Yr.n H9] 28);have Hd:=hid (HL.out.box2 Gk Jl.ct Jm.ct He Hf H8 H9);have Hb:=hid (keepS (keepS HB.out Gk) H3);have Hc:=hid (keepS (keepS HK.out Gk) H3);obtain⟨H2,H4⟩:∃W,(Gg.alloc (.cells #[.slice Hh Xr.l.length He,.slice Hi Xr.n Hf] 28)).alloc (.cells #[.slice Ge Yr.l.length H8,.slice Gf Yr.n H9] 28)=W:=⟨_,rfl⟩;rw [H4] at Hd Hb Hc;clear Jl Jm Gk H3 HC Hj Hk HL HB HK;have HK:=Hc;clear Hc;have HL:=Hd;have HB:=Hb;clear Hd Hb;have GW:=hid (chg_gd Jq.out);have GF:=hid (chg_gd Jo.out);have GR:=hid (chg_gd Jp.out);go_upto_if 97 with fail;try rw [H4]
  clear H4;go_cut [26,27] from 32 to 126 (fun vv oo wx=>Hid (Below H2.heap.size H2 wx));case first=>
   by_cases h0:Cw=0
   ·have Gd:(Cw==0)=true:=by simp [h0]
    have Hl:seC S Hm p false true v=0:=by rw [Hu.out.2.2];exact h0
    clear h0;have Hq:=(se_in (fun h=>by cases h) Hl).1;have H5:yes (RrOk Xw.R Xw.F Xw.T Xw.n Xw.l p)=true:=yes_t (by rw [<- Hu.out.1];exact⟨Hq.2.2,Hq.2.1⟩);have H0:(yes (RfOk Xw.R Xw.F Xw.T Xw.n Xw.l p))=yes (RfOk S.R S.F S.T S.n S.l p):=by
     rw [<- Hu.out.1,propext (wr_flag Hl)]
    have Ha:=HL.out ⟨w8.heap.size,Hv,Hw,Hs,Ht,Xw⟩ (by simp);have Hj:=Ha.1.c0;have Hk:=Ha.1.c1;have HC:=hid (implReadReg Hv Hs Xw.l Hw Xw.n Ht Xw.R Xw.F Xw.T p pa pc H2 GW.out.1.l1 GW.out.1.p1 GW.out.2 GW.out.1.n1 Ho Ha.2.lf.seg Ha.2.rn (Hn.out _ HK.out));rw [H5] at HC;have Gj:Hid (∀ts,OnceOf (rV Xw.l p Xw.l.length) ts ->ts=[v]):=hid (fun ts h=>wr_reg Hl (by rw [Hu.out.1];exact h));have Kw:Hid (RrOk Xw.R Xw.F Xw.T Xw.n Xw.l p):=hid (yes_iff.1 H5);obtain⟨F,hF⟩:∃F,yes (RfOk S.R S.F S.T S.n S.l p)=F:=⟨_,rfl⟩;have Kt:Hid (∀U,Below H2.heap.size H2 U ->Calls Tryz.prog 12 #[.agg #[.slice Hv Xw.l.length Hs,.slice Hw Xw.n Ht],.slice pa p.length pc] U fun e w'=>e=.returned (.bool F)/\ Below U.heap.size U w'):=hid (fun U b=>by
     have hk:=HL.out.below b ⟨w8.heap.size,Hv,Hw,Hs,Ht,Xw⟩ (by simp);have:=implReadFlag Hv Hs Xw.l Hw Xw.n Ht Xw.R Xw.F Xw.T p pa pc U GW.out.1.l1 GW.out.1.p1 GW.out.2 GW.out.1.n1 Ho hk.2.lf.seg hk.2.rn (Hn.out _ (keepS HK.out b));rw [H0,hF] at this;exact this)
    have Ku:Hid (∀U,Below H2.heap.size H2 U ->Calls Tryz.prog 13 #[.agg #[.slice a0 S.l.length c0,.slice y0 S.n d0],.slice pa p.length pc] U fun e w'=>e=.returned (.bool F)/\ Below U.heap.size U w'):=hid (fun U b=>by
     have hk:=HL.out.below b ⟨v1.heap.size,a0,y0,c0,d0,S⟩ (by simp);have:=specReadFlagG a0 c0 S.l y0 S.n d0 S.R S.F S.T p pa pc U GS.out.1.l1 GS.out.1.p1 GS.out.1.n1 Ho hk.2.lf hk.2.rn (Hn.out _ (keepS HK.out b)) Gl;rw [hF] at this;exact this)
    have Jz:(F !=F)=false:=by cases F<;>rfl
    have J4:(v.toList==v.toList)=true:=by simp
    clear Ha H0 hF H5 Hq Hl;go_wp2_with fail;refine HC.out.mono ?_;rintro e w1 ⟨⟨rv,ts,rfl,Hg,_,Hr,_⟩,b1⟩;obtain rfl:=Gj.out ts (Hr Kw.out);obtain⟨g,gc,rfl,hg,Ky⟩:=row1 Hg;have Gh:Hid (∀w',Below w1.heap.size w1 w' ->(w'.cell? ⟨g,0,none⟩=some (.string v)/\ w'.cell? ⟨w8.heap.size,0,none⟩=some (.slice Hv Xw.l.length Hs)/\ w'.cell? ⟨w8.heap.size,1,none⟩=some (.slice Hw Xw.n Ht)/\ w'.cell? ⟨v1.heap.size,0,none⟩=some (.slice a0 S.l.length c0)/\ w'.cell? ⟨v1.heap.size,1,none⟩=some (.slice y0 S.n d0))):=hid (fun w' b=>by
     have hA:=HL.out.below (keepS b1 b) ⟨w8.heap.size,Hv,Hw,Hs,Ht,Xw⟩ (by simp);have hS:=HL.out.below (keepS b1 b) ⟨v1.heap.size,a0,y0,c0,d0,S⟩ (by simp);exact⟨(b.cell (p:=⟨g,0,none⟩) hg).trans Ky,hA.1.c0,hA.1.c1,hS.1.c0,hS.1.c1⟩)
    have H1:=hid b1;clear Hg Hr hg Ky b1 HC Gj Kw Hj Hk;go_wp2_with fail;refine zR (S:=fun w'=>w'.cell? ⟨g,0,none⟩=some (.string v)/\ w'.cell? ⟨w8.heap.size,0,none⟩=some (.slice Hv Xw.l.length Hs)/\ w'.cell? ⟨w8.heap.size,1,none⟩=some (.slice Hw Xw.n Ht)/\ w'.cell? ⟨v1.heap.size,0,none⟩=some (.slice a0 S.l.length c0)/\ w'.cell? ⟨v1.heap.size,1,none⟩=some (.slice y0 S.n d0)) (Gh.out _ zI.drew) (fun qh=> ?_);refine tZ 0 104 ?_;refine tZ 1 105 ?_;refine tZ 2 106 ?_;refine tZ 3 107 ?_;refine tZ 4 108 ?_;refine tZ 5 109 ?_;refine tZ 6 110 ?_;refine tZ 7 111 ?_;refine tZ 8 112 ?_;refine tZ 9 113 ?_;refine tZ 10 114 ?_;refine tZ 11 115 ?_;refine tZ 12 116 ?_;refine tZ 13 117 ?_;refine tZ 14 118 ?_;refine tZ 15 119 ?_;refine tZ 16 120 ?_;refine tZ 18 122 ?_;refine tZ 19 123 ?_;refine cZ 17 ?_;intro K hK;go_simp;refine(Kt.out _ (keepS H1.out zI.drew)).mono ?_;rintro e w2 ⟨rfl,b2⟩;have Hz:Below w1.heap.size w1 w2:=keepS zI.drew b2;refine hK.out _ _ (Gh.out _ Hz) (fun qh=> ?_);clear hK K;try simp only [zP]
    refine cZ 20 ?_;intro K hK;go_simp;refine(Ku.out _ (keepS H1.out Hz)).mono ?_;rintro e w3 ⟨rfl,b3⟩;have Go:Below w1.heap.size w1 w3:=keepS Hz b3;refine hK.out _ _ (Gh.out _ Go) (fun qh=> ?_);clear hK K;try simp only [zP]
    refine tZ 21 125 ?_;refine tZ 22 126 ?_;refine zD ?_;have Gm:=hid (keepS H1.out Go);clear qh b2 Hz b3 Go Gh Kt Ku;go_wp2_with fail;go_meet;exact Gm
   ·have Gd:(Cw==0)=false:=by simp [h0]
    go_wp2_with fail;go_meet;exact hid zI
  case rest=>
   have Hx:=hcut;have Hd:=hid (HL.out.below Hx.out);have Hb:=hid (keepS HB.out Hx.out);have Hc:=hid (keepS HK.out Hx.out);clear hcut Hx HL HB HK;obtain⟨U3,Kx⟩:∃U3,wc=U3:=⟨_,rfl⟩;rw [Kx] at Hd Hb Hc ⊢;clear Kx;have HL:=Hd;have HB:=Hb;have HK:=Hc;clear Hd Hb Hc;go_upto_region 15 with fail;go_cut [140] from 32 to 175 (fun bb wx=>bb=.bool false/\ Hid (Below U3.heap.size U3 wx));case first=>
    by_cases h0:Cf=0
    ·have Gd:(Cf==0)=true:=by simp [h0]
     have Hl:seC S Hm p true on ⟨#[]⟩=0:=by rw [Hy.out.2.2];exact h0
     clear h0;have Hq:=(se_in (fun _=>by simp [emB]) Hl).1;have H0:yes (RfOk Xf.R Xf.F Xf.T Xf.n Xf.l p)=on:=by
      rw [<- Hy.out.1,propext (fl_flag Hl)];cases on
      ·exact yes_f (by simp)
      ·exact yes_t rfl
     have K2:Vd Xf:=by rw [<- Hy.out.1];exact Hq.2.2
     have Ha:=HL.out ⟨w9.heap.size,Gb,Gc,H6,H7,Xf⟩ (by simp);have Hj:=Ha.1.c0;have Hk:=Ha.1.c1;have HC:=hid (implReadFlag Gb H6 Xf.l Gc Xf.n H7 Xf.R Xf.F Xf.T p pa pc U3 GF.out.1.l1 GF.out.1.p1 GF.out.2 GF.out.1.n1 Ho Ha.2.lf.seg Ha.2.rn (Hn.out _ HK.out));rw [H0] at HC;have Jt:=hid K2;have J1:(on !=on)=false:=by cases on<;>rfl
     clear Ha H0 Hq Hl K2;go_wp2_with fail;refine HC.out.mono ?_;rintro e w1 ⟨rfl,b1⟩;have Ha:=HL.out.below b1 ⟨w9.heap.size,Gb,Gc,H6,H7,Xf⟩ (by simp);have Ga:=hid (stOkT Gb Gc H6 H7 Xf w1 GF.out.1 Jt.out Ha.2);have Ka:=Ha.1.c0;have Kb:=Ha.1.c1;have H1:=hid b1;clear Ha b1 HC Hj Hk;go_wp2_with fail;refine Ga.out.mono ?_;rintro e w2 ⟨rfl,b2⟩;have Hb:=hid (keepS H1.out b2);clear b2 Ga Ka Kb;go_wp2_with fail;go_meet;exact⟨rfl,Hb⟩
    ·have Gd:(Cf==0)=false:=by simp [h0]
     go_wp2_with fail;go_meet;exact⟨rfl,hid zI⟩
   case rest=>
    obtain⟨rfl,Hx⟩:=hcut;have Hd:=hid (HL.out.below Hx.out);have Hb:=hid (keepS HB.out Hx.out);have Hc:=hid (keepS HK.out Hx.out);clear Hx HL HB HK;have HL:=Hd;have HB:=Hb;have HK:=Hc;clear Hd Hb Hc;by_cases h0:Cr=0
    ·have Gd:(Cr==0)=true:=by simp [h0]
     have Hl:rmC S p=0:=by rw [Hp.out.2.2];exact h0
     clear h0;have Hq:=(rm_in Hl).1;have G9:yes (KyOk Xr.R Xr.F Xr.T Xr.n Xr.l p)=true:=yes_t (by rw [<- Hp.out.1];exact⟨Hq.2,.inr Hq.1⟩);have H5:yes (RrOk Xr.R Xr.F Xr.T Xr.n Xr.l p)=true:=yes_t (by rw [<- Hp.out.1];exact⟨Hq.2,Hq.1⟩);have H0:yes (RfOk Xr.R Xr.F Xr.T Xr.n Xr.l p)=false:=yes_f (by rw [<- Hp.out.1];exact rm_flag Hl);have Gj:Hid (∀ts,OnceOf (rV Xr.l p Xr.l.length) ts ->ts=[]):=hid (fun ts h=>rm_reg Hl (by rw [Hp.out.1];exact h));have Jr:Hid (kS Xr.l p Xr.l.length=[]):=hid (by rw [<- Hp.out.1];exact rm_keys Hl);have Kv:Hid (KyOk Xr.R Xr.F Xr.T Xr.n Xr.l p/\ RrOk Xr.R Xr.F Xr.T Xr.n Xr.l p):=hid ⟨yes_iff.1 G9,yes_iff.1 H5⟩;have Jn:=hid H0;have Js:=hid H5;have Ha:=HL.out ⟨Gg.heap.size,Hh,Hi,He,Hf,Xr⟩ (by simp);have Hj:=Ha.1.c0;have Hk:=Ha.1.c1;have HC:=hid (implKeys Hh He Xr.l Hi Xr.n Hf Xr.R Xr.F Xr.T p pa pc wc GR.out.1.l1 GR.out.1.p1 GR.out.2 GR.out.1.n1 Ho Ha.2.lf.seg Ha.2.rn (Hn.out _ HK.out));rw [G9] at HC;clear Ha H0 Hq Hl G9 H5;go_wp2_with fail;refine HC.out.mono ?_;rintro e w1 ⟨⟨kv,ks,rfl,Hg,_,Kz,_⟩,b1⟩;obtain rfl:ks=[]:=(Kz Kv.out.1).trans Jr.out;obtain⟨ka,kc,rfl⟩:=row0 Hg;have Ha:=HL.out.below b1 ⟨Gg.heap.size,Hh,Hi,He,Hf,Xr⟩ (by simp);have Ga:=hid (implReadReg Hh He Xr.l Hi Xr.n Hf Xr.R Xr.F Xr.T p pa pc w1 GR.out.1.l1 GR.out.1.p1 GR.out.2 GR.out.1.n1 Ho Ha.2.lf.seg Ha.2.rn (Hn.out _ (keepS HK.out b1)));rw [Js.out] at Ga;have Ka:=Ha.1.c0;have Kb:=Ha.1.c1;have H1:=hid b1;clear Ha b1 HC Hj Hk Hg Kz;go_wp2_with fail;refine Ga.out.mono ?_;rintro e w2 ⟨⟨rv,ts,rfl,Hg,_,Hr,_⟩,b2⟩;obtain rfl:ts=[]:=Gj.out ts (Hr Kv.out.2);obtain⟨ra,rc,rfl⟩:=row0 Hg;have Hz:=keepS H1.out b2;have Ha:=HL.out.below Hz ⟨Gg.heap.size,Hh,Hi,He,Hf,Xr⟩ (by simp);have Gn:=hid (implReadFlag Hh He Xr.l Hi Xr.n Hf Xr.R Xr.F Xr.T p pa pc w2 GR.out.1.l1 GR.out.1.p1 GR.out.2 GR.out.1.n1 Ho Ha.2.lf.seg Ha.2.rn (Hn.out _ (keepS HK.out Hz)));rw [Jn.out] at Gn;have Jv:=Ha.1.c0;have Jw:=Ha.1.c1;have Hb:=hid Hz;clear Ha b2 Hz Ga Ka Kb Hg Hr;go_wp2_with fail;refine Gn.out.mono ?_;rintro e w3 ⟨rfl,b3⟩;have Gm:=hid (keepS (keepS HB.out Hb.out) b3);clear b3 Gn Jv Jw;go_wp2_with fail;go_ret;exact⟨rfl,Gm.out⟩
    ·have Gd:(Cr==0)=false:=by simp [h0]
     go_wp2_with fail;go_ret;exact⟨rfl,HB.out⟩
 ·have i1:(1048576:Int)<(n:Int):=by omega
  go_enter Tryz.func3,Tryz.ntmps3;go_wp2_with fail;go_ret;exact⟨rfl,zI⟩
end Go.Proofs.YtfidfeilljlbiaaGreat
namespace Go.Proofs.YtfidfeilljlbiaaGreat.fnRead
open Go.ChangeShapes Go.WideShapes Go.ChangeAt Go.RowKit
theorem openBytesC {H:Type}{enc:TypeId×Value ->H}{W:World}{r:Reach}{b0 base:Nat}{held:Bool}{v:Value}{d:DataW H}{p:List MemPlace}
  (hval:Value.okWide Tryz.prog W r b0 22 v) (h:DataW.Trod enc Tryz.prog W base (fun _=>true) held 22 v d p):
  ∃a n c f,v=.slice a n c/\ n<=9223372036854775807/\ Seg W a n f/\ Byt f/\ n<=c:=by
 obtain⟨a0,Hb,Ha,rfl⟩:=okWide_slice Tryz.underlying22 hval;obtain⟨z0,w0⟩:∃z0:List Int,(a0=none/\ Hb=0/\ Ha=0/\ z0=[]) \/∃x,a0=some x/\ Hb<=Ha/\ Ha<=maxLen/\ z0.length=Ha/\ (∀i,i<z0.length ->W.cell? (x.add i)=some (.int .u8 (z0.getD i 0)))/\∀n∈z0,(Lit.int .u8 n).wf=true:=by
  obtain⟨He,hf⟩:=h;rcases open_ints Tryz.underlying22 Tryz.underlying5 (by kernel_rfl) hf with ⟨Hd,_⟩|⟨x,l,c,zs,Hd,_,hl,hm,hz,_,Hc,Hf⟩
  ·simp [Value.cells] at Hd;obtain⟨rfl,rfl,rfl⟩:=Hd;exact⟨[],.inl ⟨rfl,rfl,rfl,rfl⟩⟩
  ·simp [Value.cells] at Hd;obtain⟨rfl,rfl,rfl⟩:=Hd;exact⟨zs,.inr ⟨_,rfl,hl,hm,by first|exact hz|simpa using hz|omega,Hc,Hf⟩⟩
 obtain⟨s,hb,hl⟩:=seg_of w0;exact⟨a0,Hb,Ha,_,rfl,hl,s,hb,by rcases w0 with ⟨_,h1,h2,_⟩|⟨_,_,h1,_⟩<;>omega⟩
theorem own:ownKnob Tryz.prog.godebug=none:=by kernel_rfl
theorem laidOut:laidOutB Tryz.prog=true:=by kernel_rfl
theorem lifted (os:Os)(started:os.Started)(H:Type)(enc:TypeId×Value ->H):
  ReturnsInHanded {} Tryz.checked os 3 .any (Rows.fnReadSpec.pre6 enc Tryz.prog Tryz.f3 Rows.fnReadRow.domain false) (Rows.fnReadSpec.post enc Tryz.prog Tryz.f3 false true false false):=by
 refine returnsInHanded_of_change (C:=Tryz.checked) own started (by kernel_rfl) Tryz.func3
  (ChangeSpec.witness6 (enc:=enc) (C:=Tryz.checked) false ⟨#[],#[.slice none 0 0],[]⟩ 8 (by kernel_rfl) (by kernel_rfl) (by kernel_rfl) (by kernel_rfl)) ?_
 intro W Hd Ha ds gs He Hb hW Hj _;have Hc:∀(j:Nat) t v,Tryz.f3.params[j]? =some t ->Ha[j]? =some v ->Value.okWide Tryz.prog W .any Hd t v:=Hb;have Hh:=hW;obtain⟨p,q,Hf,hV,rfl,Ho,Hp⟩:=hW;have hA:DataW.TrodAll enc Tryz.prog W 0 (fun _=>true) true Tryz.f3.params.toList Ha.toList ds p:=Hf;rw [Tryz.params3] at hA Hc;obtain⟨v0,Hq,d0,Hn,p0,q0,Hg,rfl,rfl,h0,r0⟩:=trodAll_cons hA;obtain⟨rfl,rfl,rfl⟩:=trodAll_nil r0;obtain rfl:Ha=#[v0]:=by cases Ha;simp_all
 obtain⟨rfl,rfl⟩:=trodVars_none hV;have k0:=h0;have Hm:∀x∈p0,x.block<W.heap.size:=by obtain⟨m,hm⟩:=k0;exact DataW.trod_lt m _ _ _ hm
 obtain⟨a0,n0,c0,f0,rfl,Hl,s0,Hk,Hi⟩:=openBytesC (Hc 0 22 v0 rfl rfl) h0;clear Hf Hb;refine(fnReadWalk a0 n0 c0 f0 W Hl Hi s0 Hk).mono fun e W' ⟨he,bel⟩=> ?_;subst he;exact⟨_,rfl,_,_,_,[],_,[],Hh,trodAll_mk1 (shut_bool Tryz.underlying4 _),(trodAll_cons_mk (Below.trod laidOut (by kernel_rfl) (of_decide_eq_true (by kernel_rfl)) k0 bel Hm) trodAll_mk0),rfl,bel.frame _,fun h=>by cases h⟩
theorem over:Rows.fnReadRow.holds Tryz.pinned (OpenSpec.ofChange Rows.fnReadSpec):=
 OpenClaim.holds_of_wide 3 Tryz.f3 rfl rfl rfl rfl rfl rfl rfl ⟨rfl,rfl,rfl,rfl,rfl⟩ rfl rfl rfl rfl rfl (by kernel_rfl) Tryz.func3 (by kernel_rfl)
  (of_decide_eq_true (by kernel_rfl)) (by unfold Func.isWrapper;first|(rw [if_pos (by decide+kernel)];kernel_rfl)|(rw [if_neg (by decide+kernel)];exact⟨rfl,rfl⟩))
  (fun os started H enc _=>lifted os started H enc)
end Go.Proofs.YtfidfeilljlbiaaGreat.fnRead
namespace Go.Proofs.YtfidfeilljlbiaaGreat
theorem fnReadHolds:Rows.FnReadSaid:=fnRead.over
#print axioms fnReadHolds
end Go.Proofs.YtfidfeilljlbiaaGreat
