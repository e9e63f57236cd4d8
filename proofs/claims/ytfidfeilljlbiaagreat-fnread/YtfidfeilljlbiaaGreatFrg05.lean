import Derived.Test.YtfidfeilljlbiaaGreatFrg04
import Derived.Maps.RangeWalk
import Derived.Lib.SlMapMerge
import Derived.Test.YtfidfeilljlbiaaGreatFrg01
set_option linter.unusedVariables false
set_option linter.unusedSimpArgs false
set_option maxRecDepth 100000
set_option maxHeartbeats 40000000
namespace Go.Proofs.YtfidfeilljlbiaaGreat
open Go.ChangeShapes Go.WideShapes Go.ChangeAt Go.RowKit Go.Maps Go.Sort
theorem spanCells_last (l:List (Int×Int))(q:Int×Int)(z:Int):(spanCells (l++[q])).set (l.length*2+1) (.int .i64 z)=spanCells (l++[(q.1,z)]):=by
 rw [spanCells_append,spanCells_append,List.set_append_right _ _ (by rw [spanCells_len];omega),spanCells_len,show l.length*2+1 - l.length*2=1 from by omega];rfl
theorem appendSpan (B:Nat)(rv:Value)(l:List (Int×Int))(f t:Int)(w:World)(hB:B<=w.heap.size)(hl:l.length<=1000000)(ho:SR w B rv l)(hlo:∀q∈l,0<=q.2/\ q.2<=1000000000):
  Calls Tryz.prog 79 #[rv,.agg #[.int .i64 f,.int .i64 t]] w fun e w'=>∃v,e=.returned v/\ SR w' B v (appS l (f,t))/\ Gr w w' rv v:=by
 obtain⟨i0,hi,Hr,Hs,Ht⟩:=info_parts Tryz.infoSpan;obtain⟨W0,Hb⟩:∃W0,w.alloc (.cells #[.int .i64 f,.int .i64 t] 142)=W0:=⟨_,rfl⟩;have x0:W0.cell? ⟨w.heap.size,0,none⟩=some (.int .i64 f):=by rw [<- Hb];simp
 have x1:W0.cell? ⟨w.heap.size,1,none⟩=some (.int .i64 t):=by rw [<- Hb];simp
 have Hw:Hid (W0.heap.size=w.heap.size+1):=by rw [<- Hb];exact hid (by simp)
 have Hq:Hid (B<=W0.heap.size):=by have:=Hw.out;exact hid (by omega)
 have Hg:Hid (SR W0 B rv l):=by rw [<- Hb];exact World.ownsRow.alloc ho _
 have Hj:Hid (Gr w W0 rv rv):=by rw [<- Hb];exact(Gr.refl _ _).alloc _
 rcases List.eq_nil_or_concat l with rfl|⟨l',q,rfl⟩
 ·have Hm:Hid (SR W0.drew B rv []):=Hg.out;obtain⟨a,Hf,rfl⟩:∃a Hf,rv=.slice a 0 Hf:=by
   rcases ho.2 with ⟨rfl,_⟩|⟨g,Hf,Hx,rfl,_⟩
   ·exact⟨_,_,rfl⟩
   ·exact⟨_,_,rfl⟩
  ·clear ho;go_enter Tryz.func79,Tryz.ntmps79;go_wp2_with fail;try rw [Hb]
   clear Hb;refine zR (S:=fun w'=>w'.cell? ⟨w.heap.size,0,none⟩=some (.int .i64 f)) x0 (fun qh=> ?_);refine tZ 0 9 ?_;refine tZ 1 10 ?_;refine tZ 2 11 ?_;refine uZ 3 12 ?_;refine uZ 4 13 ?_;refine uZ 5 14 ?_;refine uZ 6 15 ?_;refine uZ 7 16 ?_;refine uZ 8 17 ?_;refine uZ 9 18 ?_;refine uZ 10 19 ?_;refine uZ 11 20 ?_;refine tZ 12 21 ?_;refine zD ?_;clear qh;go_wp2_with (at_builtin;refine wpList_app_at rfl _ _ 139 rfl B 142 i0 _ 2 16 Tryz.underlying139 hi Hr Hs Ht rfl (by decide) _ _ _ rfl (World.ownsRow.alloc Hm.out _) ⟨W0.heap.size,0,none⟩ 1 1 [.int .i64 f,.int .i64 t] rfl rfl ?c1 ?c2 ?c3 ?c4 ?c5 ?_);case c1=>exact cell2 _ _ _ _
   case c2=>intro u hu;simp at hu;rcases hu with rfl|rfl<;>rfl
   case c3=>unfold maxLen;simp
   case c4=>simp
   case c5=>have:=Hq.out;simp;omega
   intro v' w1 Ha Hi He;have R:Hid (SR w1 B v' (appS [] (f,t))):=by rw [appS_nil];exact Ha
   have RG:=hid ((Hj.out.alloc _).drew.trans (Gr.app (b':=v') Hi (by simpa using He)));clear Ha Hi He x0 x1;go_wp2_with fail;go_ret;exact⟨v',rfl,R.out,RG.out⟩
 ·simp only [List.concat_eq_append] at*;obtain⟨qf,qt⟩:=q;have hq:=hlo (qf,qt) (by simp);obtain⟨m,hm⟩:∃m,l'.length=m:=⟨_,rfl⟩;have Hd:(l'++[(qf,qt)]).length=m+1:=by simp [hm]
  rcases ho.2 with ⟨_,e0⟩|⟨g,Hf,Hx,rfl,H1,_,H0,Hy,_,_⟩
  ·simp at e0
  have Hp:g≠w.heap.size:=fun e=>by have:=(World.ownsRow.lt ho g rfl).2;omega
  have Ho:W0.cell? ⟨g,m*2+1,none⟩=some (.int .i64 qt):=by
   rw [World.ownsRow.cellAt Hg.out _ (by rw [Hd];omega),spanCells_append,List.getElem?_append_right (by rw [spanCells_len];omega),spanCells_len,hm,show m*2+1 - m*2=1 from by omega];rfl
  have Hz:=World.ownsRow.frozenAt Hg.out (m*2+1);have Hv:=hid (fun(h:¬qt+1<f)=>appS_up (l:=l') (q:=(qf,qt)) (p:=(f,t)) h);have Hu:=hid (fun(h:qt+1<f)=>appS_gap (l:=l') (q:=(qf,qt)) (p:=(f,t)) h);have Hh:=hid (spanCells_last l' (qf,qt) (max qt t));have Hn:=hid (World.ownsRow.stored Hg.out (m*2+1) (.int .i64 (max qt t)));have Hm:Hid (W0.drew.ownsRow B 142 2 (.slice (some ⟨g,0,none⟩) (m+1) Hf) (m+1) (spanCells (l'++[(qf,qt)]))):=by
   have:=Hg.out;unfold SR at this;rw [Hd] at this;exact this
  rw [hm] at Hh;rw [Hd] at H0 hl Hn Hj ⊢;unfold maxLen at Hy;have HM:=hid hm;have Hl:=hid Hd;clear ho hlo hm Hd Hg;have x2:IntKind.i64.wrap (qt+1)=qt+1:=wrapIn _ (by omega) (by omega);have H2:decide ((m:Int)<0)=false:=by simp
  have H3:(m:Int)<(m:Int)+1:=by omega
  by_cases Hc:qt+1<f
  ·have t1:decide (qt+1<f)=true:=by simp;exact Hc
   have Hk:=hid (Hu.out Hc);clear Hc;go_enter Tryz.func79,Tryz.ntmps79;go_wp2_with fail;try rw [Hb]
   clear Hb;refine zR (S:=fun w'=>w'.cell? ⟨w.heap.size,0,none⟩=some (.int .i64 f)/\ w'.cell? ⟨g,m*2+1,none⟩=some (.int .i64 qt)) ⟨x0,Ho⟩ (fun qh=> ?_);refine tZ 0 9 ?_;refine tZ 1 10 ?_;refine tZ 2 11 ?_;refine tZ 3 12 ?_;refine tZ 4 13 ?_;refine tZ 5 14 ?_;refine tZ 6 15 ?_;refine tZ 7 16 ?_;refine tZ 8 17 ?_;refine tZ 9 18 ?_;refine tZ 10 19 ?_;refine tZ 11 20 ?_;refine tZ 12 21 ?_;refine zD ?_;clear qh;go_wp2_with (at_builtin;refine wpList_app_at rfl _ _ 139 rfl B 142 i0 _ 2 16 Tryz.underlying139 hi Hr Hs Ht rfl (by decide) _ _ _ rfl (World.ownsRow.alloc Hm.out _) ⟨W0.heap.size,0,none⟩ 1 1 [.int .i64 f,.int .i64 t] rfl rfl ?c1 ?c2 ?c3 ?c4 ?c5 ?_);case c1=>exact cell2 _ _ _ _
   case c2=>intro u hu;simp at hu;rcases hu with rfl|rfl<;>rfl
   case c3=>unfold maxLen;omega
   case c4=>omega
   case c5=>have:=Hq.out;simp;omega
   intro v' w1 Ha Hi He;have R:Hid (SR w1 B v' (appS (l'++[(qf,qt)]) (f,t))):=by
    rw [Hk.out];unfold SR;rw [spanCells_append,List.length_append,Hl.out];exact Ha
   have RG:=hid ((Hj.out.alloc _).drew.trans (Gr.app (b':=v') Hi (by simpa using He)));clear Ha Hi He x0 x1;go_wp2_with fail;go_ret;exact⟨v',rfl,R.out,RG.out⟩
  ·have t1:decide (qt+1<f)=false:=by simp;omega
   have Hk:=hid (Hv.out Hc);clear Hc;go_enter Tryz.func79,Tryz.ntmps79;go_wp2_with fail;try rw [Hb]
   clear Hb;refine zR (S:=fun w'=>w'.cell? ⟨w.heap.size,0,none⟩=some (.int .i64 f)/\ w'.cell? ⟨g,m*2+1,none⟩=some (.int .i64 qt)) ⟨x0,Ho⟩ (fun qh=> ?_);refine tZ 0 9 ?_;refine tZ 1 10 ?_;refine tZ 2 11 ?_;refine tZ 3 12 ?_;refine tZ 4 13 ?_;refine tZ 5 14 ?_;refine tZ 6 15 ?_;refine tZ 7 16 ?_;refine tZ 8 17 ?_;refine tZ 9 18 ?_;refine tZ 10 19 ?_;refine tZ 11 20 ?_;refine tZ 12 21 ?_;refine zD ?_;clear qh;go_wp2_with fail;refine zR (S:=fun w'=>w'.cell? ⟨w.heap.size,1,none⟩=some (.int .i64 t)) x1 (fun qh=> ?_);refine tZ 0 26 ?_;refine tZ 1 27 ?_;refine tZ 2 28 ?_;refine tZ 3 29 ?_;refine tZ 4 30 ?_;refine tZ 5 31 ?_;refine tZ 7 33 ?_;refine tZ 8 34 ?_;refine cZ 6 ?_;intro K hK;go_simp;refine hK.out _ _ x1 (fun qh=> ?_);clear hK K;try simp only [zP]
   refine tZ 9 35 ?_;refine tZ 10 36 ?_;refine tZ 11 37 ?_;refine cZ 12 ?_;intro K hK;go_simp;have x3:(W0.setCell ⟨g,m*2+1,none⟩ (.int .i64 (max qt t))).drew.drew.cell? ⟨w.heap.size,1,none⟩=some (.int .i64 t):=by
    rw [<- x1];exact World.cell?_of_block (zH _ _ _ _ (fun e=>Hp e.symm))
   refine hK.out _ _ x3 (fun qh=> ?_);clear hK K;try simp only [zP]
   refine zD ?_;clear qh;have R:Hid (SR (W0.setCell ⟨g,m*2+1,none⟩ (.int .i64 (max qt t))) B (.slice (some ⟨g,0,none⟩) (m+1) Hf) (appS (l'++[(qf,qt)]) (f,t))):=by
    rw [Hk.out];unfold SR;show World.ownsRow _ _ _ _ _ (l'++[(qf,max qt t)]).length _;rw [<- Hh.out,show (l'++[(qf,max qt t)]).length=m+1 from by simp [HM.out]];exact Hn.out.1
   have RG:Hid (Gr w (W0.setCell ⟨g,m*2+1,none⟩ (.int .i64 (max qt t))).drew.drew (.slice (some ⟨g,0,none⟩) (m+1) Hf) (.slice (some ⟨g,0,none⟩) (m+1) Hf)):=
    ((Hj.out.trans ⟨grownSet W0 ⟨g,m*2+1,none⟩ (.int .i64 (max qt t)),.inl rfl⟩).drew).drew
   clear x0 x1 x3 Ho Hz Hn;go_wp2_with fail;go_ret;exact⟨_,rfl,R.out,RG.out⟩
def Sfx (w:World)(l:List (Int×Int))(i k:Nat)(x:Option Addr):Prop:=
 i+k=l.length/\ (k=0 \/∃g o,x=some ⟨g,o,none⟩/\ g<w.heap.size/\∀j,j<k ->w.cell? ⟨g,o+j*2,none⟩=some (.int .i64 (sF l (i+j)))/\ w.cell? ⟨g,o+j*2+1,none⟩=some (.int .i64 (sT l (i+j))))
theorem Sfx.start {w:World}{l:List (Int×Int)}{a:Option Addr}(h:SS w a l.length (sF l) (sT l)):Sfx w l 0 l.length a:=by
 refine⟨by omega,?_⟩;rcases h with h|⟨b,Ha,rfl,hb,hc⟩
 ·exact .inl h
 ·exact .inr ⟨b,Ha,rfl,hb,fun j hj=>by rw [Nat.zero_add];exact hc j hj⟩
theorem Sfx.next {w:World}{l:List (Int×Int)}{i k g o:Nat}(h:Sfx w l i (k+1) (some ⟨g,o,none⟩)):Sfx w l (i+1) k (some ⟨g,o+2,none⟩):=by
 obtain⟨h1,h2⟩:=h;refine⟨by omega,?_⟩;rcases h2 with h2|⟨g',o',e,hg,hc⟩
 ·omega
 ·injection e with e;injection e with e1 e2;subst e1 e2;refine .inr ⟨g,o+2,rfl,hg,fun j hj=> ?_⟩;have:=hc (j+1) (by omega);rw [show o+(j+1)*2=o+2+j*2 from by omega,show i+(j+1)=i+1+j from by omega] at this;exact this
theorem Sfx.below {w w1:World}{l:List (Int×Int)}{i k:Nat}{x:Option Addr}(h:Sfx w l i k x)(hb:Below w.heap.size w w1):Sfx w1 l i k x:=by
 obtain⟨h1,h2⟩:=h;refine⟨h1,h2.imp id ?_⟩;rintro⟨g,o,e,hg,hc⟩;exact⟨g,o,e,Nat.lt_of_lt_of_le hg hb.size,fun j hj=>⟨(hb.cell (p:=⟨g,_,none⟩) hg).trans (hc j hj).1,(hb.cell (p:=⟨g,_,none⟩) hg).trans (hc j hj).2⟩⟩
theorem Sfx.block {w:World}{l:List (Int×Int)}{i k:Nat}{x:Option Addr}(h:Sfx w l i k x)(hk:0<k):∃g o,x=some ⟨g,o,none⟩/\ g<w.heap.size/\ w.cell? ⟨g,o,none⟩=some (.int .i64 (sF l i))/\ w.cell? ⟨g,o+1,none⟩=some (.int .i64 (sT l i)):=by
 rcases h.2 with h|⟨g,o,e,hg,hc⟩
 ·omega
 ·have:=hc 0 hk;simp at this;exact⟨g,o,e,hg,this⟩
theorem SR.below {w:World}{B:Nat}{v v1:Value}{l:List (Int×Int)}{w0 w1:World}(h:SR w B v l)(hb:Below B w0 w)(hB:B<=w.heap.size)(hg:Gr w w1 v v1):Below B w0 w1:=
 hb.trans (hg.below hB (fun k hk=>(World.ownsRow.lt h k hk).1))
def lenOf:Value ->Nat
 | .slice _ n _=>n
 | _=>0
theorem mergeSpans (a:Option Addr)(ca:Nat)(b:Option Addr)(cb:Nat)(la lb:List (Int×Int))(w:World)(Hh:SS w a la.length (sF la) (sT la))(Hf:SS w b lb.length (sF lb) (sT lb))
  (hca:la.length<=ca) (hca':ca<=9223372036854775807) (hcb:lb.length<=cb) (hcb':cb<=9223372036854775807) (ha:Srt la) (hb:Srt lb) (hna:la.length<=2000) (hnb:lb.length<=2000):
  Calls Tryz.prog 134 #[.slice a la.length ca,.slice b lb.length cb] w fun e w'=>∃v l,e=.returned v/\ SR w' w.heap.size v l/\ Below w.heap.size w w'/\ Srt l/\ (∀x,In l x↔(In la x \/In lb x))/\ l.length<=la.length+lb.length:=by
 obtain⟨i0,hi,Kb,Kc,Kd⟩:=info_parts Tryz.infoSpan;have Gs:=hid (Sfx.start Hh);have Gt:=hid (Sfx.start Hf);have Gc:=hid ha;have Gd:=hid hb;have H9:Hid (∀m,Srt m ->∀q∈m,0<=q.2/\ q.2<=1000000000):=fun m hm q hq=>by have:=hm.2 q hq;omega
 clear Hh Hf ha hb;obtain⟨na,Hm⟩:∃na,la.length=na:=⟨_,rfl⟩;obtain⟨nb,Hn⟩:∃nb,lb.length=nb:=⟨_,rfl⟩;rw [Hm] at Gs hca hna;rw [Hn] at Gt hcb hnb;rw [Hm,Hn];have Ga:=hid Hm;have Gb:=hid Hn;clear Hm Hn;obtain⟨cc,Gu⟩:∃cc:Nat,na+nb=cc:=⟨_,rfl⟩;have hw:IntKind.i64.wrap ((na:Int)+(nb:Int))=(cc:Int):=by rw [<- Gu];exact wrapIn _ (by omega) (by omega)
 have G7:=run_makeSlice_owned (P:=Tryz.prog) w w.heap.size 139 142 i0 _ 2 Tryz.underlying139 hi Kb Kc .i64 .i64 cc (by omega) (by rw [Kd];omega) (by unfold maxLen;omega) zL;obtain⟨w1,Gm,H4,H5⟩:=G7;have Gz:Hid (Below w.heap.size w w1):=zI.grown H5 zL (fun _ h=>by cases h);have G4:Hid (SR w1 w.heap.size (.slice (some ⟨w.heap.size,0,none⟩) 0 cc) []):=H4;clear H4 H5;have Kk:cc<=4000:=by omega
 clear Gu;go_enter Tryz.func134,Tryz.ntmps134;go_wp2_with fail;go_loopw [0,1,5] (fun u0 u1 u5 wr=>∃(i ia H0:Nat) (xa:Option Addr) (j ib H1:Nat) (xb:Option Addr) (m:List (Int×Int)),u0=.slice xa ia H0/\ u1=.slice xb ib H1/\ ia<=H0/\ H0<=9223372036854775807/\ ib<=H1/\ H1<=9223372036854775807/\ ia<=2000/\ ib<=2000/\ Hid (Sfx w la i ia xa)/\ Hid (Sfx w lb j ib xb)/\ Hid (MInv la lb m i j)/\ Hid (SR wr w.heap.size u5 m)/\ Hid (Below w.heap.size w wr))
  (fun u0 u1 _ _=>lenOf u0+lenOf u1)
 case atStart=>exact⟨0,na,ca,a,0,nb,cb,b,[],rfl,rfl,hca,hca',hcb,hcb',hna,hnb,Gs,Gt,hid (MInv.start la lb),G4,Gz⟩
 case round=>
  clear Gm;obtain⟨i,ia,H0,xa,j,ib,H1,xb,m,rfl,rfl,Ke,Kf,Kh,Ki,Kg,Kj,Hh,Hf,Hu,Hx,He⟩:=hrel;have Gn:m.length<=1000000:=by
   have h1:=Hu.out.len;have h2:=Hh.out.1;have h3:=Hf.out.1;have:=Ga.out;have:=Gb.out;omega
  have H8:=He.out.size;by_cases Hp:0<ia/\ 0<ib
  ·obtain⟨G9,Ka⟩:=Hp;obtain⟨ga,oa,rfl,G5,Hy,Ge⟩:=(Hh.out.below He.out).block G9;obtain⟨gb,ob,rfl,G6,Hz,Gf⟩:=(Hf.out.below He.out).block Ka;obtain⟨ka,rfl⟩:∃ka,ia=ka+1:=⟨ia - 1,by omega⟩;obtain⟨kb,rfl⟩:∃kb,ib=kb+1:=⟨ib - 1,by omega⟩;obtain⟨Gh,rfl⟩:∃k,H0=k+1:=⟨H0 - 1,by omega⟩;obtain⟨Gi,rfl⟩:∃k,H1=k+1:=⟨H1 - 1,by omega⟩;have G0:Hid (ga<w.heap.size):=by
    rcases Hh.out.2 with h|⟨g,o,e,hg,_⟩
    ·omega
    ·injection e with e;injection e with e1 e2;subst e1;exact hid hg
   have G1:Hid (gb<w.heap.size):=by
    rcases Hf.out.2 with h|⟨g,o,e,hg,_⟩
    ·omega
    ·injection e with e;injection e with e1 e2;subst e1;exact hid hg
   have Gq:Hid (SR wr.drew.drew w.heap.size u5 m):=Hx.out;have G2:Hid (i<la.length):=by have:=Hh.out.1;exact hid (by omega)
   have G3:Hid (j<lb.length):=by have:=Hf.out.1;exact hid (by omega)
   have H6:some ga≠u5.ownBlock:=fun e=>by have:=(World.ownsRow.lt Hx.out ga e.symm).1;have:=G0.out;omega
   have H7:some gb≠u5.ownBlock:=fun e=>by have:=(World.ownsRow.lt Hx.out gb e.symm).1;have:=G1.out;omega
   clear G5 G6;by_cases Gg:sF la i<=sF lb j
   ·have t1:decide (sF la i<=sF lb j)=true:=by simp;exact Gg
    obtain⟨Gx,Gv⟩:∃x,(if Gh=0 then some (⟨ga,oa,none⟩:Addr) else some ⟨ga,oa+2,none⟩)=x:=⟨_,rfl⟩;have G8:(1:Int)<=(ka:Int)+1:=by omega
    have Gj:Hid (Sfx w la (i+1) ka Gx):=by
     by_cases h0:Gh=0
     ·exact hid ⟨by have:=Hh.out.1;omega,.inl (by omega)⟩
     ·rw [if_neg h0] at Gv;subst Gv;exact hid Hh.out.next
    have Hr:=hid (Hu.out.stepA Gc.out Gd.out G2.out (fun _=>Gg));clear Gg;go_wp2_with fail;refine zR (S:=fun w'=>w'.cell? ⟨ga,oa,none⟩=some (.int .i64 (sF la i))/\ w'.cell? ⟨gb,ob,none⟩=some (.int .i64 (sF lb j))) ⟨Hy,Hz⟩ (fun qh=> ?_);refine tZ 0 24 ?_;refine tZ 1 25 ?_;refine tZ 2 26 ?_;refine tZ 3 27 ?_;refine tZ 4 28 ?_;refine tZ 5 29 ?_;refine tZ 6 30 ?_;refine tZ 7 31 ?_;refine tZ 8 32 ?_;refine zD ?_;clear qh;go_wp2_with fail;refine zR (S:=fun w'=>w'.cell? ⟨ga,oa,none⟩=some (.int .i64 (sF la i))/\ w'.cell? ⟨ga,oa+1,none⟩=some (.int .i64 (sT la i))) ⟨Hy,Ge⟩ (fun qh=> ?_);refine tZ 0 33 ?_;refine tZ 1 34 ?_;refine tZ 2 35 ?_;refine tZ 3 36 ?_;refine tZ 5 38 ?_;refine tZ 6 39 ?_;refine cZ 4 ?_;intro K hK;go_simp;refine(appendSpan w.heap.size _ m (sF la i) (sT la i) wr.drew.drew H8 Gn Gq.out (H9.out m Hu.out.s)).mono ?_;rintro e w2 ⟨v2,rfl,Hk,Hj⟩;have Hc:Gr wr w2 u5 v2:=((Gr.refl wr u5).drew.drew).trans Hj;have Hq:=hid (Hx.out.below He.out H8 Hc);have Hs:=hid Hk;have d0:w2.cell? ⟨ga,oa,none⟩=some (.int .i64 (sF la i)):=Hc.g.cell Hy H6;have d1:w2.cell? ⟨ga,oa+1,none⟩=some (.int .i64 (sT la i)):=Hc.g.cell Ge H6;clear Hk Hj Hc;refine hK.out _ _ ⟨d0,d1⟩ (fun qh=> ?_);clear hK K;try simp only [zP]
    refine tZ 7 5 ?_;refine tZ 8 0 ?_;refine zD ?_;clear qh d0 d1 Hy Ge Hz Gf;go_wp2_with fail;go_roundw;case rel=>exact⟨i+1,ka,Gh,Gx,j,kb+1,Gi+1,_,_,rfl,rfl,by omega,by omega,by omega,by omega,by omega,by omega,Gj,Hf,Hr,Hs,Hq⟩
    case measure=>simp [lenOf]
   ·have t1:decide (sF la i<=sF lb j)=false:=by simp;omega
    obtain⟨Gy,Gw⟩:∃x,(if Gi=0 then some (⟨gb,ob,none⟩:Addr) else some ⟨gb,ob+2,none⟩)=x:=⟨_,rfl⟩;have G8:(1:Int)<=(kb:Int)+1:=by omega
    have Gj:Hid (Sfx w lb (j+1) kb Gy):=by
     by_cases h0:Gi=0
     ·exact hid ⟨by have:=Hf.out.1;omega,.inl (by omega)⟩
     ·rw [if_neg h0] at Gw;subst Gw;exact hid Hf.out.next
    have Hr:=hid (Hu.out.stepB Gc.out Gd.out G3.out (fun _=>by show sF lb j<=sF la i;omega));clear Gg;go_wp2_with fail;refine zR (S:=fun w'=>w'.cell? ⟨ga,oa,none⟩=some (.int .i64 (sF la i))/\ w'.cell? ⟨gb,ob,none⟩=some (.int .i64 (sF lb j))) ⟨Hy,Hz⟩ (fun qh=> ?_);refine tZ 0 24 ?_;refine tZ 1 25 ?_;refine tZ 2 26 ?_;refine tZ 3 27 ?_;refine tZ 4 28 ?_;refine tZ 5 29 ?_;refine tZ 6 30 ?_;refine tZ 7 31 ?_;refine tZ 8 32 ?_;refine zD ?_;clear qh;go_wp2_with fail;refine zR (S:=fun w'=>w'.cell? ⟨gb,ob,none⟩=some (.int .i64 (sF lb j))/\ w'.cell? ⟨gb,ob+1,none⟩=some (.int .i64 (sT lb j))) ⟨Hz,Gf⟩ (fun qh=> ?_);refine tZ 0 40 ?_;refine tZ 1 41 ?_;refine tZ 2 42 ?_;refine tZ 3 43 ?_;refine tZ 5 45 ?_;refine tZ 6 46 ?_;refine cZ 4 ?_;intro K hK;go_simp;refine(appendSpan w.heap.size _ m (sF lb j) (sT lb j) wr.drew.drew H8 Gn Gq.out (H9.out m Hu.out.s)).mono ?_;rintro e w2 ⟨v2,rfl,Hk,Hj⟩;have Hc:Gr wr w2 u5 v2:=((Gr.refl wr u5).drew.drew).trans Hj;have Hq:=hid (Hx.out.below He.out H8 Hc);have Hs:=hid Hk;have d0:w2.cell? ⟨gb,ob,none⟩=some (.int .i64 (sF lb j)):=Hc.g.cell Hz H7;have d1:w2.cell? ⟨gb,ob+1,none⟩=some (.int .i64 (sT lb j)):=Hc.g.cell Gf H7;clear Hk Hj Hc;refine hK.out _ _ ⟨d0,d1⟩ (fun qh=> ?_);clear hK K;try simp only [zP]
    refine tZ 7 5 ?_;refine tZ 8 1 ?_;refine zD ?_;clear qh d0 d1 Hy Ge Hz Gf;go_wp2_with fail;go_roundw;case rel=>exact⟨i,ka+1,Gh+1,_,j+1,kb,Gi,Gy,_,rfl,rfl,by omega,by omega,by omega,by omega,by omega,by omega,Hh,Gj,Hr,Hs,Hq⟩
    case measure=>simp [lenOf]
  ·have Go:Hid (ia=0 \/ib=0):=hid (by omega);clear Hp;rcases Nat.eq_zero_or_pos ia with H3|H3;case' inl=>
    have e1:decide (0<ia)=false:=by simp;exact H3
    clear H3;go_wp2_with fail
   case' inr=>
    have e1:decide (0<ia)=true:=by simp;exact H3
    have e2:decide (0<ib)=false:=by simp;have:=Go.out;omega
    clear H3;go_wp2_with fail
   all_goals (
    go_loopw [5,49] (fun v5 iv wr2=>∃(k:Nat) (m':List (Int×Int)),k<=ia/\ iv=.int .i64 k/\ Hid (MInv la lb m' (i+k) j)/\ Hid (SR wr2 w.heap.size v5 m')/\ Hid (Below w.heap.size w wr2)) (fun _ iv _=>ia - (intOf iv).toNat);case atStart=>exact⟨0,m,Nat.zero_le _,rfl,Hu,Hx,He⟩
    case round=>
     clear Hu Hx He H8 Gn;obtain⟨k,m',hk,rfl,Hb,Hd,Ha⟩:=hrel;have Hl:m'.length<=1000000:=by
      have h1:=Hb.out.len;have:=Ga.out;have:=Gb.out;omega
     have Ho:=Ha.out.size;by_cases Ht:k<ia
     ·have Hi:∃g o,xa=some ⟨g,o,none⟩/\ wr.cell? ⟨g,o+k*2,none⟩=some (.int .i64 (sF la (i+k)))/\ wr.cell? ⟨g,o+k*2+1,none⟩=some (.int .i64 (sT la (i+k))):=by
       rcases (Hh.out.below Ha.out).2 with h|⟨g,o,e,hg,hc⟩
       ·omega
       ·exact⟨g,o,e,hc k Ht⟩
      obtain⟨g,o,rfl,c0,c1⟩:=Hi;have Hr:=hid (Hb.out.stepA Gc.out Gd.out (by have:=Hh.out.1;omega) (fun hj=>by have:=Hf.out.1;have:=Go.out;omega));obtain⟨qf,Hv⟩:∃q,sF la (i+k)=q:=⟨_,rfl⟩;obtain⟨qt,Hw⟩:∃q,sT la (i+k)=q:=⟨_,rfl⟩;have HQ:Hid (la.getD (i+k) (0,0)=(qf,qt)):=by rw [<- Hv,<- Hw];exact rfl
      rw [Hv] at c0;rw [Hw] at c1;clear Hv Hw;obtain⟨W1,Hg⟩:∃W1,wr.alloc (.cells #[.int .i64 qf,.int .i64 qt] 142)=W1:=⟨_,rfl⟩;have r0:W1.cell? ⟨wr.heap.size,0,none⟩=some (.int .i64 qf):=by rw [<- Hg];simp
      have r1:W1.cell? ⟨wr.heap.size,1,none⟩=some (.int .i64 qt):=by rw [<- Hg];simp
      have Gk:Hid (SR W1 w.heap.size u5 m'):=by rw [<- Hg];exact World.ownsRow.alloc Hd.out _
      have H2:Hid (Gr wr W1 u5 u5):=by rw [<- Hg];exact(Gr.refl _ _).alloc _
      have Gl:Hid (w.heap.size<=W1.heap.size):=by have:=H2.out.g.size;exact hid (by omega)
      go_wp2_with fail;try rw [Hg]
      refine(appendSpan w.heap.size u5 m' qf qt W1 Gl.out Hl Gk.out (H9.out m' Hb.out.s)).mono ?_;rintro e w2 ⟨v2,rfl,Hk,Hj⟩;have Hq:=hid (Hd.out.below Ha.out Ho (H2.out.trans Hj));have Hs:=hid Hk;clear Hk Hj Hg c0 c1 r0 r1;go_wp2_with fail;go_roundw;case rel=>exact⟨k+1,_,Ht,by go_num,by have:=Hr;rw [HQ.out] at this;exact this,Hs,Hq⟩
      case measure=>simp [intOf];omega
     ·obtain rfl:k=ia:=by omega
      have Gp:Hid (MInv la lb m' la.length j):=by
       have h1:=Hh.out.1;have h2:=Hb.out;rw [h1] at h2;exact hid h2
      clear Ht Hb;go_wp2_with fail;go_loopw [5,59] (fun v5 iv wr2=>∃(k:Nat) (m':List (Int×Int)),k<=ib/\ iv=.int .i64 k/\ Hid (MInv la lb m' la.length (j+k))/\ Hid (SR wr2 w.heap.size v5 m')/\ Hid (Below w.heap.size w wr2)) (fun _ iv _=>ib - (intOf iv).toNat);case atStart=>exact⟨0,m',Nat.zero_le _,rfl,Gp,Hd,Ha⟩
      case round=>
       clear Gp Hd Ha Ho Hl hk;obtain⟨k,m',hk,rfl,Hb,Hd,Ha⟩:=hrel;have Hl:m'.length<=1000000:=by
        have h1:=Hb.out.len;have:=Ga.out;have:=Gb.out;omega
       have Ho:=Ha.out.size;by_cases Ht:k<ib
       ·have Hi:∃g o,xb=some ⟨g,o,none⟩/\ wr.cell? ⟨g,o+k*2,none⟩=some (.int .i64 (sF lb (j+k)))/\ wr.cell? ⟨g,o+k*2+1,none⟩=some (.int .i64 (sT lb (j+k))):=by
         rcases (Hf.out.below Ha.out).2 with h|⟨g,o,e,hg,hc⟩
         ·omega
         ·exact⟨g,o,e,hc k Ht⟩
        obtain⟨g,o,rfl,c0,c1⟩:=Hi;have Hr:=hid (Hb.out.stepB Gc.out Gd.out (by have:=Hf.out.1;omega) (fun hj=>by omega));obtain⟨qf,Hv⟩:∃q,sF lb (j+k)=q:=⟨_,rfl⟩;obtain⟨qt,Hw⟩:∃q,sT lb (j+k)=q:=⟨_,rfl⟩;have HQ:Hid (lb.getD (j+k) (0,0)=(qf,qt)):=by rw [<- Hv,<- Hw];exact rfl
        rw [Hv] at c0;rw [Hw] at c1;clear Hv Hw;obtain⟨W1,Hg⟩:∃W1,wr.alloc (.cells #[.int .i64 qf,.int .i64 qt] 142)=W1:=⟨_,rfl⟩;have r0:W1.cell? ⟨wr.heap.size,0,none⟩=some (.int .i64 qf):=by rw [<- Hg];simp
        have r1:W1.cell? ⟨wr.heap.size,1,none⟩=some (.int .i64 qt):=by rw [<- Hg];simp
        have Gk:Hid (SR W1 w.heap.size u5 m'):=by rw [<- Hg];exact World.ownsRow.alloc Hd.out _
        have H2:Hid (Gr wr W1 u5 u5):=by rw [<- Hg];exact(Gr.refl _ _).alloc _
        have Gl:Hid (w.heap.size<=W1.heap.size):=by have:=H2.out.g.size;exact hid (by omega)
        go_wp2_with fail;try rw [Hg]
        refine(appendSpan w.heap.size u5 m' qf qt W1 Gl.out Hl Gk.out (H9.out m' Hb.out.s)).mono ?_;rintro e w2 ⟨v2,rfl,Hk,Hj⟩;have Hq:=hid (Hd.out.below Ha.out Ho (H2.out.trans Hj));have Hs:=hid Hk;clear Hk Hj Hg c0 c1 r0 r1;go_wp2_with fail;go_roundw;case rel=>exact⟨k+1,_,Ht,by go_num,by have:=Hr;rw [HQ.out] at this;exact this,Hs,Hq⟩
        case measure=>simp [intOf];omega
       ·obtain rfl:k=ib:=by omega
        have HD:Hid (Srt m'/\ (∀x,In m' x↔(In la x \/In lb x))/\ m'.length<=la.length+lb.length):=by
         have h1:=Hf.out.1;have h2:=Hb.out;rw [h1] at h2;exact hid h2.done
        clear Hb Ht;go_wp2_with fail;go_ret;refine⟨_,m',rfl,Hd.out,Ha.out,HD.out.1,HD.out.2.1,?_⟩;have:=HD.out.2.2;have:=Ga.out;have:=Gb.out;omega)
theorem wpList_next_raw {P:Program}(w:World){ops:Array Oper}{rest:List Oper}{o:Oper}{a:Act}{Q:Exit ->Act ->World ->Prop}(hg:o.guard=none)(it:Operand)(hop:o.op=Op.next it false)(k:TypeId)(K:Keyed P k)(hk:P.underlying k=some (.int .i64))
  (b r n:Nat) (D:DataW Value) (left:Lit ->Bool) (cnt:Nat) (hit:a.eval it=.pointer (some ⟨r,0,none⟩)) (h:w.ranges P k rawR b r n D left cnt)
  (hDone:(∀kl,left kl=false) ->wpList P ops Q rest (a.put o.dst (.tuple #[.bool false])) w)
  (hMore:∀(x:Int) (va:Option Addr) (vn vc:Nat) (w':World) (cnt':Nat),(Lit.int .i64 x).wf=true ->left (kI x)=true ->(∀zd,D.atKey (kI x) zd=.held (.slice va vn vc)) ->w'.ranges P k rawR b r n D (fun z=>left z && !z.sameKey (kI x)) cnt' ->cnt'<cnt ->
   w.grownBy w' (some r) ->w'.heap.size=w.heap.size ->(Instr.entry (.pointer (some ⟨r,0,none⟩))).run P w'=.ok (.tuple #[.int .i64 x,.slice va vn vc]) w' ->wpList P ops Q rest (a.put o.dst (.tuple #[.bool true,.int .i64 x,.slice va vn vc])) w'):
  wpList P ops Q (o::rest) a w:=
 wpList_next_ranges w hg it hop k K rawR (Value.int .i64) (fun p:Option Addr×Nat×Nat=> .slice p.1 p.2.1 p.2.2) (fun key kl hkey=>by obtain⟨x,rfl,_⟩:=Maps.keyOf_int_inv hk hkey;exact⟨x,rfl⟩) (fun v y hv=>by obtain⟨_,a,n,c,rfl⟩:=rawR_inv (d:=y.1) (ps:=y.2) hv;exact⟨(a,n,c),rfl⟩)
  b r n D left cnt hit h (fun _ hl=>hDone hl) (fun x p kl y w' cnt' hkey hlk hv hat hrg hlt hgr hsz hen=>by
   obtain⟨x',ex,rfl,Ha⟩:=Maps.keyOf_int_inv hk hkey;cases ex;have hd:=(rawR_inv (d:=y.1) (ps:=y.2) hv).1;exact hMore x p.1 p.2.1 p.2.2 w' cnt' Ha hlk (fun zd=>by rw [<- hd];exact hat zd) hrg hlt hgr hsz hen)
theorem sameKey_kI (x y:Int):(kI x).sameKey (kI y)=decide (x=y):=by
 rw [Bool.eq_iff_iff,WideAt.sameKey_iff (show WideAt.IsKeyLit (kI y) from trivial),decide_eq_true_iff];constructor
 ·intro h;unfold kI at h;injection h
 ·intro h;rw [h]
theorem copyM (bd bs nd ns:Nat)(Dd Ds:DataW Value)(w:World)(hd:w.ownsMap Tryz.prog 3 rawR bd nd Dd)(hs:w.ownsMap Tryz.prog 3 rawR bs ns Ds)(hne:bd≠bs)(hroom:nd+Maps.size Ds<=maxLen):
  Calls Tryz.prog 133 #[.map (some bd),.map (some bs)] w fun e w'=>e=.returned (.tuple #[])/\ (∃D,w'.ownsMap Tryz.prog 3 rawR bd (nd+Maps.size Ds) D/\ Merged D Dd Ds (fun _=>false))/\ w.grownBy w' (some bd):=by
 have Hv:=hd.lt;have Hw:=hs.lt;go_enter Tryz.func133,Tryz.ntmps133;go_wp2_with (at_range;refine wpList_range_own _ rfl _ 67 rfl 3 139 (int_keyed Tryz.underlying3) Tryz.underlying67 rawR bs ns Ds rfl hs ?_;intro w0 Hl Ho H0);go_frame;go_loopw [8] (fun _ wr=>∃(Hc:Lit ->Bool) (Hg:Nat) (Ha:DataW Value),wr.ranges Tryz.prog 3 rawR bs w.heap.size ns Ds Hc Hg/\ Hg<=Maps.size Ds/\
   wr.ownsMap Tryz.prog 3 rawR bd (nd+(Maps.size Ds - Hg)) Ha/\ Merged Ha Dd Ds Hc/\ w.grownBy wr (some bd))
  (fun _ wr=>wr.rangeLeft bs w.heap.size)
 case atStart=>
  exact⟨_,_,Dd,Hl,Nat.le_refl _,(hd.kept Ho (by simp)).mono (by omega),merged_start Dd Ds,Ho.but _⟩
 case round=>
  obtain⟨Hc,Hg,Ha,Hk,Hx,Hb,hM,Hi⟩:=hrel;go_wp2_with (at_next;refine wpList_next_raw _ rfl _ rfl 3 (int_keyed Tryz.underlying3) Tryz.underlying3 bs w.heap.size ns _ _ _ rfl Hk ?_ ?_)
  ·intro Hs;have Hn:Merged Ha Dd Ds (fun _=>false):=by
    have e:Hc=fun _=>false:=funext Hs;rw [<- e];exact hM
   have H:=hid (And.intro Hb (And.intro Hn Hi));clear hM Hn Hi Hb Hk;go_wp2;go_end0;exact⟨rfl,⟨Ha,H.out.1.mono (by omega),H.out.2.1⟩,H.out.2.2⟩
  ·intro x va vn vc w1 Hh Hu Hz Hr Hm Ht Hp H1 Hy;have Hd:=Hb.kept Hp (fun e=>by have:=Option.some.inj e;omega);have Hj:keyOf Tryz.prog 3 (.int .i64 x)=some (kI x):=keyOf_int_mk Tryz.underlying3 Hu;go_wp2_with (at_mapUpdate;refine wpList_mapUpdate_own _ rfl _ _ _ 67 rfl 3 139 (int_keyed Tryz.underlying3) Tryz.underlying67 rawR bd _ _ rfl Hd (by omega) _ _ _ rfl rfl Hj (.held (.slice va vn vc)) [] rfl ?_;intro w2 He Hq;go_frame);have Hf:=Hm.kept Hq (fun e=>hne (Option.some.inj e).symm) (fun e=>by have:=Option.some.inj e;omega);go_roundw;case rel=>
    exact⟨_,Hh,_,Hf,by omega,He.mono (by omega),merged_step hM Hb.isMap (show WideAt.IsKeyLit (kI x) from trivial) Hr,(Hi.andThen Hp (fun j hj=> .inl (by cases hj;exact Nat.le_refl _))).andThen Hq (fun j hj=> .inr hj)⟩
   case measure=>rw [Hf.left_eq,Hk.left_eq];exact Ht
theorem row_iter {w:World}{B b r n c:Nat}{e:TypeId}{s:Nat}{v:Value}{m:Nat}{xs:List Value}{D:DataW Value}{left:Lit ->Bool}(h:w.ownsRow B e s v m xs)(hm:w.ranges Tryz.prog 3 rawR b r n D left c):v.ownBlock=none \/v.ownBlock≠some r:=by
 obtain⟨_,h2⟩:=h;rcases h2 with ⟨rfl,_⟩|⟨g,Hd,He,rfl,_,hg,_⟩
 ·exact .inl rfl
 ·refine .inr (fun e=> ?_);obtain⟨es,Ha,Hb,Hc,c0,_,_,_,_,hb,_⟩:=hm;have e:g=r:=by simpa [Value.ownBlock] using e
  rw [e,hb] at hg;cases hg
theorem In_ne {l:List (Int×Int)}{x:Int}(h:In l x):l≠[]:=fun e=>by rw [e] at h;exact In_nil h
theorem Srt.inh {l:List (Int×Int)}(h:Srt l)(hne:l≠[]):∃x,In l x:=by
 cases l with
 | nil=>exact absurd rfl hne
 | cons p t=>exact⟨p.1,p,List.mem_cons_self,Int.le_refl _,(h.2 p List.mem_cons_self).2.1⟩
structure UInv (La Lb L:Int ->List (Int×Int))(left:Int ->Bool):Prop where
 s:∀r,Srt (L r)
 done:∀r,left r=false ->∀x,In (L r) x↔(In (La r) x \/In (Lb r) x)
 todo:∀r,left r=true ->L r=La r
 len:∀r,(L r).length<=(La r).length+(Lb r).length
theorem unionM2 {w:World}{ba na bb nb:Nat}{Da Db:DataW Value}{Ga Gb:Int ->Value}{La Lb:Int ->List (Int×Int)}(ha:GrpAt w ba na Da Ga La)(hb:GrpAt w bb nb Db Gb Lb)
  (hsa:∀r,Srt (La r)) (hsb:∀r,Srt (Lb r)) (hla:∀r,(La r).length<=2000) (hlb:∀r,(Lb r).length<=2000) (hza:Maps.size Da<=2000) (hzb:Maps.size Db<=2000):
  Calls Tryz.prog 108 #[.map (some ba),.map (some bb)] w fun e w'=>∃bd n D G L,e=.returned (.map (some bd))/\ n<=4000/\ GrpR w' bd n D G L/\ UInv La Lb L (fun _=>false)/\ Below w.heap.size w w':=by
 have Kb:=ha.own.lt;have Kc:=hb.own.lt;have HA:=hid ha;have Hh:=hid hb;have Gi:=hid hsa;have Gj:=hid hsb;have G0:=hid hla;have G1:=hid hlb;have G6:=@run_makeMap Tryz.prog;clear ha hb hsa hsb hla hlb;obtain⟨W1,Hj⟩:∃W1,w.alloc (.map #[] 0)=W1:=⟨_,rfl⟩;have Hg:Hid (Below w.heap.size w W1):=by rw [<- Hj];exact hid (zO _ _)
 have Gg:Hid (W1.ownsMap Tryz.prog 3 rawR w.heap.size 0 (.map [])):=by rw [<- Hj];exact hid (World.ownsMap_made w _ _ _)
 have Gm:Hid (W1.heap.size=w.heap.size+1):=by rw [<- Hj];exact hid (by simp)
 go_enter Tryz.func108,Tryz.ntmps108;go_wp2_with fail;try rw [Hj]
 refine(copyM w.heap.size ba 0 na (.map []) Da W1 Gg.out (HA.out.below Hg.out).own (by omega) (by unfold maxLen;omega)).mono ?_;rintro e w2 ⟨rfl,⟨D2,Gn,Hz⟩,H5⟩;have B2:Below w.heap.size w w2:=Hg.out.grown H5 (by have:=Gm.out;omega) (fun k hk=>by injection hk with hk;omega);have Hl:=(Hh.out.below B2).own;have z2:w.heap.size<w2.heap.size:=by have:=H5.size;have:=Gm.out;omega
 have Gk:Hid (UInv La Lb La (fun r=>Maps.has Db (kI r))):=by
  refine hid ⟨Gi.out,fun r hr x=> ?_,fun _ _=>rfl,fun r=>by omega⟩;have hr:Maps.has Db (kI r)=false:=hr;rw [Hh.out.has' r] at hr;have:Lb r=[]:=by simpa using hr
  rw [this];simp [In]
 have Gc:Hid (∀r,D2.atKey (kI r) (.held (.slice none 0 0))=.held (Ga r)):=by
  refine hid (fun r=> ?_);rw [Hz.2,<- HA.out.at' r];cases e:Maps.has Da (kI r) with
  | true=>rfl
  | false=>
   rw [atKey_of_not_has e];rfl
 have Gf:Hid (∀r,Maps.has D2 (kI r)= !(La r).isEmpty):=by
  refine hid (fun r=> ?_);rw [Hz.1,HA.out.has' r];have:Maps.has (.map []:DataW Value) (kI r)=false:=rfl;rw [this];simp
 have Ge:=hid Gn;have Hw:=hid B2;clear Gn Hz H5 Gg Hj G6;go_wp2_with (at_range;refine wpList_range_own _ rfl _ 67 rfl 3 139 (int_keyed Tryz.underlying3) Tryz.underlying67 rawR bb nb Db rfl Hl ?_;intro w0 Hn Ht G8);go_frame;have b0:Below w.heap.size w w0:=Hw.out.grown Ht (by omega) (fun _ h=>by cases h);go_loopw [6] (fun _ wr=>∃(Hb:Lit ->Bool) (He:Nat) (Dx:DataW Value) (Gx:Int ->Value) (Lx:Int ->List (Int×Int)),wr.ranges Tryz.prog 3 rawR bb w2.heap.size nb Db Hb He/\ He<=Maps.size Db/\ Hid (GrpR wr w.heap.size (Maps.size Da+(Maps.size Db - He)) Dx Gx Lx)/\ Hid (UInv La Lb Lx (fun r=>Hb (kI r)))/\ Hid (Below w.heap.size w wr))
  (fun _ wr=>wr.rangeLeft bb w2.heap.size)
 case atStart=>
  refine⟨_,_,D2,Ga,La,Hn,Nat.le_refl _,hid ⟨(Ge.out.kept Ht (by simp)).mono (by omega),Gc.out,Gf.out,fun r=>row_zero (((HA.out.below Hw.out).rows r).kept Ht ?_)⟩,Gk,hid b0⟩;cases e:(Ga r).ownBlock with
  | none=>exact .inl rfl
  | some g=>exact .inr (by simp)
 case round=>
  clear Hn Ht G8 b0 Hl Gk Gc Gf Ge Hw;obtain⟨Hb,He,Dx,Gx,Lx,Hm,Kd,Hf,Hr,Hc⟩:=hrel;go_wp2_with (at_next;refine wpList_next_raw _ rfl _ rfl 3 (int_keyed Tryz.underlying3) Tryz.underlying3 bb w2.heap.size nb _ _ _ rfl Hm ?_ ?_)
  ·intro Gp;have HU:Hid (UInv La Lb Lx (fun _=>false)):=by
    have e:(fun r=>Hb (kI r))=fun _=>false:=funext fun r=>Gp (kI r);have:=Hr.out;rw [e] at this;exact hid this
   clear Gp Hm;go_wp2_with fail;go_ret;exact⟨w.heap.size,_,Dx,Gx,Lx,rfl,by omega,Hf.out,HU.out,Hc.out⟩
  ·intro x va vn vc w1 Hy Gw Gs H0 Ho G4 Hu G9 Ke;have hG:Gb x=.slice va vn vc:=by
    have h1:=Hh.out.at' x;rw [H0] at h1;injection h1 with h1;exact h1.symm
   have Go:Lb x≠[]:=by
    have h1:=has_true_of_atKey H0;rw [Hh.out.has' x] at h1;intro e;rw [e] at h1;cases h1
   have B1:Below w.heap.size w w1:=Hc.out.grown Hu Hc.out.size (fun k hk=>by injection hk with hk;omega);have Gu:=(Hh.out.below B1).rows x;have Gt:=(HA.out.below B1).rows x;have Gr:=(HA.out.below B1).look x Gw;obtain⟨xb,cb,e1,Gz,H3,H4⟩:=row_slice Gu;obtain⟨xa,ca,e2,Gy,H1,H2⟩:=row_slice Gt;rw [hG] at e1;injection e1 with e1 e3 e4;subst e1 e3 e4;rw [e2] at Gr;have g1:GrpR w1 w.heap.size (Maps.size Da+(Maps.size Db - He)) Dx Gx Lx:=⟨Hf.out.own.kept Hu (fun e=>by injection e with e;omega),Hf.out.at',Hf.out.has',fun r=>(Hf.out.rows r).kept Hu (row_iter (Hf.out.rows r) Hm)⟩;have HC:=hid (mergeSpans xa ca va vc (La x) (Lb x) w1 Gy Gz H1 H2 H3 H4 (Gi.out x) (Gj.out x) (G0.out x) (G1.out x));have Hd:=hid g1;have Hg:=hid B1;have Hi:=hid Ho;have G2:=hid Hm.left_eq;have Ka:=hid Gs;have G3:=hid Go;have Kf:=B1.size;clear Hm hG H0 Gs Hu G9 Gu Gt e2 Gy Gz g1 B1 Ho Go;go_wp2_with fail;refine HC.out.mono ?_;rintro e w3 ⟨v,l,rfl,H9,Ha,Gv,Hk,Gq⟩;have Hp:=Hi.out.kept (row:=none) ⟨Ha.os,Ha.tape,Ha.output,Ha.size,fun k hk _=>Ha.block k hk⟩ (by simp) (by simp);have H6:keyOf Tryz.prog 3 (.int .i64 x)=some (kI x):=keyOf_int_mk Tryz.underlying3 Gw;have G7:rawR v=some (.held v,[]):=rawR_own H9;have H8:w3.ownsMap Tryz.prog 3 rawR w.heap.size (Maps.size Da+(Maps.size Db - He)) Dx:=Hd.out.own.kept (row:=none) ⟨Ha.os,Ha.tape,Ha.output,Ha.size,fun k hk _=>Ha.block k hk⟩ (by simp);have Gh:Hid (∀r,w3.ownsRow 0 142 2 (Gx r) (Lx r).length (spanCells (Lx r))):=hid fun r=>row_below (Hd.out.rows r) Ha;have Gl:Hid (w3.ownsRow 0 142 2 v l.length (spanCells l)):=hid (row_zero H9);have Gd:=hid (keepS Hg.out Ha);have Hs:=hid (And.intro Gv (And.intro Hk Gq));have Hx:=hid Hp;clear H9 Ha Gv Hk Gq Hp Hg HC Gr Hi;go_wp2_with (at_mapUpdate;refine wpList_mapUpdate_own _ rfl _ _ _ 67 rfl 3 139 (int_keyed Tryz.underlying3) Tryz.underlying67 rawR w.heap.size _ _ rfl H8 (by unfold maxLen;omega) _ _ _ rfl rfl H6 (.held v) [] G7 ?_;intro w4 G5 Hv;go_frame);have Hq:=Hx.out.kept Hv (fun e=>by injection e with e;omega) (fun e=>by injection e with e;omega);have H7:l≠[]:=by
    obtain⟨y,hy⟩:=(Gj.out x).inh G3.out;exact In_ne ((Hs.out.2.1 y).2 (.inr hy))
   go_roundw;case rel=>
    refine⟨_,Hy,_,upd Gx x v,upd Lx x l,Hq,by omega,hid ⟨G5.mono (by omega),fun r=> ?_,fun r=> ?_,fun r=> ?_⟩,hid ⟨fun r=> ?_,fun r hr=> ?_,fun r hr=> ?_,fun r=> ?_⟩,hid (Gd.out.grown Hv (by have:=Gd.out.size;omega) (fun k hk=>by injection hk with hk;omega))⟩
    ·by_cases e:r=x
     ·subst e;rw [upd_same,atKey_put_same Hd.out.own.isMap (show WideAt.IsKeyLit (kI r) from trivial)]
     ·rw [upd_other Gx v e,atKey_put_other (kI_ne e)];exact Hd.out.at' r
    ·by_cases e:r=x
     ·subst e;rw [upd_same,has_put_same Hd.out.own.isMap (show WideAt.IsKeyLit (kI r) from trivial)];cases l with
      | nil=>exact absurd rfl H7
      | cons _ _=>rfl
     ·rw [upd_other Lx l e,has_put_other (kI_ne e)];exact Hd.out.has' r
    ·by_cases e:r=x
     ·subst e;rw [upd_same,upd_same];exact Gl.out.kept Hv (row_map Gl.out H8)
     ·rw [upd_other Gx v e,upd_other Lx l e];exact(Gh.out r).kept Hv (row_map (Gh.out r) H8)
    ·by_cases e:r=x
     ·subst e;rw [upd_same];exact Hs.out.1
     ·rw [upd_other Lx l e];exact Hr.out.s r
    ·by_cases e:r=x
     ·subst e;rw [upd_same];exact Hs.out.2.1
     ·rw [upd_other Lx l e];exact Hr.out.done r (by rw [sameKey_kI] at hr;simpa [e] using hr)
    ·by_cases e:r=x
     ·subst e;rw [sameKey_kI] at hr;simp at hr
     ·rw [upd_other Lx l e];exact Hr.out.todo r (by rw [sameKey_kI] at hr;simpa [e] using hr)
    ·by_cases e:r=x
     ·subst e;rw [upd_same];exact Hs.out.2.2
     ·rw [upd_other Lx l e];exact Hr.out.len r
   case measure=>rw [Hq.left_eq,G2.out];exact G4
def SK (f:Int ->Nat):Nat ->Nat
 | 0=>0
 | k+1=>SK f k+f (k:Int)
theorem SK_zero {f:Int ->Nat}(h:∀r,f r=0):∀k,SK f k=0
 | 0=>rfl
 | k+1=>by simp only [SK];rw [SK_zero h k,h]
theorem SK_same {f f':Int ->Nat}{x:Int}(ho:∀r,r≠x ->f' r=f r):∀k:Nat,((k:Int)<=x \/x<0) ->SK f' k=SK f k
 | 0,_=>rfl
 | k+1,h=>by simp only [SK];rw [SK_same ho k (by omega),ho k (by omega)]
theorem SK_upd {f f':Int ->Nat}{x:Int}(ho:∀r,r≠x ->f' r=f r)(h0:0<=x):∀k:Nat,x<k ->SK f' k+f x=SK f k+f' x
 | 0,h=>by omega
 | k+1,h=>by
  simp only [SK];by_cases e:x=(k:Int)
  ·rw [SK_same ho k (by omega),<- e];omega
  ·have:=SK_upd ho h0 k (by omega);rw [ho k (fun h=>e h.symm)];omega
theorem SK_const {f:Int ->Nat}{c:Nat}(h:∀r,f r<=c):∀k,SK f k<=c*k
 | 0=>Nat.le_refl _
 | k+1=>by have:=SK_const h k;have:=h (k:Int);simp only [SK];rw [Nat.mul_succ];omega
theorem outF_len (L:Int ->List (Int×Int)):∀k,(outF L k).length=SK (fun r=>(L r).length) k
 | 0=>rfl
 | k+1=>by
  by_cases e:(L (k:Int)).isEmpty=true
  ·rw [outF_succ_n e,outF_len L k];have:L (k:Int)=[]:=by simpa using e
   simp [SK,this]
  ·rw [outF_succ_y (by simpa using e),List.length_append,outF_len L k];simp [SK,tag]
theorem countM2 {w:World}{bm n:Nat}{D:DataW Value}{G:Int ->Value}{L:Int ->List (Int×Int)}(h:GrpR w bm n D G L)(hL:∀r,L r≠[] ->0<=r/\ r<8)(hl:∀r,(L r).length<=4000):
  Calls Tryz.prog 110 #[.map (some bm)] w fun e w'=>e=.returned (.int .i64 (((outF L 8).length:Nat):Int))/\ Below w.heap.size w w':=by
 have H3:=h.own.lt;have He:=h.own;have HG:=hid h;have HL:=hid hL;have Ho:=hid hl;have Hp:=hid (outF_len L 8);clear h hL hl;obtain⟨H1,Hh⟩:∃t,(outF L 8).length=t:=⟨_,rfl⟩;rw [Hh] at Hp ⊢;clear Hh;go_enter Tryz.func110,Tryz.ntmps110;go_wp2_with (at_range;refine wpList_range_own _ rfl _ 67 rfl 3 139 (int_keyed Tryz.underlying3) Tryz.underlying67 rawR bm n D rfl He ?_;intro w0 Hf Hs Hz);go_frame;have b0:Below w.heap.size w w0:=zI.grown Hs zL (fun _ h=>by cases h);go_loopw [3] (fun v wr=>∃(Ha:Lit ->Bool) (Hr Hb:Nat),v=.int .i64 (Hb:Int)/\ wr.ranges Tryz.prog 3 rawR bm w.heap.size n D Ha Hr/\ Hid (Hb=SK (fun r=>if Ha (kI r) then 0 else(L r).length) 8)/\ Hid (Below w.heap.size w wr))
  (fun _ wr=>wr.rangeLeft bm w.heap.size)
 case atStart=>
  refine⟨_,_,0,rfl,Hf,hid ?_,hid b0⟩;rw [SK_zero (fun r=> ?_)];cases e:Maps.has D (kI r) with
  | true=>rfl
  | false=>
   rw [HG.out.has' r] at e;have:L r=[]:=by simpa using e
   simp [this]
 case round=>
  clear Hf Hs Hz b0 He;obtain⟨Ha,Hr,Hb,rfl,Hi,Hc,Hd⟩:=hrel;have H2:Hb<=32000:=by
   rw [Hc.out];have:=SK_const (f:=fun r=>if Ha (kI r) then 0 else(L r).length) (c:=4000) (fun r=>by have:=Ho.out r;show (if _ then _ else _)<=_;split<;>omega) 8;omega
  go_wp2_with (at_next;refine wpList_next_raw _ rfl _ rfl 3 (int_keyed Tryz.underlying3) Tryz.underlying3 bm w.heap.size n _ _ _ rfl Hi ?_ ?_)
  ·intro Hu;have HE:Hid (Hb=H1):=by
    have h1:=Hc.out;rw [show (fun r=>if Ha (kI r) then 0 else(L r).length)=fun r=>(L r).length from funext fun r=>by rw [Hu (kI r)];rfl] at h1;exact hid (h1.trans Hp.out.symm)
   clear Hu Hi;go_wp2_with fail;go_ret;exact⟨ret_int (by rw [HE.out]),Hd.out⟩
  ·intro x va vn vc w1 Hk H6 Hw Hn Hg Hv Ht H0 H4;have hG:G x=.slice va vn vc:=by
    have h1:=HG.out.at' x;rw [Hn] at h1;injection h1 with h1;exact h1.symm
   obtain⟨a',c',e',_⟩:=row_slice (HG.out.rows x);rw [hG] at e';injection e' with ea en ec;subst ea ec;have hx:0<=x/\ x<8:=by
    have h1:=has_true_of_atKey Hn;rw [HG.out.has' x] at h1;exact HL.out x (fun e=>by rw [e] at h1;cases h1)
   have H5:vn<=4000:=by rw [en];exact Ho.out x
   have Hj:Hid (Hb+vn=SK (fun r=>if (Ha (kI r) && !(kI r).sameKey (kI x)) then 0 else(L r).length) 8):=by
    obtain⟨F0,Hl⟩:∃F0:Int ->Nat,F0=fun r=>if Ha (kI r) then 0 else(L r).length:=⟨_,rfl⟩;obtain⟨F1,Hm⟩:∃F1:Int ->Nat,F1=fun r=>if (Ha (kI r) && !(kI r).sameKey (kI x)) then 0 else(L r).length:=⟨_,rfl⟩;have h1:=SK_upd (f:=F0) (f':=F1) (x:=x) (fun r hr=>by rw [Hl,Hm];show (if _ then _ else _)=(if _ then _ else _);rw [sameKey_kI];simp [hr]) hx.1 8 hx.2;have h2:F0 x=0:=by rw [Hl];show (if _ then _ else _)=_;rw [Hw];rfl
    have h3:F1 x=(L x).length:=by rw [Hm];show (if _ then _ else _)=_;rw [sameKey_kI];simp
    have h4:=Hc.out;rw [<- Hl] at h4;rw [<- Hm];exact hid (by omega)
   have B1:Hid (Below w.heap.size w w1):=hid (Hd.out.grown Ht Hd.out.size (fun k hk=>by injection hk with hk;omega));have Hx:=hid Hi.left_eq;have Hq:=hid Hg;have Hy:=hid Hv;clear Hi Ht H0 Hn hG en Hw Hg Hv;go_wp2_with fail;go_roundw;case rel=>exact⟨_,Hk,Hb+vn,by go_num,Hq.out,Hj,B1⟩
   case measure=>rw [Hq.out.left_eq,Hx.out];exact Hy.out
def fCells (l:List Rn):List Value:=l.flatMap fun p=>[.int .i64 p.1,.int .i64 p.2.1,.int .i64 p.2.2]
theorem fCells_snoc (l:List Rn)(p:Rn):fCells (l++[p])=fCells l++[.int .i64 p.1,.int .i64 p.2.1,.int .i64 p.2.2]:=by simp [fCells]
def FR (w:World)(B:Nat)(v:Value)(l:List Rn):Prop:=w.ownsRow B 96 3 v l.length (fCells l)
theorem GrpR.look {w:World}{bm n:Nat}{D:DataW Value}{G:Int ->Value}{L:Int ->List (Int×Int)}(h:GrpR w bm n D G L)(r:Int)(hr:(Lit.int .i64 r).wf=true):
  (Instr.lookup 67 (.map (some bm)) (.int .i64 r) false).run Tryz.prog w=.ok (G r) w:=by
 obtain⟨v,ps,Ha,hv⟩:=h.own.lookup (int_keyed Tryz.underlying3) Tryz.underlying67 (zeroSpans w) (zd:=.held (.slice none 0 0)) (zp:=[]) rfl (keyOf_int_mk Tryz.underlying3 hr);have:=h.at' r;obtain⟨hd,_⟩:=rawR_inv hv;unfold kI at this;rw [this] at hd;have e:v=G r:=by injection hd with hd;exact hd.symm
 rw [Ha,e]
theorem keysR_perm {w:World}{bm n:Nat}{D:DataW Value}{G:Int ->Value}{L:Int ->List (Int×Int)}(h:GrpR w bm n D G L)(hL:∀r,L r≠[] ->0<=r/\ r<8):(KS L 8).Perm (intKeys D)/\ Maps.size D=(KS L 8).length:=by
 obtain⟨es,hD,He,_⟩:=h.own.entries (int_keyed Tryz.underlying3);obtain⟨Hc,Ha,Hd⟩:=h.own.keysOf;obtain rfl:es=Hc:=by rw [hD] at Ha;simpa using Ha
 have Hb:(KS L 8).Perm (intKeys D):=by
  have hh:=h.has';rw [hD] at hh ⊢;refine perm_intKeys He (fun p hp=>by obtain⟨v,hv⟩:=Hd p hp;obtain⟨x,_,hx,_⟩:=Maps.keyOf_i64 Tryz.underlying3 hv;exact⟨x,hx⟩) ((KS_lt L 8).imp (fun h=>by omega)) (fun x=> ?_);have:=hh x;unfold kI at this;rw [this,KS_mem];constructor
  ·rintro⟨_,_,c⟩;rw [c];rfl
  ·intro c;have c':(L x).isEmpty=false:=by simpa using c
   have:=hL x (by intro e;rw [e] at c';cases c');exact⟨this.1,this.2,c'⟩
 refine⟨Hb,?_⟩;rw [Hb.length_eq,hD];simp [Maps.size_eq,intKeys]
def outK (L:Int ->List (Int×Int))(ks:List Int):Nat ->List Rn
 | 0=>[]
 | k+1=>outK L ks k++tag (ks.getD k 0) (L (ks.getD k 0))
theorem outK_flat (L:Int ->List (Int×Int))(ks:List Int):∀k,k<=ks.length ->outK L ks k=(ks.take k).flatMap fun r=>tag r (L r)
 | 0,_=>by simp [outK]
 | k+1,h=>by
  have e:ks.take (k+1)=ks.take k++[ks.getD k 0]:=by
   rw [List.take_add_one];simp [List.getD,show k<ks.length by omega]
  rw [e,List.flatMap_append,<- outK_flat L ks k (by omega)];simp [outK]
theorem outK_len {L:Int ->List (Int×Int)}(hL:∀r,(L r).length<=4000)(ks:List Int):∀k,(outK L ks k).length<=4000*k
 | 0=>by simp [outK]
 | k+1=>by
  have:=outK_len hL ks k;have:=hL (ks.getD k 0);simp only [outK,List.length_append,tag,List.length_map];omega
theorem tag_take {r:Int}{l:List (Int×Int)}{t:Nat}(h:t<l.length):(tag r l).take (t+1)=(tag r l).take t++[(r,sF l t,sT l t)]:=by
 rw [List.take_add_one];simp [tag,sF,sT,List.getD,h]
theorem contextM2 {w:World}{bm n:Nat}{D:DataW Value}{G:Int ->Value}{L:Int ->List (Int×Int)}(h:GrpR w bm n D G L)(hL:∀r,L r≠[] ->0<=r/\ r<8)(hl:∀r,(L r).length<=4000):
  Calls Tryz.prog 112 #[.map (some bm)] w fun e w'=>∃v,e=.returned (.agg #[v])/\ FR w' w.heap.size v (outF L 8)/\ Below w.heap.size w w':=by
 obtain⟨i0,hi,Kc,Kd,Ke⟩:=info_parts Tryz.infoRun;have Ki:=h.own.lt;obtain⟨kp,H9⟩:=keysR_perm h hL;obtain⟨ks,Hn⟩:∃ks,KS L 8=ks:=⟨_,rfl⟩;have G4:Hid (outF L 8=outK L ks ks.length):=by
  refine hid ?_;rw [outK_flat L ks _ zL,List.take_length,<- Hn];rfl
 have Kl:ks.length<=8:=by rw [<- Hn];exact KS_len L 8
 have H1:Hid (∀x∈ks,0<=x/\ x<8/\ L x≠[]):=fun x hx=>by
  rw [<- Hn] at hx;have:=(KS_mem L 8 x).1 hx;exact⟨this.1,by omega,fun e=>by rw [e] at this;simp at this⟩
 have Gj:Hid (∀ss:List Int,ss.Perm (intKeys D) ->ss.mergeSort (fun x y=>decide (x<=y))=ks/\ ss.length=ks.length):=fun ss hs=>by rw [<- Hn];exact⟨KS_sorted kp hs,by rw [hs.length_eq,<- kp.length_eq]⟩
 rw [Hn] at H9;clear Hn kp hL;have HG:=hid h;have Gh:=hid hl;have Hq:Hid (∀r g,(G r).ownBlock=some g ->g<w.heap.size):=fun r g hg=>((h.rows r).lt g hg).2;clear h hl;obtain⟨W0,Hh⟩:∃W0,(w.alloc (.cells #[.slice none 0 0] 26)).alloc (.cells #[.slice none 0 0] 26)=W0:=⟨_,rfl⟩;have Gc:Hid (Below w.heap.size w W0):=by rw [<- Hh];exact hid (below2 _ _ _)
 have Hm:Hid (W0.heap.size=w.heap.size+2):=by rw [<- Hh];exact hid (by simp)
 have c2:W0.cell? ⟨w.heap.size,0,none⟩=some (.slice none 0 0):=by rw [<- Hh];simp
 have c3:W0.cell? ⟨w.heap.size+1,0,none⟩=some (.slice none 0 0):=by rw [<- Hh];simp
 have f2:W0.frozen? ⟨w.heap.size,0,none⟩=false:=by rw [<- Hh];simp
 have f3:W0.frozen? ⟨w.heap.size+1,0,none⟩=false:=by rw [<- Hh];simp
 have Hp:=hid (HG.out.below Gc.out);go_enter Tryz.func112,Tryz.ntmps112;go_wp2_with fail;try rw [Hh]
 refine(keysC (some bm) W0).mono ?_;rintro e w3 ⟨rfl,rfl⟩;go_wp2_with fail;refine(sortedC bm n D rawR W0 Hp.out.own (by rw [H9];unfold maxLen;omega) (by rw [H9];omega)).mono ?_;rintro e w4 ⟨v4,ss,rfl,Hj,Hf,Hl⟩;obtain⟨Gn,Go⟩:=Gj.out ss Hj;rw [Gn,Go] at Hf;have z4:w.heap.size+2<=w4.heap.size:=by have:=Hl.size;have:=Hm.out;omega
 have d2:=(Hl.cell (p:=⟨w.heap.size,0,none⟩) (by have:=Hm.out;show w.heap.size<_;omega)).trans c2;have d3:=(Hl.cell (p:=⟨w.heap.size+1,0,none⟩) (by have:=Hm.out;show w.heap.size+1<_;omega)).trans c3;have k2:=((bcell Hl).2 w.heap.size 0 (by have:=Hm.out;omega)).trans f2;have k3:=((bcell Hl).2 (w.heap.size+1) 0 (by have:=Hm.out;omega)).trans f3;have Gd:=hid (keepS Gc.out Hl);have Gf:=hid (HG.out.below Gd.out);clear Hj Gn Go Gj Hl Hh c2 c3 Hp f2 f3;have G9:Hid (ks.length=0 \/∃g Hg,v4=.slice (some ⟨g,0,none⟩) ks.length Hg/\ g<w4.heap.size/\ w.heap.size+2<=g/\ ks.length<=Hg/\ Hg<=9223372036854775807/\∀i,i<ks.length ->w4.cell? ⟨g,i,none⟩=some (.int .i64 (ks.getD i 0))):=by
  refine hid ?_;have hr:=Hf;rcases Hf.2 with ⟨_,e0⟩|⟨g,Hg,H3,rfl,Kh,hg,Kb,G7,Kj,Gu⟩
  ·exact .inl e0
  ·have:=Hm.out;unfold maxLen at G7;exact .inr ⟨g,Hg,rfl,(hr.lt g rfl).2,by omega,Kb,by omega,row_ints hr rfl⟩
 obtain⟨x4,Gk,e4⟩:∃x c,v4=.slice x ks.length c:=by
  rcases Hf.2 with ⟨rfl,e0⟩|⟨g,Hg,H3,rfl,_⟩
  ·exact⟨none,0,by rw [e0]⟩
  ·exact⟨_,_,rfl⟩
 subst e4;clear Hf;go_wp2_with fail;go_loopw [12] (fun iv wr=>∃(k:Nat) (v:Value),k<=ks.length/\ iv=.int .i64 k/\ wr.cell? ⟨w.heap.size+1,0,none⟩=some v/\ wr.cell? ⟨w.heap.size,0,none⟩=some (.slice none 0 0)/\ wr.frozen? ⟨w.heap.size,0,none⟩=false/\ wr.frozen? ⟨w.heap.size+1,0,none⟩=false/\ Hid (FR wr w4.heap.size v (outK L ks k))/\ Hid (w4.grownBy wr (some (w.heap.size+1)))) (fun iv _=>ks.length - (intOf iv).toNat);case atStart=>exact⟨0,_,Nat.zero_le _,rfl,d3,d2,k2,k3,hid (World.ownsRow_nil _ _ _ _),hid ⟨rfl,rfl,rfl,Nat.le_refl _,fun _ _ _=>rfl⟩⟩
 case round=>
  clear d2 d3 k2 k3;obtain⟨k,v,hk,rfl,e3,e2,j2,j3,Ht,Hw⟩:=hrel;by_cases H8:k<ks.length
  ·have He:∃g,x4=some ⟨g,0,none⟩/\ ks.length<=Gk/\ Gk<=9223372036854775807/\ wr.cell? ⟨g,k,none⟩=some (.int .i64 (ks.getD k 0)):=by
    rcases G9.out with h|⟨g,Hg,e,hg,Kk,q1,q2,hc⟩
    ·omega
    ·injection e with e1 e2 e3;subst e1 e3;have Hv:some g≠some (w.heap.size+1):=fun e=>by injection e with e;omega
     exact⟨g,rfl,q1,q2,Hw.out.cell (hc k H8) Hv⟩
   obtain⟨g,rfl,Kn,Ko,Gq⟩:=He;have Hu:=H1.out (ks.getD k 0) (by simp [List.getD,H8]);have Hr:Hid (outK L ks (k+1)=outK L ks k++tag (ks.getD k 0) (L (ks.getD k 0))):=hid rfl;have Km:=outK_len Gh.out ks k;obtain⟨x,hx⟩:∃x,ks.getD k 0=x:=⟨_,rfl⟩;rw [hx] at Hu Gq Hr;have Gw:(Lit.int .i64 x).wf=true:=wfI (by omega) (by omega);have gw:GrpR wr bm n D G L:=Gf.out.gr Hw.out (fun e=>by injection e with e;omega) (fun r g hg e=>by injection e with e;have:=Hq.out r g hg;omega);have H7:=gw.look x Gw;obtain⟨xs,cs,eG,Gt,H4,G8⟩:=row_slice (Gf.out.rows x);rw [eG] at H7;have H6:=Gh.out x;obtain⟨m,hm⟩:∃m,(L x).length=m:=⟨_,rfl⟩;have Gi:=hid Gt;have G5:Hid (∀a,xs=some a ->a.block<w.heap.size):=hid fun a ha=>by
    have:=Hq.out x a.block (by rw [eG,ha];rfl);exact this
   rw [hm] at H7 H4 H6 Gi;have HM:=hid hm;have HX:=hid hx;clear gw eG Gt hm hx Hu Gw;go_wp2_with fail;go_loopw [20] (fun iv wr2=>∃(t:Nat) (v2:Value),t<=m/\ iv=.int .i64 t/\ wr2.cell? ⟨w.heap.size+1,0,none⟩=some v2/\ wr2.cell? ⟨w.heap.size,0,none⟩=some (.slice none 0 0)/\ wr2.frozen? ⟨w.heap.size,0,none⟩=false/\ wr2.frozen? ⟨w.heap.size+1,0,none⟩=false/\ Hid (FR wr2 w4.heap.size v2 (outK L ks k++(tag x (L x)).take t))/\ Hid (w4.grownBy wr2 (some (w.heap.size+1)))) (fun iv _=>m - (intOf iv).toNat);case atStart=>exact⟨0,v,Nat.zero_le _,rfl,e3,e2,j2,j3,hid (by simpa using Ht.out),Hw⟩
   case round=>
    clear e3 e2 H7 Ht Gq j2 j3;obtain⟨t,v2,ht,rfl,e3,e2,j2,j3,Hc,Hd⟩:=hrel;have zr:=Hd.out.size;have Ka:(outK L ks k++(tag x (L x)).take t).length<=4000*k+4000:=by simp only [List.length_append,List.length_take];omega
    obtain⟨fl,H5⟩:∃fl,outK L ks k++(tag x (L x)).take t=fl:=⟨_,rfl⟩;rw [H5] at Hc Ka;have Ge:=hid H5;clear H5;by_cases Ga:t<m
    ·have He:∃gs Ho,xs=some ⟨gs,Ho,none⟩/\ wr.cell? ⟨gs,Ho+t*2,none⟩=some (.int .i64 (sF (L x) t))/\ wr.cell? ⟨gs,Ho+t*2+1,none⟩=some (.int .i64 (sT (L x) t)):=by
      rcases Gi.out with h|⟨gs,Ho,e,hg,hc⟩
      ·omega
      ·have h1:=G5.out _ e;have Hv:some gs≠some (w.heap.size+1):=fun e=>by injection e with e;have h1:gs<w.heap.size:=h1;omega
       exact⟨gs,Ho,e,Hd.out.cell (hc t Ga).1 Hv,Hd.out.cell (hc t Ga).2 Hv⟩
     obtain⟨gs,Ho,rfl,s0,s1⟩:=He;have H2:=hid (tag_take (r:=x) (l:=L x) (t:=t) (by have:=HM.out;omega));obtain⟨qf,Gr⟩:∃q,sF (L x) t=q:=⟨_,rfl⟩;obtain⟨qt,Gs⟩:∃q,sT (L x) t=q:=⟨_,rfl⟩;rw [Gr] at s0 H2;rw [Gs] at s1 H2;clear Gr Gs;obtain⟨W5,Hk⟩:∃W5,wr.alloc (.cells #[.int .i64 qf,.int .i64 qt] 142)=W5:=⟨_,rfl⟩;have b5:Below wr.heap.size wr W5:=by rw [<- Hk];exact zO _ _
     have r0:W5.cell? ⟨wr.heap.size,0,none⟩=some (.int .i64 qf):=by rw [<- Hk];simp
     have r1:W5.cell? ⟨wr.heap.size,1,none⟩=some (.int .i64 qt):=by rw [<- Hk];simp
     have Gm:=(b5.cell (p:=⟨w.heap.size+1,0,none⟩) (show w.heap.size+1<wr.heap.size by omega)).trans e3;have G0:Hid (FR W5 w4.heap.size v2 fl):=by rw [<- Hk];exact World.ownsRow.alloc Hc.out _
     have G2:Hid (w4.grownBy W5 (some (w.heap.size+1))):=by rw [<- Hk];exact hid (Hd.out.andThen (World.grownBy_alloc wr _ none) (fun j hj=>by cases hj))
     have Hx:=hid ((b5.cell (p:=⟨w.heap.size,0,none⟩) (show w.heap.size<wr.heap.size by omega)).trans e2);have Hz:=hid (((bcell b5).2 w.heap.size 0 (by omega)).trans j2);have H0:=hid (((bcell b5).2 (w.heap.size+1) 0 (by omega)).trans j3);have z5:=b5.size;have Gb:Hid (∀g,v2.ownBlock=some g ->w4.heap.size<=g):=hid fun g hg=>(World.ownsRow.lt Hc.out g hg).1;clear b5 Hc Hd e2 j2 j3;go_wp2_with (at_builtin;(try rw [Hk]);refine wpList_app_at rfl _ _ 24 rfl w4.heap.size 96 i0 _ 3 24 Tryz.underlying24 hi Kc Kd Ke rfl (by decide) _ _ _ rfl (World.ownsRow.alloc G0.out _) ⟨W5.heap.size,0,none⟩ 1 1 [.int .i64 x,.int .i64 qf,.int .i64 qt] rfl rfl ?c1 ?c2 ?c3 ?c4 ?c5 ?_);case c1=>exact cell_three_new _ _ _ _ _
     case c2=>intro u hu;simp at hu;rcases hu with rfl|rfl|rfl<;>rfl
     case c3=>unfold maxLen;omega
     case c4=>omega
     case c5=>simp;omega
     intro v7 w7 Hb Ha Hi;obtain⟨y7,n7,c7,rfl⟩:=row_form Hb;obtain⟨v7,Gv⟩:∃v7,v7=Value.slice y7 n7 c7:=⟨_,rfl⟩;rw [<- Gv] at Hb Hi;have Gp:some (w.heap.size+1)≠v2.ownBlock:=fun e=>by have:=Gb.out _ e.symm;omega
     have Hs:some w.heap.size≠v2.ownBlock:=fun e=>by have:=Gb.out _ e.symm;omega
     have b6:Below W5.heap.size W5 (W5.alloc (.cells #[.int .i64 x,.int .i64 qf,.int .i64 qt] 96)):=zO _ _;have G6:=Ha.cell ((b6.cell (p:=⟨w.heap.size+1,0,none⟩) (show w.heap.size+1<W5.heap.size by omega)).trans Gm) Gp;have Gl:=Ha.cell ((b6.cell (p:=⟨w.heap.size,0,none⟩) (show w.heap.size<W5.heap.size by omega)).trans Hx.out) Hs;have z7:=Ha.size;have z6:=b6.size;have Kg:w7.frozen? ⟨w.heap.size+1,0,none⟩=false:=(World.frozen?_of_block (Ha.block (w.heap.size+1) (by omega) Gp)).trans (((bcell b6).2 (w.heap.size+1) 0 (by omega)).trans H0.out);have Kf:w7.frozen? ⟨w.heap.size,0,none⟩=false:=(World.frozen?_of_block (Ha.block w.heap.size (by omega) Hs)).trans (((bcell b6).2 w.heap.size 0 (by omega)).trans Hz.out);have Hy:Hid (FR w7 w4.heap.size v7 (outK L ks k++(tag x (L x)).take (t+1))):=by
      rw [H2.out,<- List.append_assoc,Ge.out];unfold FR;rw [fCells_snoc,List.length_append];exact hid Hb
     have Gg:Hid (w4.grownBy w7 (some (w.heap.size+1))):=hid ((G2.out.andThen (World.grownBy_alloc W5 _ none) (fun j hj=>by cases hj)).andThen Ha (fun j hj=> .inl (Gb.out j hj)));have G1:Hid (FR (w7.setCell ⟨w.heap.size+1,0,none⟩ v7) w4.heap.size v7 (outK L ks k++(tag x (L x)).take (t+1))):=by
      refine hid ?_;refine World.ownsRow.kept Hy.out (grownSet w7 ⟨w.heap.size+1,0,none⟩ v7) ?_;cases e:v7.ownBlock with
      | none=>exact .inl rfl
      | some g=>exact .inr (fun e2=>by have:=(World.ownsRow.lt Hy.out g e).1;injection e2 with e2;have e2:g=w.heap.size+1:=e2;omega)
     have G3:Hid (w4.grownBy (w7.setCell ⟨w.heap.size+1,0,none⟩ v7) (some (w.heap.size+1))):=hid (Gg.out.andThen (grownSet w7 ⟨w.heap.size+1,0,none⟩ v7) (fun j hj=> .inr hj));have Gy:=World.cell?_setCell_same w7 ⟨w.heap.size+1,0,none⟩ v7 G6;have Gx:(w7.setCell ⟨w.heap.size+1,0,none⟩ v7).cell? ⟨w.heap.size,0,none⟩=some (.slice none 0 0):=(World.cell?_setCell_far w7 ⟨w.heap.size+1,0,none⟩ ⟨w.heap.size,0,none⟩ v7 (by show w.heap.size+1≠w.heap.size;omega)).trans Gl;have HK:=hid (And.intro Gy Gx);subst Gv;clear Hb Ha Hi Gm r0 r1 s0 s1 b6 e3 Hk Gy Gx Gl Hy Gg;go_wp2_with fail;go_roundw;case rel=>exact⟨t+1,_,Ga,by go_num,HK.out.1,HK.out.2,by simpa using Kf,by simpa using Kg,G1,G3⟩
     case measure=>simp [intOf];omega
    ·obtain rfl:t=m:=by omega
     have Gz:Hid (FR wr w4.heap.size v2 (outK L ks (k+1))):=by
      rw [Hr.out];have h1:=Hc.out;rw [<- Ge.out,List.take_of_length_le (by simp only [tag,List.length_map];have:=HM.out;omega)] at h1;exact hid h1
     clear Hc;go_wp2_with fail;go_roundw;case rel=>exact⟨k+1,v2,H8,by go_num,e3,e2,j2,j3,Gz,Hd⟩
     case measure=>simp [intOf];omega
  ·obtain rfl:k=ks.length:=by omega
   obtain⟨yv,nv,cv,rfl⟩:=row_form Ht.out;have HF:Hid (FR (wr.setCell ⟨w.heap.size,0,none⟩ (.slice yv nv cv)) w.heap.size (.slice yv nv cv) (outF L 8)):=by
    rw [G4.out];have h1:=Ht.out;have h2:FR wr w.heap.size (.slice yv nv cv) (outK L ks ks.length):=by
     obtain⟨q1,q2⟩:=h1;refine⟨q1,q2.imp id ?_⟩;rintro⟨g,Hg,H3,e,hg,r⟩;exact⟨g,Hg,H3,e,by omega,r⟩
    refine hid (World.ownsRow.kept h2 (grownSet wr ⟨w.heap.size,0,none⟩ (.slice yv nv cv)) ?_);cases e:(Value.slice yv nv cv).ownBlock with
    | none=>exact .inl rfl
    | some g=>exact .inr (fun e2=>by have:=(World.ownsRow.lt h1 g e).1;injection e2 with e2;have e2:g=w.heap.size:=e2;omega)
   have HB:Hid (Below w.heap.size w (wr.setCell ⟨w.heap.size,0,none⟩ (.slice yv nv cv))):=hid ((Gd.out.grown Hw.out (by omega) (fun k hk=>by injection hk with hk;omega)).setCell (p:=⟨w.heap.size,0,none⟩) zL (.slice yv nv cv));have k2:=World.cell?_setCell_same wr ⟨w.heap.size,0,none⟩ (.slice yv nv cv) e2;clear Ht;go_wp2_with fail;refine zF (v:=.agg #[.slice yv nv cv]) (by simp [results,Tryz.results112,go_sem,k2]) ⟨_,rfl,HF.out,HB.out⟩
def mk3 (k0 c:Nat)(i:Nat):Int:=((k0+3*i+c:Nat):Int)
end Go.Proofs.YtfidfeilljlbiaaGreat
