import Derived.Test.YtpfmeafmepgimaaGreatFkg25
import Derived.Test.YtpfmeafmepgimaaGreatFkg23
import Derived.Test.YtpfmeafmepgimaaGreatFkg27
import Derived.Test.YtpfmeafmepgimaaGreatFkg24
import Derived.Maps.AppendAt
import Derived.Deep.AppendSrc
import Derived.Test.YtpfmeafmepgimaaGreatFkg16
import Derived.Test.YtpfmeafmepgimaaGreatFkg03
import Derived.Test.YtpfmeafmepgimaaGreatFkg17
set_option linter.unusedVariables false
set_option linter.unusedSimpArgs false
set_option maxRecDepth 100000
set_option maxHeartbeats 40000000
namespace Go.Proofs.YtpfmeafmepgimaaGreat
open Go.ChangeShapes Go.WideShapes Go.ChangeAt Go.RowKit Go.Deep
noncomputable def cDR (g:Lf ->Prop)(l P:List Lf)(j k:Nat):List Rn:=unF [] ((goL g (l.take j)).map dtR++(P.take k).map dtR)
def cNR (S:Sx)(P:List Lf)(k:Nat):List Rn:=unF (flat S.R S.F S.T S.n) ((P.take k).map dtR)
noncomputable def cNL (g:Lf ->Prop)(l P:List Lf)(j k:Nat):List Lf:=(P.take k).foldl (fun o y=>insL y o) (stL g (l.take j))
noncomputable def cDL (P:List Lf)(k:Nat):List Lf:=(P.take k).foldl (fun o y=>insL y o) []
theorem take_gL {l:List Lf}{j:Nat}(h:j<l.length):l.take (j+1)=l.take j++[gL l j]:=by
 rw [List.take_add_one,List.getElem?_eq_getElem h];simp [gL,List.getD,h]
theorem take_mem {l:List Lf}{j:Nat}{x:Lf}(h:x∈l.take j):x∈l:=List.mem_of_mem_take h
section
variable {g : Lf -> Prop} {l P : List Lf} {j k : Nat}
theorem goL_t (h:j<l.length)(hg:g (gL l j)):goL g (l.take (j+1))=goL g (l.take j)++[gL l j]:=by
 unfold goL;rw [take_gL h,List.filter_append];congr 1;simp [yes_t hg]
theorem goL_f (h:j<l.length)(hg:¬g (gL l j)):goL g (l.take (j+1))=goL g (l.take j):=by
 unfold goL;rw [take_gL h,List.filter_append];simp [yes_f hg]
theorem stL_t (h:j<l.length)(hg:g (gL l j)):stL g (l.take (j+1))=stL g (l.take j):=by
 unfold stL;rw [take_gL h,List.filter_append];simp [yes_t hg]
theorem stL_f (h:j<l.length)(hg:¬g (gL l j)):stL g (l.take (j+1))=stL g (l.take j)++[gL l j]:=by
 unfold stL;rw [take_gL h,List.filter_append];congr 1;simp [yes_f hg]
theorem cDR_go (h:j<l.length)(hg:g (gL l j)):cDR g l P (j+1) 0=ins (cDR g l P j 0) (dtR (gL l j)):=by
 unfold cDR;rw [goL_t h hg,List.take_zero,List.map_append,List.map_nil,List.append_nil,List.append_nil];exact unF_snoc _ _ _
theorem cDR_st (h:j<l.length)(hg:¬g (gL l j)):cDR g l P (j+1) 0=cDR g l P j 0:=by unfold cDR;rw [goL_f h hg]
theorem cNL_go (h:j<l.length)(hg:g (gL l j)):cNL g l P (j+1) 0=cNL g l P j 0:=by unfold cNL;rw [stL_t h hg]
theorem cNL_st (h:j<l.length)(hg:¬g (gL l j)):cNL g l P (j+1) 0=cNL g l P j 0++[gL l j]:=by
 unfold cNL;rw [stL_f h hg,List.take_zero];rfl
theorem cDR_put (h:k<P.length):cDR g l P j (k+1)=ins (cDR g l P j k) (dtR (gL P k)):=by
 unfold cDR;rw [take_gL h,List.map_append,<- List.append_assoc];exact unF_snoc _ _ _
theorem cNR_put {S:Sx}(h:k<P.length):cNR S P (k+1)=ins (cNR S P k) (dtR (gL P k)):=by
 unfold cNR;rw [take_gL h,List.map_append];exact unF_snoc _ _ _
theorem cNL_put (h:k<P.length):cNL g l P j (k+1)=insL (gL P k) (cNL g l P j k):=by
 unfold cNL;rw [take_gL h,List.foldl_append];rfl
theorem cDL_put (h:k<P.length):cDL P (k+1)=insL (gL P k) (cDL P k):=by
 unfold cDL;rw [take_gL h,List.foldl_append];rfl
theorem cDR_end:cDR g l P l.length P.length=dlU g l P:=by unfold cDR dlU;rw [List.take_length,List.take_length]
theorem cNR_end {S:Sx}:cNR S P P.length=nxU S P:=by unfold cNR nxU;rw [List.take_length]
theorem cNL_end:cNL g l P l.length P.length=nxL g l P:=by unfold cNL nxL;rw [List.take_length,List.take_length]
theorem cDL_end (h:P.length<=1):cDL P P.length=P:=by
 unfold cDL;rw [List.take_length];match P,h with
 | [],_=>rfl
 | [y],_=>rfl
 | _::_::_,h=>simp at h
theorem fold_len:∀(P o:List Lf),(P.foldl (fun o y=>insL y o) o).length=o.length+P.length
 | [],o=>rfl
 | y::P,o=>by rw [List.foldl_cons,fold_len P,insL_len,List.length_cons];omega
theorem cNL_len:(cNL g l P j k).length<=l.length+P.length:=by
 unfold cNL;rw [fold_len];have h1:(stL g (l.take j)).length<=(l.take j).length:=List.length_filter_le _ _;rw [List.length_take] at h1 ⊢;omega
theorem cDL_len:(cDL P k).length<=P.length:=by
 unfold cDL;rw [fold_len,List.length_take,List.length_nil];omega
theorem cDR_len:(cDR g l P j k).length<=l.length+P.length:=by
 have h0:=unF_len ((goL g (l.take j)).map dtR++(P.take k).map dtR) [];have h1:(goL g (l.take j)).length<=(l.take j).length:=List.length_filter_le _ _;rw [List.length_append,List.length_map,List.length_map,List.length_take,List.length_nil] at h0;rw [List.length_take] at h1;show (unF [] _).length<=_;omega
theorem cNR_len {S:Sx}:(cNR S P k).length<=S.n+P.length:=by
 have h0:=unF_len ((P.take k).map dtR) (flat S.R S.F S.T S.n);rw [List.length_map,List.length_take,flatR_len] at h0;show (unF _ _).length<=_;omega
theorem cNL_mem {z:Lf}(h:z∈cNL g l P j k):z∈l \/z∈P:=by
 unfold cNL at h;rcases (nxL_mem (l:=l)).1 h with h|h
 ·exact .inl (take_mem (stL_mem.1 h).1)
 ·exact .inr (take_mem h)
theorem cDL_mem {z:Lf}(h:z∈cDL P k):z∈P:=by
 unfold cDL at h;rcases (nxL_mem (l:=P)).1 h with h|h
 ·cases h
 ·exact take_mem h
end
section
variable {g : Lf -> Prop} {S : Sx} {P : List Lf}
theorem cDR_ok (h:StOk S.R S.F S.T S.n S.l)(hp:PtO S P)(j k:Nat):FSrt (cDR g S.l P j k):=(unF_ok _ [] fs_nil (fun p hq=>by
 refine dl_rok (g:=g) h hp p ?_;rcases List.mem_append.1 hq with hq|hq
 ·obtain⟨x,hx,rfl⟩:=List.mem_map.1 hq;exact List.mem_append.2 (.inl (List.mem_map.2 ⟨x,goL_mem.2 ⟨take_mem (goL_mem.1 hx).1,(goL_mem.1 hx).2⟩,rfl⟩))
 ·obtain⟨x,hx,rfl⟩:=List.mem_map.1 hq;exact List.mem_append.2 (.inr (List.mem_map.2 ⟨x,take_mem hx,rfl⟩)))).1
theorem cNR_ok (h:StOk S.R S.F S.T S.n S.l)(hp:PtO S P)(k:Nat):FSrt (cNR S P k):=(unF_ok _ _ (flat_srt S.n (ok_okTo h)) (fun p hq=>by
 obtain⟨x,hx,rfl⟩:=List.mem_map.1 hq;exact hp.dot x (take_mem hx))).1
theorem pth_of {l:List Lf}(h:∀z∈l,1<=z.p.length/\ z.p.length<=8):∀i,i<l.length ->1<=(gL l i).p.length/\ (gL l i).p.length<=8:=fun i hi=>h _ (gL_mem.2 ⟨i,hi,rfl⟩)
theorem ok_pm (h:StOk S.R S.F S.T S.n S.l):∀z∈S.l,1<=z.p.length/\ z.p.length<=8:=fun z hz=>by
 obtain⟨j,hj,e⟩:=gL_mem.1 hz;have:=(h.2.2.1 j hj).1;rw [e] at this;exact⟨this.1.1,this.1.2.1⟩
theorem PtO.pm (hp:PtO S P):∀z∈P,1<=z.p.length/\ z.p.length<=8:=fun z hz=>⟨(hp.ok z hz).1.1,(hp.ok z hz).1.2.1⟩
theorem cNL_pth (h:StOk S.R S.F S.T S.n S.l)(hp:PtO S P)(j k:Nat):∀i,i<(cNL g S.l P j k).length ->1<=(gL (cNL g S.l P j k) i).p.length/\ (gL (cNL g S.l P j k) i).p.length<=8:=pth_of fun z hz=>by
 rcases cNL_mem hz with hz|hz
 ·exact ok_pm h z hz
 ·exact hp.pm z hz
theorem cDL_pth (hp:PtO S P)(k:Nat):∀i,i<(cDL P k).length ->1<=(gL (cDL P k) i).p.length/\ (gL (cDL P k) i).p.length<=8:=pth_of fun z hz=>hp.pm z (cDL_mem hz)
end
theorem mk_at {w:World}{lo g c:Nat}{ra:Option Addr}{rc:Nat}{l:List Lf}{u:List Rn}{P Q:Nat ->Nat}(h:LC w lo (.slice (some ⟨g,0,none⟩) l.length c) l P Q)(hf:FR w lo (.slice ra u.length rc) u):SNc w lo (some ⟨g,0,none⟩) ra (mkS l u):=fun w' h1 h2=>by
 have hL:=h.move h1 h2;have hF:FR w' lo (.slice ra u.length rc) u:=own_at5 hf (fun q hq=>h2 q (World.ownsRow.lt hf q hq).1 (World.ownsRow.lt hf q hq).2);obtain⟨a,c',e,s,_,_⟩:=hF.fs;injection e with e1 e2 e3;subst e1;exact⟨hL.lcap rfl,s.rseg⟩
structure CS (w wr:World)(t1 t2:Nat)(va0 va1:Value)(gD cD:Nat)(DL:List Lf)(DP DQ:Nat ->Nat)(vr1:Value)(DU:List Rn)(gN cN:Nat)(NL:List Lf)(NP NQ:Nat ->Nat)(vr2:Value)(NU:List Rn):Prop where
 low:Below w.heap.size w wr
 a:Bx2 wr w.heap.size va0 va1
 r1:Bx2 wr (w.heap.size+1) (.slice none 0 0) (.slice none 0 0)
 r2:Bx2 wr (w.heap.size+1+1) (.slice none 0 0) (.slice none 0 0)
 d:Bx2 wr t1 (.slice (some ⟨gD,0,none⟩) DL.length cD) vr1
 n:Bx2 wr t2 (.slice (some ⟨gN,0,none⟩) NL.length cN) vr2
 ld:LC wr (w.heap.size+3) (.slice (some ⟨gD,0,none⟩) DL.length cD) DL DP DQ
 ln:LC wr (w.heap.size+3) (.slice (some ⟨gN,0,none⟩) NL.length cN) NL NP NQ
 fd:FR wr (w.heap.size+3) vr1 DU
 fn:FR wr (w.heap.size+3) vr2 NU
 h1:w.heap.size+3<=t1
 h2:w.heap.size+3<=t2
 h12:t1≠t2
 sd:gD≠t1/\ gD≠t2/\ gD≠gN
 sn:gN≠t1/\ gN≠t2
 s1:∀b,vr1.ownBlock=some b ->b≠t1/\ b≠t2/\ b≠gN
 s2:∀b,vr2.ownBlock=some b ->b≠t1/\ b≠t2/\ b≠gN
 pd:∀i,i<DL.length ->DP i≠t1/\ DP i≠t2
 pn:∀i,i<NL.length ->NP i≠t1/\ NP i≠t2
section
variable {w wr w1 : World} {t1 t2 : Nat} {va0 va1 : Value} {gD cD : Nat} {DL : List Lf} {DP DQ : Nat -> Nat} {vr1 : Value} {DU : List Rn} {gN cN : Nat} {NL : List Lf} {NP NQ : Nat -> Nat} {vr2 : Value} {NU : List Rn}
theorem CS.below (h:CS w wr t1 t2 va0 va1 gD cD DL DP DQ vr1 DU gN cN NL NP NQ vr2 NU)(hb:Below wr.heap.size wr w1):CS w w1 t1 t2 va0 va1 gD cD DL DP DQ vr1 DU gN cN NL NP NQ vr2 NU:=
 ⟨h.low.trans (hb.mono h.low.size),h.a.below hb h.a.lt,h.r1.below hb h.r1.lt,h.r2.below hb h.r2.lt,h.d.below hb h.d.lt,h.n.below hb h.n.lt,h.ld.below hb,h.ln.below hb,h.fd.below hb,h.fn.below hb,h.h1,h.h2,h.h12,h.sd,h.sn,h.s1,h.s2,h.pd,h.pn⟩
theorem ob_some {a b:Nat}{n c:Nat}(h:a≠b):(Value.slice (some ⟨a,0,none⟩) n c).ownBlock≠some b:=fun e=>h (by simpa [Value.ownBlock] using e)
theorem CS.setD1 {v:Value}{U:List Rn}(h:CS w wr t1 t2 va0 va1 gD cD DL DP DQ vr1 DU gN cN NL NP NQ vr2 NU)(hb:Below wr.heap.size wr w1)(hf:FR w1 wr.heap.size v U):CS w (w1.setCell ⟨t1,1,none⟩ v) t1 t2 va0 va1 gD cD DL DP DQ v U gN cN NL NP NQ vr2 NU:=by
 have k:=h.below hb;have l1:=h.d.lt;have l2:=h.n.lt;have l3:=(h.ln.row.lt gN rfl).2;have l4:=h.h1;have nv:∀b,v.ownBlock=some b ->wr.heap.size<=b:=fun b e=>(World.ownsRow.lt hf b e).1;refine⟨k.low.setCell (by show w.heap.size<=t1;omega) _,k.a.setAt _ _ (by show t1≠w.heap.size;omega),k.r1.setAt _ _ (by show t1≠w.heap.size+1;omega),k.r2.setAt _ _ (by show t1≠w.heap.size+1+1;omega),k.d.set1 _,k.n.setAt _ _ h.h12,k.ld.set _ _ (ob_some h.sd.1) (fun i hi=>(h.pd i hi).1),k.ln.set _ _ (ob_some h.sn.1) (fun i hi=>(h.pn i hi).1),(hf.weak (by omega)).setFar _ _ (fun e=>by have:=nv _ e;have:wr.heap.size<=t1:=this;omega),k.fn.setFar _ _ (fun e=>(h.s2 _ e).1 rfl),h.h1,h.h2,h.h12,h.sd,h.sn,fun b e=> ?_,h.s2,h.pd,h.pn⟩;have:=nv b e;exact⟨by omega,by omega,by omega⟩
theorem CS.setN1 {v:Value}{U:List Rn}(h:CS w wr t1 t2 va0 va1 gD cD DL DP DQ vr1 DU gN cN NL NP NQ vr2 NU)(hb:Below wr.heap.size wr w1)(hf:FR w1 wr.heap.size v U):CS w (w1.setCell ⟨t2,1,none⟩ v) t1 t2 va0 va1 gD cD DL DP DQ vr1 DU gN cN NL NP NQ v U:=by
 have k:=h.below hb;have l1:=h.d.lt;have l2:=h.n.lt;have l3:=(h.ln.row.lt gN rfl).2;have l4:=h.h2;have nv:∀b,v.ownBlock=some b ->wr.heap.size<=b:=fun b e=>(World.ownsRow.lt hf b e).1;refine⟨k.low.setCell (by show w.heap.size<=t2;omega) _,k.a.setAt _ _ (by show t2≠w.heap.size;omega),k.r1.setAt _ _ (by show t2≠w.heap.size+1;omega),k.r2.setAt _ _ (by show t2≠w.heap.size+1+1;omega),k.d.setAt _ _ (Ne.symm h.h12),k.n.set1 _,k.ld.set _ _ (ob_some h.sd.2.1) (fun i hi=>(h.pd i hi).2),k.ln.set _ _ (ob_some h.sn.2) (fun i hi=>(h.pn i hi).2),k.fd.setFar _ _ (fun e=>(h.s1 _ e).2.1 rfl),(hf.weak (by omega)).setFar _ _ (fun e=>by have:=nv _ e;have:wr.heap.size<=t2:=this;omega),h.h1,h.h2,h.h12,h.sd,h.sn,h.s1,fun b e=> ?_,h.pd,h.pn⟩;have:=nv b e;exact⟨by omega,by omega,by omega⟩
theorem lc_box {g n c:Nat}{l:List Lf}{P Q:Nat ->Nat}{lo t:Nat}{n0 c0:Nat}{a0:Option Addr}{u:Value}(h:LC w lo (.slice (some ⟨g,0,none⟩) n c) l P Q)(hp:∀i,i<l.length ->1<=(gL l i).p.length)(hb:Bx2 w t (.slice a0 n0 c0) u):∀i,i<l.length ->P i≠t:=fun i hi e=>by
 have hw:=(h.pt i hi).2.2.2.1.cell (i:=0) (by have:=hp i hi;omega);rw [e,hb.c0] at hw;cases hw
theorem CS.setD0 {g2 c2 n2:Nat}{l2:List Lf}{P2 Q2:Nat ->Nat}(h:CS w wr t1 t2 va0 va1 gD cD DL DP DQ vr1 DU gN cN NL NP NQ vr2 NU)(hb:Below wr.heap.size wr w1)(hl:LC w1 (w.heap.size+3) (.slice (some ⟨g2,0,none⟩) n2 c2) l2 P2 Q2)(hn:n2=l2.length)(hg:wr.heap.size<=g2)(hp:∀i,i<l2.length ->1<=(gL l2 i).p.length):CS w (w1.setCell ⟨t1,0,none⟩ (.slice (some ⟨g2,0,none⟩) n2 c2)) t1 t2 va0 va1 g2 c2 l2 P2 Q2 vr1 DU gN cN NL NP NQ vr2 NU:=by
 subst hn;have k:=h.below hb;have l1:=h.d.lt;have l3:=h.n.lt;have l5:=(h.ln.row.lt gN rfl).2;have l4:=h.h1;have q1:=lc_box hl hp k.d;have q2:=lc_box hl hp k.n;exact⟨k.low.setCell (by show w.heap.size<=t1;omega) _,k.a.setAt _ _ (by show t1≠w.heap.size;omega),k.r1.setAt _ _ (by show t1≠w.heap.size+1;omega),k.r2.setAt _ _ (by show t1≠w.heap.size+1+1;omega),k.d.set0 _,k.n.setAt _ _ h.h12,hl.set _ _ (ob_some (show g2≠t1 by omega)) q1,k.ln.set _ _ (ob_some h.sn.1) (fun i hi=>(h.pn i hi).1),k.fd.setFar _ _ (fun e=>(h.s1 _ e).1 rfl),k.fn.setFar _ _ (fun e=>(h.s2 _ e).1 rfl),h.h1,h.h2,h.h12,⟨by omega,by omega,by omega⟩,h.sn,h.s1,h.s2,fun i hi=>⟨q1 i hi,q2 i hi⟩,h.pn⟩
theorem CS.setN0 {g2 c2 n2:Nat}{l2:List Lf}{P2 Q2:Nat ->Nat}(h:CS w wr t1 t2 va0 va1 gD cD DL DP DQ vr1 DU gN cN NL NP NQ vr2 NU)(hb:Below wr.heap.size wr w1)(hl:LC w1 (w.heap.size+3) (.slice (some ⟨g2,0,none⟩) n2 c2) l2 P2 Q2)(hn:n2=l2.length)(hg:wr.heap.size<=g2)(hp:∀i,i<l2.length ->1<=(gL l2 i).p.length):CS w (w1.setCell ⟨t2,0,none⟩ (.slice (some ⟨g2,0,none⟩) n2 c2)) t1 t2 va0 va1 gD cD DL DP DQ vr1 DU g2 c2 l2 P2 Q2 vr2 NU:=by
 subst hn;have k:=h.below hb;have l1:=h.d.lt;have l3:=h.n.lt;have l5:=(h.ld.row.lt gD rfl).2;have l4:=h.h2;have q1:=lc_box hl hp k.d;have q2:=lc_box hl hp k.n;refine⟨k.low.setCell (by show w.heap.size<=t2;omega) _,k.a.setAt _ _ (by show t2≠w.heap.size;omega),k.r1.setAt _ _ (by show t2≠w.heap.size+1;omega),k.r2.setAt _ _ (by show t2≠w.heap.size+1+1;omega),k.d.setAt _ _ (Ne.symm h.h12),k.n.set0 _,k.ld.set _ _ (ob_some h.sd.2.1) (fun i hi=>(h.pd i hi).2),hl.set _ _ (ob_some (show g2≠t2 by omega)) q2,k.fd.setFar _ _ (fun e=>(h.s1 _ e).2.1 rfl),k.fn.setFar _ _ (fun e=>(h.s2 _ e).2.1 rfl),h.h1,h.h2,h.h12,⟨h.sd.1,h.sd.2.1,by omega⟩,⟨by omega,by omega⟩,fun b e=> ?_,fun b e=> ?_,h.pd,fun i hi=>⟨q1 i hi,q2 i hi⟩⟩
 ·have:=(World.ownsRow.lt h.fd b e).2;exact⟨(h.s1 b e).1,(h.s1 b e).2.1,by omega⟩
 ·have:=(World.ownsRow.lt h.fn b e).2;exact⟨(h.s2 b e).1,(h.s2 b e).2.1,by omega⟩
theorem CS.appN {y:Lf}{p pc:Nat}(h:CS w wr t1 t2 va0 va1 gD cD [] DP DQ vr1 DU gN cN NL NP NQ vr2 NU)(hb:Below wr.heap.size wr w1)(hk:NL.length<=1048576)(hy:1<=y.p.length)(hp:∀i,i<NL.length ->1<=(gL NL i).p.length)(hp1:wr.heap.size<=p)(hp2:p<w1.heap.size)(hw:Wr w1 p 9 y.p.length (fun t=> .string (gS y.p t)))(hpc:y.p.length<=pc/\ pc<=9223372036854775807):
  ∃q' cap' w3,(Builtin.append_ #[23,23] 23 #[.slice (some ⟨gN,0,none⟩) NL.length cN,.slice (some ⟨w1.heap.size,0,none⟩) 1 1]).run Tryz.prog (w1.alloc (.cells #[.slice (some ⟨p,0,none⟩) y.p.length pc,.bool y.fl,.int .i64 y.r,.int .i64 y.q,.string y.v] 65))=.ok (.slice (some ⟨q',0,none⟩) (NL.length+1) cap') w3/\ Below w.heap.size w w3/\ Bx2 w3 w.heap.size va0 va1/\ Bx2 w3 t2 (.slice (some ⟨gN,0,none⟩) NL.length cN) vr2/\
   ∃P' Q',CS w (w3.setCell ⟨t2,0,none⟩ (.slice (some ⟨q',0,none⟩) (NL.length+1) cap')) t1 t2 va0 va1 gD cD [] DP DQ vr1 DU q' cap' (NL++[y]) P' Q' vr2 NU:=by
 have k:=h.below hb;have hz:=h.low.size;have hz1:=hb.size;have l1:=h.d.lt;have l2:=h.n.lt;have l3:=h.a.lt;have l4:=h.r1.lt;have l5:=h.r2.lt;have l6:=h.ln.row.lt gN rfl;have l7:=h.ld.row.lt gD rfl;have h1:=h.h1;have h2:=h.h2;obtain⟨q',cap',w3,happ,lc3,g3⟩:=h.ln.app hb (by omega) hk y p pc (by omega) hp2 (fun e=>by simp [Value.ownBlock] at e;omega) hw hpc;have hq:q'=gN \/w1.heap.size<=q':=by
  rcases g3.l with e|⟨b,e,hb'⟩
  ·exact .inl (by simpa [Value.ownBlock] using e)
  ·have e3:q'=b:=by simpa [Value.ownBlock] using e
   exact .inr (by omega)
 have hq3:=(lc3.row.lt q' rfl).2;have row:∀b,(Value.slice (some ⟨gN,0,none⟩) NL.length cN).ownBlock=some b ->b=gN:=fun b e=>by
  have:gN=b:=by simpa [Value.ownBlock] using e
  exact this.symm
 have bx:∀{b:Nat} {u0 u1:Value},Bx2 w1 b u0 u1 ->b≠gN ->Bx2 w3 b u0 u1:=fun hB hne=>hB.gr g3.g (fun b e=>by rw [row b e];exact fun e2=>hne e2.symm);have A3:=bx k.a (by omega);have R13:=bx k.r1 (by omega);have R23:=bx k.r2 (by omega);have D3:=bx k.d (fun e=>h.sn.1 e.symm);have N3:=bx k.n (fun e=>h.sn.2 e.symm);have FD3:FR w3 (w.heap.size+3) vr1 DU:=k.fd.gr g3.g (fun b e e2=>(h.s1 b e).2.2 (row b e2.symm));have FN3:FR w3 (w.heap.size+3) vr2 NU:=k.fn.gr g3.g (fun b e e2=>(h.s2 b e).2.2 (row b e2.symm));have LD3:LC w3 (w.heap.size+3) (.slice (some ⟨gD,0,none⟩) ([]:List Lf).length cD) [] DP DQ:=⟨own_at5 k.ld.row (fun b e=>by
  have e:gD=b:=by simpa [Value.ownBlock] using e
  subst e;exact g3.g.block gD (by omega) (fun e2=>h.sd.2.2 (row gD e2.symm))),fun i hi=>by simp at hi⟩
 have low3:Below w.heap.size w w3:=k.low.grown g3.g k.low.size (fun b e=>by rw [row b e];omega);have hpy:∀i,i<(NL++[y]).length ->1<=(gL (NL++[y]) i).p.length:=fun i hi=>by
  by_cases e:i=NL.length
  ·rw [e,gL_end];exact hy
  ·have hi':i<NL.length:=by simp at hi;omega
   rw [gL_pre NL y hi'];exact hp i hi'
 have q1:=lc_box lc3 hpy D3;have q2:=lc_box lc3 hpy N3;have hqt:q'≠t1/\ q'≠t2/\ gD≠q':=by
  rcases hq with e|e
  ·rw [e];exact⟨h.sn.1,h.sn.2,h.sd.2.2⟩
  ·exact⟨by omega,by omega,by omega⟩
 have hln:NL.length+1=(NL++[y]).length:=by simp
 refine⟨q',cap',w3,happ,low3,A3,N3,(fun i=>if i=NL.length then p else NP i),(fun i=>if i=NL.length then pc else NQ i),?_⟩;rw [hln] at lc3 ⊢;refine⟨low3.setCell (by show w.heap.size<=t2;omega) _,A3.setAt _ _ (by show t2≠w.heap.size;omega),R13.setAt _ _ (by show t2≠w.heap.size+1;omega),R23.setAt _ _ (by show t2≠w.heap.size+1+1;omega),D3.setAt _ _ (Ne.symm h.h12),N3.set0 _,LD3.set _ _ (ob_some h.sd.2.1) (fun i hi=>by simp at hi),lc3.set _ _ (ob_some hqt.2.1) q2,FD3.setFar _ _ (fun e=>(h.s1 _ e).2.1 rfl),FN3.setFar _ _ (fun e=>(h.s2 _ e).2.1 rfl),h.h1,h.h2,h.h12,⟨h.sd.1,h.sd.2.1,hqt.2.2⟩,⟨hqt.1,hqt.2.1⟩,fun b e=>⟨(h.s1 b e).1,(h.s1 b e).2.1,?_⟩,fun b e=>⟨(h.s2 b e).1,(h.s2 b e).2.1,?_⟩,fun i hi=>by simp at hi,fun i hi=>⟨q1 i hi,q2 i hi⟩⟩
 ·have:=(World.ownsRow.lt h.fd b e).2;rcases hq with e2|e2
  ·rw [e2];exact(h.s1 b e).2.2
  ·omega
 ·have:=(World.ownsRow.lt h.fn b e).2;rcases hq with e2|e2
  ·rw [e2];exact(h.s2 b e).2.2
  ·omega
end
def Ow (w:World)(lo:Nat)(l:List Lf)(P Q:Nat ->Nat):Prop:=∀i,i<l.length ->w.ownsRow lo 9 1 (.slice (some ⟨P i,0,none⟩) (gL l i).p.length (Q i)) (gL l i).p.length (sRow (gL l i).p)
structure CpS (w wr:World)(va vx:Value)(g c:Nat)(l:List Lf)(P Q:Nat ->Nat):Prop where
 low:Below w.heap.size w wr
 ab:Bx2 wr w.heap.size va vx
 rb:Bx2 wr (w.heap.size+1) (.slice none 0 0) (.slice none 0 0)
 ob:Bx2 wr (w.heap.size+1+1+1+1) (.slice (some ⟨g,0,none⟩) l.length c) (.slice (some ⟨w.heap.size+1+1+1,0,none⟩) 0 0)
 lc:LC wr (w.heap.size+1+1) (.slice (some ⟨g,0,none⟩) l.length c) l P Q
 q1:g=w.heap.size+1+1 \/w.heap.size+5<=g
 rn:wr.ownsRow (w.heap.size+1+1+1) 87 3 (.slice (some ⟨w.heap.size+1+1+1,0,none⟩) 0 0) 0 []
 pt:∀i,i<l.length ->w.heap.size+5<=P i
 ow:Ow wr (w.heap.size+1+1) l P Q
 sep:Sep P l.length
theorem CpS.below {w wr w':World}{va vx:Value}{g c:Nat}{l:List Lf}{P Q:Nat ->Nat}(h:CpS w wr va vx g c l P Q)(hb:Below wr.heap.size wr w'):CpS w w' va vx g c l P Q:=
 ⟨keepS h.low hb,h.ab.below hb h.ab.lt,h.rb.below hb h.rb.lt,h.ob.below hb h.ob.lt,h.lc.below hb,h.q1,own_at5 h.rn fun g hg=>hb.block g (h.rn.lt g hg).2,h.pt,fun i hi=>own_at5 (h.ow i hi) fun g hg=>hb.block g ((h.ow i hi).lt g hg).2,h.sep⟩
theorem Bx2.grw {w w':World}{b g:Nat}{u0 u1:Value}(h:Bx2 w b u0 u1)(hg:w.grownBy w' (some g))(hne:b≠g):Bx2 w' b u0 u1:=h.gr hg (fun k e=>by injection e with e;omega)
theorem CpS.step {w wr w1:World}{va vx:Value}{g c:Nat}{l:List Lf}{P Q:Nat ->Nat}(h:CpS w wr va vx g c l P Q)(hb:Below wr.heap.size wr w1)(hk:l.length<=1048576)(y:Lf)(p pc:Nat)(hp1:wr.heap.size<=p)(hp2:p<w1.heap.size)(hw:Wr w1 p 9 y.p.length (fun t=> .string (gS y.p t)))(hpc:y.p.length<=pc/\ pc<=9223372036854775807)(ho:w1.ownsRow wr.heap.size 9 1 (.slice (some ⟨p,0,none⟩) y.p.length pc) y.p.length (sRow y.p)):
  ∃q' cap' w3,(Builtin.append_ #[23,23] 23 #[.slice (some ⟨g,0,none⟩) l.length c,.slice (some ⟨w1.heap.size,0,none⟩) 1 1]).run Tryz.prog (w1.alloc (.cells #[.slice (some ⟨p,0,none⟩) y.p.length pc,.bool y.fl,.int .i64 y.r,.int .i64 y.q,.string y.v] 65))=.ok (.slice (some ⟨q',0,none⟩) (l.length+1) cap') w3/\
   Below w.heap.size w w3/\ Bx2 w3 w.heap.size va vx/\ Bx2 w3 (w.heap.size+1+1+1+1) (.slice (some ⟨g,0,none⟩) l.length c) (.slice (some ⟨w.heap.size+1+1+1,0,none⟩) 0 0)/\
   ∃q cap P Q,CpS w (w3.setCell ⟨w.heap.size+1+1+1+1,0,none⟩ (.slice (some ⟨q',0,none⟩) (l.length+1) cap')) va vx q cap (l++[y]) P Q:=by
 have hob:=h.ob.lt;have h1:=h.below hb;obtain⟨q',cap',w3,hr,lc3,gr⟩:=h.lc.app hb (by omega) hk y p pc (by omega) hp2 (fun e=>by have:=(h.lc.lt p e.symm).2;omega) hw hpc;have gg:w1.grownBy w3 (some g):=gr.g;have hq1:=h.q1;have hgl:=(h.lc.lt g rfl).2;have hz1:=hb.size;have hz3:=gg.size;have hq:q'=g \/w1.heap.size<=q':=by
  rcases gr.l with e|⟨q,e,hq⟩
  ·exact .inl (by simpa [Value.ownBlock] using e)
  ·have e:q'=q:=by simpa [Value.ownBlock] using e
   exact .inr (by omega)
 have hblk:∀b,b<w1.heap.size ->b≠g ->w3.heap[b]? =w1.heap[b]? :=fun b h1 h2=>gg.block b h1 (fun e=>h2 (by injection e));have A3:=h1.ab.grw gg (by omega);have R3:=h1.rb.grw gg (by omega);have O3:=h1.ob.grw gg (by omega);have low3:Below w.heap.size w w3:=h1.low.grown gg h1.low.size (fun k e=>by injection e with e;omega);have hP:∀i,i<(l++[y]).length ->w.heap.size+5<=(if i=l.length then p else P i)/\ (if i=l.length then p else P i)<w3.heap.size:=fun i hi=>by
  by_cases e:i=l.length
  ·rw [if_pos e];exact⟨by omega,by omega⟩
  ·rw [if_neg e];have hi':i<l.length:=by simp at hi;omega
   have:=(h.lc.pt i hi').2.1;exact⟨h.pt i hi',by omega⟩
 have hset:∀b,b≠w.heap.size+1+1+1+1 ->(w3.setCell ⟨w.heap.size+1+1+1+1,0,none⟩ (.slice (some ⟨q',0,none⟩) (l.length+1) cap')).heap[b]? =w3.heap[b]? :=fun b hb2=>Below.heap_setCell _ _ _ _ (by simpa using hb2);have hl1:(l++[y]).length=l.length+1:=by simp
 refine⟨q',cap',w3,hr,low3,A3,O3,q',cap',(fun i=>if i=l.length then p else P i),(fun i=>if i=l.length then pc else Q i),low3.setCell (by simp;omega) _,A3.setAt _ _ (by simp;omega),R3.setAt _ _ (by simp;omega),?_,?_,by omega,?_,fun i hi=>(hP i hi).1,fun i hi=> ?_,?_⟩
 ·rw [hl1];exact O3.set0 _
 ·rw [hl1];exact lc3.set _ _ (fun e=>by have e:=own_eq e;simp only at e;omega) (fun i hi=>by have:=(hP i hi).1;simp only;omega)
 ·refine own_at5 h1.rn (fun b hb2=> ?_);have e:w.heap.size+1+1+1=b:=by simpa [Value.ownBlock] using hb2
  exact(hset b (by omega)).trans (hblk b (by omega) (by omega))
 ·by_cases e:i=l.length
  ·subst e;simp only [if_pos];rw [gL_end];refine own_weak5 (own_at5 ho (fun b hb2=> ?_)) (by omega);have e:p=b:=by simpa [Value.ownBlock] using hb2
   exact(hset b (by omega)).trans (hblk b (by omega) (by omega))
  ·have hi':i<l.length:=by simp at hi;omega
   simp only [if_neg e];rw [gL_pre l y hi'];refine own_at5 (h1.ow i hi') (fun b hb2=> ?_);have e:P i=b:=by simpa [Value.ownBlock] using hb2
   obtain⟨_,a2,a3,_⟩:=h.lc.pt i hi';have:=h.pt i hi';exact(hset b (by omega)).trans (hblk b (by omega) (fun e2=>a3 (by simp [Value.ownBlock];omega)))
 ·rw [hl1];exact h.sep.app (fun i hi=>by have:=(h.lc.pt i hi).2.1;omega)
theorem appRuns {wr:World}{B q n d:Nat}{x:Option Addr}{R F T:Nat ->Int}(ho:wr.ownsRow B 87 3 (.slice (some ⟨q,0,none⟩) 0 0) 0 [])(hB:B<=wr.heap.size)(hn:n<=1048576)(h:RSeg wr x n R F T):
  ∃gx cx w5,(Builtin.append_ #[24,24] 24 #[.slice (some ⟨q,0,none⟩) 0 0,.slice x n d]).run Tryz.prog wr=.ok (.slice (some ⟨gx,0,none⟩) n cx) w5/\ FR w5 B (.slice (some ⟨gx,0,none⟩) n cx) (flat R F T n)/\ wr.grownBy w5 (some q)/\ (gx=q \/gx=wr.heap.size)/\ (0<n ->gx=wr.heap.size):=by
 obtain⟨i0,hi0,hz0,hz1,hz2⟩:=info_parts Tryz.infoRun;have fl:(flat R F T n).length=n:=flatR_len _ _ _ _;rcases x with _|b
 ·obtain rfl:n=0:=by
   rcases h with h|⟨_,_,e,_⟩
   ·exact h
   ·cases e
  refine⟨q,0,wr,run_app_nil wr _ _ _ i0 Tryz.underlying24 hi0 _ 0 0 d (Nat.le_refl _),?_,⟨rfl,rfl,rfl,Nat.le_refl _,fun _ _ _=>rfl⟩,.inl rfl,fun h=>by omega⟩;simpa [FR,flat,fCells] using ho
 ·have hnw:∀j u,(fCells (flat R F T n))[j]? =some u ->wr.cell? (b.add j)=some u:=by
   rcases h with rfl|⟨g,o,e,hg,hc⟩
   ·intro j u hj;simp [flat,fCells] at hj
   ·injection e with e;subst e;exact rseg_cells (.inr ⟨g,o,rfl,hg,hc⟩)
  have h1:∀u∈fCells (flat R F T n),u.oneCell'=true:=fun u hu=>by
   obtain⟨j,hj⟩:=List.getElem?_of_mem hu;rcases (fCells_at _ j u hj).2 with ⟨_,e⟩|⟨_,e⟩|⟨_,e⟩<;>rw [e]<;>rfl
  have hl:(fCells (flat R F T n)).length=n*3:=by rw [fCells_len,fl]
  obtain⟨v',w5,hr,g2,g3,g4,g5⟩:=run_append_own_at (P:=Tryz.prog) wr B 24 24 87 i0 _ 3 24 Tryz.underlying24 hi0 hz0 hz1 hz2 rfl (by decide) (.slice (some ⟨q,0,none⟩) 0 0) 0 [] ho b n d _ hl hnw h1 (by unfold maxLen;omega) (by omega) hB;rcases g2.2 with ⟨hv,_⟩|⟨gx,cx,cur,hv,r⟩
  ·have:=g4.1 hv;exact absurd this.1 (by simp)
  rw [hv] at hr g2 g5;rw [Nat.zero_add] at hr g2;refine⟨gx,cx,w5,hr,?_,g3,?_,fun h0=> ?_⟩
  ·show w5.ownsRow B 87 3 _ (flat R F T n).length (fCells (flat R F T n));rw [fl];simpa using g2
  ·rcases g5 with g5|g5
   ·exact .inl (by simpa [Value.ownBlock] using g5)
   ·exact .inr (by simpa [Value.ownBlock] using g5)
  ·have hold:(Builtin.firstCells i0.size 0 (.slice (some ⟨q,0,none⟩) 0 0)).run Tryz.prog wr.drew=.ok #[] wr.drew:=run_firstCells_some (P:=Tryz.prog) wr.drew i0.size 0 ⟨q,0,none⟩ 0 0 [] (by simp) (fun j u hu=>by simp at hu);have hsrc:Src Tryz.prog i0.size 24 (.slice (some b) n d) n (fCells (flat R F T n)) wr:=Src.ofSlice wr Tryz.underlying24 b n d _ (by rw [hl,hz1]) hnw h1;have hr2:=run_append_grow_src (P:=Tryz.prog) (w:=wr) 24 24 24 87 i0 _ Tryz.underlying24 hi0 hz0 (some ⟨q,0,none⟩) 0 0 [] hold (.slice (some b) n d) n _ hsrc (by omega) (by omega) (growslice_fits (by omega) (by rw [hz2];omega));rw [hr] at hr2;injection hr2 with e1 e2;injection e1 with e1 _ _;injection e1 with e1;injection e1
theorem CpS.start (w:World)(va vx:Value):
  CpS w (((((w.alloc (.cells #[va,vx] 28)).alloc (.cells #[.slice none 0 0,.slice none 0 0] 28)).alloc (.cells #[] 65)).alloc (.cells #[] 87)).alloc (.cells #[.slice (some ⟨w.heap.size+1+1,0,none⟩) 0 0,.slice (some ⟨w.heap.size+1+1+1,0,none⟩) 0 0] 28)) va vx (w.heap.size+1+1) 0 [] (fun _=>0) (fun _=>0):=by
 obtain⟨w1,h1⟩:∃w1,w.alloc (.cells #[va,vx] 28)=w1:=⟨_,rfl⟩;have z1:w1.heap.size=w.heap.size+1:=by rw [<- h1];simp
 have A1:Bx2 w1 w.heap.size va vx:=by rw [<- h1];exact Bx2.made _ _ _ _
 have l1:Below w.heap.size w w1:=by rw [<- h1];exact(Below.refl _ _).alloc (Nat.le_refl _) _
 rw [h1];obtain⟨w2,h2⟩:∃w2,w1.alloc (.cells #[.slice none 0 0,.slice none 0 0] 28)=w2:=⟨_,rfl⟩;have z2:w2.heap.size=w.heap.size+1+1:=by rw [<- h2];simp [z1]
 have A2:Bx2 w2 w.heap.size va vx:=by rw [<- h2];exact A1.allocs _
 have R2:Bx2 w2 (w.heap.size+1) (.slice none 0 0) (.slice none 0 0):=by rw [<- h2,<- z1];exact Bx2.made _ _ _ _
 have l2:Below w.heap.size w w2:=by rw [<- h2];exact l1.alloc (by omega) _
 rw [h2];obtain⟨w3,h3⟩:∃w3,w2.alloc (.cells #[] 65)=w3:=⟨_,rfl⟩;have z3:w3.heap.size=w.heap.size+1+1+1:=by rw [<- h3];simp [z2]
 have b3:Below w2.heap.size w2 w3:=by rw [<- h3];exact(Below.refl _ _).alloc (Nat.le_refl _) _
 have O3:LC w3 (w.heap.size+1+1) (.slice (some ⟨w.heap.size+1+1,0,none⟩) 0 0) [] (fun _=>0) (fun _=>0):=by
  refine⟨?_,fun i hi=>by simp at hi⟩;rw [<- h3,<- z2];have:=World.ownsRow_lit (base:=w2.heap.size) (e:=65) (size:=5) w2 #[] 0 (Nat.le_refl _) (by unfold maxLen;omega) rfl;simpa using this
 rw [h3];obtain⟨w4,h4⟩:∃w4,w3.alloc (.cells #[] 87)=w4:=⟨_,rfl⟩;have z4:w4.heap.size=w.heap.size+1+1+1+1:=by rw [<- h4];simp [z3]
 have b4:Below w3.heap.size w3 w4:=by rw [<- h4];exact(Below.refl _ _).alloc (Nat.le_refl _) _
 have N4:w4.ownsRow (w.heap.size+1+1+1) 87 3 (.slice (some ⟨w.heap.size+1+1+1,0,none⟩) 0 0) 0 []:=by
  rw [<- h4,<- z3];have:=World.ownsRow_lit (base:=w3.heap.size) (e:=87) (size:=3) w3 #[] 0 (Nat.le_refl _) (by unfold maxLen;omega) rfl;simpa using this
 rw [h4];have b5:∀o,Below w4.heap.size w4 (w4.alloc o):=fun o=>(Below.refl _ _).alloc (Nat.le_refl _) o;have b35:=fun o=>keepS b4 (b5 o);have b25:=fun o=>keepS b3 (b35 o);refine⟨keepS l2 (b25 _),A2.below (b25 _) A2.lt,R2.below (b25 _) R2.lt,?_,O3.below (b35 _),.inl rfl,own_at5 N4 fun g hg=>(b5 _).block g (N4.lt g hg).2,fun i hi=>by simp at hi,fun i hi=>by simp at hi,fun i j hi=>by simp at hi⟩;rw [<- z4];exact Bx2.made _ _ _ _
structure Cpd (w w':World)(S:Sx)(g c gx cx:Nat)(P Q:Nat ->Nat):Prop where
 lc:LC w' w.heap.size (.slice (some ⟨g,0,none⟩) S.l.length c) S.l P Q
 ow:Ow w' w.heap.size S.l P Q
 sep:Sep P S.l.length
 fr:FR w' w.heap.size (.slice (some ⟨gx,0,none⟩) S.n cx) (fS S)
 gn:g≠gx
 pn:∀i,i<S.l.length ->P i≠gx
 up:0<S.n ->g<gx/\∀i,i<S.l.length ->P i<gx
 low:Below w.heap.size w w'
theorem l3CopyO (a x:Option Addr)(c d:Nat)(S:Sx)(w:World)(hm:S.Sm)(hpl:∀i,i<S.l.length ->1<=(gL S.l i).p.length)(h:SCt w a x S):
  Calls Tryz.prog 53 #[.agg #[.slice a S.l.length c,.slice x S.n d]] w fun e w'=>∃g cg gx cx P Q,e=.returned (.agg #[.slice (some ⟨g,0,none⟩) S.l.length cg,.slice (some ⟨gx,0,none⟩) S.n cx])/\ Cpd w w' S g cg gx cx P Q:=by
 have HA:=hid h.lf;have HRN:=hid h.rn;have hlen:=hm.l1;have hn1:=hm.n1;have HP1:=hid hm.p1;have HPL:=hid hpl;have HS0:=hid (CpS.start w (.slice a S.l.length c) (.slice x S.n d));clear h hpl;go_enter Tryz.func53,Tryz.ntmps53;go_wp2_with fail;go_loopw [4] (fun i wr=>∃(j:Nat),j<=S.l.length/\ i=.int .i64 (j:Int)/\ Hid (∃q cap P Q,CpS w wr (.slice a S.l.length c) (.slice x S.n d) q cap (S.l.take j) P Q)) (fun i _=>S.l.length - (intOf i).toNat);case atStart=>exact⟨0,Nat.zero_le _,rfl,hid ⟨_,_,_,_,HS0.out⟩⟩
 case round=>
  clear HS0;obtain⟨j,hj,rfl,HI⟩:=hrel;obtain⟨q,cap,P,Q,hL⟩:=HI.out;have htl:(S.l.take j).length=j:=by simp;omega
  have HTL:=hid htl;have HL:=hid hL;have a0:=hL.ab.c0;have a1:=hL.ab.c1;have o0:=hL.ob.c0;have o1:=hL.ob.c1;rw [htl] at o0;clear hL HI htl;by_cases hlt:j<S.l.length
  ·have i1:(0:Int)<=(j:Int):=Int.natCast_nonneg _;have i2:(j:Int)<(S.l.length:Int):=by omega
   obtain⟨ab,ao,rfl,hab,hcs⟩:=(HA.out).resolve_left (by omega);obtain⟨pa1,pc,⟨c0,d0⟩,sg,c1,c2,c3,c4⟩:=hcs j hlt;have hyl:=HPL.out j hlt;obtain⟨pb,po,rfl,hpb,hpc⟩:=sg.resolve_left (by omega);have HTK:Hid (S.l.take j++[gL S.l j]=S.l.take (j+1)):=hid (by
    rw [List.take_add_one];congr 1;simp [gL,List.getD,hlt])
   have HST:Hid (∀w1 p qc,Below wr.heap.size wr w1 ->wr.heap.size<=p ->p<w1.heap.size ->Wr w1 p 9 (gL S.l j).p.length (fun t=> .string (gS (gL S.l j).p t)) ->((gL S.l j).p.length<=qc/\ qc<=9223372036854775807) ->w1.ownsRow wr.heap.size 9 1 (.slice (some ⟨p,0,none⟩) (gL S.l j).p.length qc) (gL S.l j).p.length (sRow (gL S.l j).p) ->∃q' cap' w3,(Builtin.append_ #[23,23] 23 #[.slice (some ⟨q,0,none⟩) j cap,.slice (some ⟨w1.heap.size,0,none⟩) 1 1]).run Tryz.prog (w1.alloc (.cells #[.slice (some ⟨p,0,none⟩) (gL S.l j).p.length qc,.bool (gL S.l j).fl,.int .i64 (gL S.l j).r,.int .i64 (gL S.l j).q,.string (gL S.l j).v] 65))=.ok (.slice (some ⟨q',0,none⟩) (j+1) cap') w3/\
    Below w.heap.size w w3/\ Bx2 w3 w.heap.size (.slice (some ⟨ab,ao,none⟩) S.l.length c) (.slice x S.n d)/\ Bx2 w3 (w.heap.size+1+1+1+1) (.slice (some ⟨q,0,none⟩) j cap) (.slice (some ⟨w.heap.size+1+1+1,0,none⟩) 0 0)/\
    ∃q cap P Q,CpS w (w3.setCell ⟨w.heap.size+1+1+1+1,0,none⟩ (.slice (some ⟨q',0,none⟩) (j+1) cap')) (.slice (some ⟨ab,ao,none⟩) S.l.length c) (.slice x S.n d) q cap (S.l.take (j+1)) P Q):=hid (fun w1 p qc hb h1 h2 h3 h4 h5=>by
    have:=HL.out.step hb (by rw [HTL.out];omega) (gL S.l j) p qc h1 h2 h3 h4 h5;rw [HTL.out,HTK.out] at this;exact this)
   have HLF:Hid (∀w1,Below wr.heap.size wr w1 ->Calls Tryz.prog 35 #[.agg #[.slice (some ⟨pb,po,none⟩) (gL S.l j).p.length pc,.bool (gL S.l j).fl,.int .i64 (gL S.l j).r,.int .i64 (gL S.l j).q,.string (gL S.l j).v]] w1 fun e w'=>∃q cap,e=.returned (.agg #[.slice (some ⟨q,0,none⟩) (gL S.l j).p.length cap,.bool (gL S.l j).fl,.int .i64 (gL S.l j).r,.int .i64 (gL S.l j).q,.string (gL S.l j).v])/\ Below w1.heap.size w1 w'/\ w1.heap.size<=q/\ q<w'.heap.size/\ Wr w' q 9 (gL S.l j).p.length (fun t=> .string (gS (gL S.l j).p t))/\ (gL S.l j).p.length<=cap/\ cap<=9223372036854775807/\ w'.ownsRow w1.heap.size 9 1 (.slice (some ⟨q,0,none⟩) (gL S.l j).p.length cap) (gL S.l j).p.length (sRow (gL S.l j).p)):=hid (fun w1 hb=>by
    have b2:=keepS HL.out.low hb;exact l3LeafK pb po (gL S.l j).p.length pc (gL S.l j) w1 rfl (HP1.out j) (Nat.lt_of_lt_of_le hpb b2.size) (fun t ht=>(b2.cell (p:=⟨pb,po+t,none⟩) hpb).trans (hpc t ht)))
   have HC:Hid (∀w',Below w.heap.size w w' ->w'.cell? ⟨ab,ao+j*5,none⟩=some (.slice (some ⟨pb,po,none⟩) (gL S.l j).p.length pc)/\ w'.cell? ⟨ab,ao+j*5+1,none⟩=some (.bool (gL S.l j).fl)/\ w'.cell? ⟨ab,ao+j*5+2,none⟩=some (.int .i64 (gL S.l j).r)/\ w'.cell? ⟨ab,ao+j*5+3,none⟩=some (.int .i64 (gL S.l j).q)/\ w'.cell? ⟨ab,ao+j*5+4,none⟩=some (.string (gL S.l j).v)):=hid (fun w' b=>⟨(b.cell (p:=⟨ab,_,none⟩) hab).trans c0,(b.cell (p:=⟨ab,_,none⟩) hab).trans c1,(b.cell (p:=⟨ab,_,none⟩) hab).trans c2,(b.cell (p:=⟨ab,_,none⟩) hab).trans c3,(b.cell (p:=⟨ab,_,none⟩) hab).trans c4⟩);obtain⟨c0,c1,c2,c3,c4⟩:=HC.out wr HL.out.low;obtain⟨y,hy⟩:∃y,gL S.l j=y:=⟨_,rfl⟩;rw [hy] at c0 c1 c2 c3 c4 HLF HST HC;obtain⟨yp,yf,yr,yq,yv⟩:=y;dsimp only at c0 c1 c2 c3 c4 HLF HST HC;obtain⟨np,hnp⟩:∃np,yp.length=np:=⟨_,rfl⟩;rw [hnp] at c0 HLF HST HC;clear hy hnp hcs sg hpc hpb hab d0 hyl HTK;go_wp2_with fail;have HCS:Hid (∀w',Below w.heap.size w w' ->w'.cell? ⟨w.heap.size,0,none⟩=some (.slice (some ⟨ab,ao,none⟩) S.l.length c) ->(Below w.heap.size w w'/\ w'.cell? ⟨w.heap.size,0,none⟩=some (.slice (some ⟨ab,ao,none⟩) S.l.length c)/\ w'.cell? ⟨ab,ao+j*5,none⟩=some (.slice (some ⟨pb,po,none⟩) np pc)/\ w'.cell? ⟨ab,ao+j*5+1,none⟩=some (.bool yf)/\ w'.cell? ⟨ab,ao+j*5+2,none⟩=some (.int .i64 yr)/\ w'.cell? ⟨ab,ao+j*5+3,none⟩=some (.int .i64 yq)/\ w'.cell? ⟨ab,ao+j*5+4,none⟩=some (.string yv))):=hid (fun w' hB h0=>⟨hB,h0,HC.out w' hB⟩);refine wp_region_held_drew (S:=fun w'=>Below w.heap.size w w'/\ w'.cell? ⟨w.heap.size,0,none⟩=some (.slice (some ⟨ab,ao,none⟩) S.l.length c)/\ w'.cell? ⟨ab,ao+j*5,none⟩=some (.slice (some ⟨pb,po,none⟩) np pc)/\ w'.cell? ⟨ab,ao+j*5+1,none⟩=some (.bool yf)/\ w'.cell? ⟨ab,ao+j*5+2,none⟩=some (.int .i64 yr)/\ w'.cell? ⟨ab,ao+j*5+3,none⟩=some (.int .i64 yq)/\ w'.cell? ⟨ab,ao+j*5+4,none⟩=some (.string yv)) (by kernel_rfl) (HCS.out _ HL.out.low.drew (HL.out.ab.below (Below.refl _ _).drew HL.out.ab.lt).c0) (fun hHeld=> ?_);clear c0 c1 c2 c3 c4;refine tZ 0 16 ?_;refine tZ 2 18 ?_;refine tZ 3 19 ?_;refine tZ 4 20 ?_;refine tZ 5 21 ?_;refine tZ 6 22 ?_;refine ready2t (i:=1) (j:=7) (d:=some 17) (d':=some 23) (by kernel_rfl) (by kernel_rfl) (by kernel_rfl) ?_ ?_
   ·
    intro o ho hod K hK;simp only [gZa,gZb,gZc,gZd] at ho;subst ho;go_simp;refine hK.out _ _ (HCS.out _ HL.out.low.drew (HL.out.ab.below (Below.refl _ _).drew HL.out.ab.lt).c0) (fun hHeld=> ?_);clear hK K;try simp only [Act.put,sZa,sZb,sZc]
    refine cZ 7 ?_;intro K hK;go_simp;refine(HLF.out _ (Below.refl _ _).drew).mono ?_;rintro e w1 ⟨p,qc,rfl,b1,p1,p2,hwr,q1,q2,how⟩;have b1':Below wr.heap.size wr w1:=⟨b1.os,b1.tape,b1.output,b1.size,b1.block⟩;have L1:=HL.out.below b1';have L2:=L1.below ((Below.refl w1.heap.size w1).alloc (Nat.le_refl _) (.cells #[.slice (some ⟨p,0,none⟩) np qc,.bool yf,.int .i64 yr,.int .i64 yq,.string yv] 65));obtain⟨q',cap',w3,happ,l3,A3,O3,h5⟩:=HST.out w1 p qc b1' p1 p2 hwr ⟨q1,q2⟩ how;have HI5:=hid h5;refine hK.out _ _ (HCS.out _ L1.low L1.ab.c0) (fun hHeld=> ?_);clear hK K;try simp only [Act.put,sZa,sZb,sZc]
    refine cZ 8 ?_;intro K hK;go_simp;refine hK.out _ _ (HCS.out _ L2.low L2.ab.c0) (fun hHeld=> ?_);clear hK K;try simp only [Act.put,sZa,sZb,sZc]
    refine cZ 9 ?_;intro K hK;refine wp_app2 _ _ _ _ rfl happ (by rfl) (by rfl) rfl ?_;refine hK.out _ _ (HCS.out _ l3 A3.c0) (fun hHeld=> ?_);clear hK K;try simp only [Act.put,sZa,sZb,sZc]
    refine tZ 10 26 ?_;have t0:=O3.c0;have tf:=O3.f;refine cZ 11 ?_;intro K hK;go_simp;obtain⟨_,_,_,_,h6⟩:=HI5.out;refine hK.out _ _ (HCS.out _ h6.low h6.ab.c0) (fun hHeld=> ?_);clear hK K;try simp only [Act.put,sZa,sZb,sZc]
    refine wpAnyH_done (by kernel_rfl) ?_ _;clear hHeld b1 b1' L1 L2 happ l3 A3 O3 h5 h6 t0 tf hwr p1 p2 HST HLF HC HCS q1 q2 how;go_wp2_with fail;go_roundw;case rel=>exact⟨j+1,hlt,by go_num,HI5⟩
    case measure=>simp [intOf];omega
   ·
    intro o ho hod K hK;simp only [gZa,gZb,gZc,gZd] at ho;subst ho;go_simp;refine(HLF.out _ (Below.refl _ _).drew).mono ?_;rintro e w1 ⟨p,qc,rfl,b1,p1,p2,hwr,q1,q2,how⟩;have b1':Below wr.heap.size wr w1:=⟨b1.os,b1.tape,b1.output,b1.size,b1.block⟩;have L1:=HL.out.below b1';have L2:=L1.below ((Below.refl w1.heap.size w1).alloc (Nat.le_refl _) (.cells #[.slice (some ⟨p,0,none⟩) np qc,.bool yf,.int .i64 yr,.int .i64 yq,.string yv] 65));obtain⟨q',cap',w3,happ,l3,A3,O3,h5⟩:=HST.out w1 p qc b1' p1 p2 hwr ⟨q1,q2⟩ how;have HI5:=hid h5;refine hK.out _ _ (HCS.out _ L1.low L1.ab.c0) (fun hHeld=> ?_);clear hK K;try simp only [Act.put,sZa,sZb,sZc]
    refine ready2t (i:=1) (j:=8) (d:=some 17) (d':=some 24) (by kernel_rfl) (by kernel_rfl) (by kernel_rfl) ?_ ?_
    ·
     have t0:=L1.ob.c0;intro o ho hod K hK;simp only [gZa,gZb,gZc,gZd] at ho;subst ho;go_simp;refine hK.out _ _ (HCS.out _ L1.low L1.ab.c0) (fun hHeld=> ?_);clear hK K;try simp only [Act.put,sZa,sZb,sZc]
     clear t0;refine cZ 8 ?_;intro K hK;go_simp;refine hK.out _ _ (HCS.out _ L2.low L2.ab.c0) (fun hHeld=> ?_);clear hK K;try simp only [Act.put,sZa,sZb,sZc]
     refine cZ 9 ?_;intro K hK;refine wp_app2 _ _ _ _ rfl happ (by rfl) (by rfl) rfl ?_;refine hK.out _ _ (HCS.out _ l3 A3.c0) (fun hHeld=> ?_);clear hK K;try simp only [Act.put,sZa,sZb,sZc]
     refine tZ 10 26 ?_;have t0:=O3.c0;have tf:=O3.f;refine cZ 11 ?_;intro K hK;go_simp;obtain⟨_,_,_,_,h6⟩:=HI5.out;refine hK.out _ _ (HCS.out _ h6.low h6.ab.c0) (fun hHeld=> ?_);clear hK K;try simp only [Act.put,sZa,sZb,sZc]
     refine wpAnyH_done (by kernel_rfl) ?_ _;clear hHeld b1 b1' L1 L2 happ l3 A3 O3 h5 h6 t0 tf hwr p1 p2 HST HLF HC HCS q1 q2 how;go_wp2_with fail;go_roundw;case rel=>exact⟨j+1,hlt,by go_num,HI5⟩
     case measure=>simp [intOf];omega
    ·
     intro o ho hod K hK;simp only [gZa,gZb,gZc,gZd] at ho;subst ho;go_simp;refine hK.out _ _ (HCS.out _ L2.low L2.ab.c0) (fun hHeld=> ?_);clear hK K;try simp only [Act.put,sZa,sZb,sZc]
     have t0:=L2.ob.c0;refine cZ 1 ?_;intro K hK;go_simp;refine hK.out _ _ (HCS.out _ L2.low L2.ab.c0) (fun hHeld=> ?_);clear hK K;try simp only [Act.put,sZa,sZb,sZc]
     clear t0;refine cZ 9 ?_;intro K hK;refine wp_app2 _ _ _ _ rfl happ (by rfl) (by rfl) rfl ?_;refine hK.out _ _ (HCS.out _ l3 A3.c0) (fun hHeld=> ?_);clear hK K;try simp only [Act.put,sZa,sZb,sZc]
     refine tZ 10 26 ?_;have t0:=O3.c0;have tf:=O3.f;refine cZ 11 ?_;intro K hK;go_simp;obtain⟨_,_,_,_,h6⟩:=HI5.out;refine hK.out _ _ (HCS.out _ h6.low h6.ab.c0) (fun hHeld=> ?_);clear hK K;try simp only [Act.put,sZa,sZb,sZc]
     refine wpAnyH_done (by kernel_rfl) ?_ _;clear hHeld b1 b1' L1 L2 happ l3 A3 O3 h5 h6 t0 tf hwr p1 p2 HST HLF HC HCS q1 q2 how;go_wp2_with fail;go_roundw;case rel=>exact⟨j+1,hlt,by go_num,HI5⟩
     case measure=>simp [intOf];omega
  ·obtain rfl:j=S.l.length:=by omega
   have hRN:RSeg wr x S.n S.R S.F S.T:=HRN.out.below HL.out.low;have hob:=HL.out.ob.lt;obtain⟨q2,cap2,w5,happ,ho5,hgr5,hq5,hu5⟩:=appRuns (d:=d) HL.out.rn (by omega) hn1 hRN;have O5:=HL.out.ob.grw hgr5 (by omega);have R5:=HL.out.rb.grw hgr5 (by omega);have b0:=O5.c0;have b1:=O5.c1;have bf:=O5.f;have r0:=R5.c0;have r1:=R5.c1;have rf:=R5.f;rw [HTL.out] at b0;have HBK:Hid (∀b,b<wr.heap.size ->b≠w.heap.size+1+1+1 ->w5.heap[b]? =wr.heap[b]?):=hid (fun b h1 h2=>hgr5.block b h1 (fun e=>h2 (by injection e)));have HO5:=hid ho5;have HGR:=hid hgr5;have HQ5:=hid (And.intro hq5 hu5);have HZ5:Hid (wr.heap.size<=w5.heap.size):=hid hgr5.size;clear ho5 hgr5 hq5 hu5 O5 R5 hRN;go_wp2_with (at_builtin;refine wpList_app2 rfl _ _ _ _ rfl happ (by rfl) (by rfl) rfl ?_;clear happ);have hz5:=HZ5.out;have hq5:=HQ5.out.1;have hq1:=HL.out.q1;have hgl:=(HL.out.lc.lt q rfl).2;have hsame:∀(v0 v1 v2:Value) (b:Nat),b≠w.heap.size+1 ->b≠w.heap.size+1+1+1+1 ->(((w5.setCell ⟨w.heap.size+1+1+1+1,1,none⟩ v0).setCell ⟨w.heap.size+1,0,none⟩ v1).setCell ⟨w.heap.size+1,1,none⟩ v2).heap[b]? =w5.heap[b]? :=fun v0 v1 v2 b h1 h2=>by
    rw [Below.heap_setCell _ _ _ _ (by simpa using h1),Below.heap_setCell _ _ _ _ (by simpa using h1),Below.heap_setCell _ _ _ _ (by simpa using h2)]
   have low5:Below w.heap.size w w5:=HL.out.low.grown HGR.out HL.out.low.size (fun k e=>by injection e with e;omega);have htk:S.l.take S.l.length=S.l:=by simp
   have hL:CpS w wr (.slice a S.l.length c) (.slice x S.n d) q cap S.l P Q:=by have:=HL.out;rw [htk] at this;exact this
   have hPz:∀i,i<S.l.length ->w.heap.size+5<=P i/\ P i<wr.heap.size:=fun i hi=>⟨hL.pt i hi,(hL.lc.pt i hi).2.1⟩;refine bodyPost_ret (v:=.agg #[.slice (some ⟨q,0,none⟩) S.l.length cap,.slice (some ⟨q2,0,none⟩) S.n cap2]) (by simp [results,Tryz.results53,go_sem,r0,r1]) rfl ⟨_,_,_,_,P,Q,rfl,?_,?_,hL.sep,?_,by omega,fun i hi=>by have:=hPz i hi;omega,fun h0=> ?_,?_⟩
   ·refine⟨own_weak5 (own_at5 hL.lc.row (fun b hb=> ?_)) (by omega),fun i hi=> ?_⟩
    ·have e:q=b:=by simpa [Value.ownBlock] using hb
     exact(hsame _ _ _ b (by omega) (by omega)).trans (HBK.out b (by omega) (by omega))
    ·obtain⟨e1,e2,e3,e4,e5⟩:=hL.lc.pt i hi;have:=hPz i hi;exact⟨by omega,by simp [World.setCell];omega,e3,e4.same ((hsame _ _ _ _ (by omega) (by omega)).trans (HBK.out _ (by omega) (by omega))),e5⟩
   ·intro i hi;refine own_weak5 (own_at5 (hL.ow i hi) (fun b hb=> ?_)) (by omega);have e:P i=b:=by simpa [Value.ownBlock] using hb
    have:=hPz i hi;exact(hsame _ _ _ b (by omega) (by omega)).trans (HBK.out b (by omega) (by omega))
   ·refine own_weak5 (own_at5 HO5.out (fun b hb=> ?_)) (by omega);have e:q2=b:=by simpa [Value.ownBlock] using hb
    exact hsame _ _ _ b (by omega) (by omega)
   ·have:=HQ5.out.2 h0;exact⟨by omega,fun i hi=>by have:=hPz i hi;omega⟩
   ·exact((low5.setCell (by simp;omega) _).setCell (by simp) _).setCell (by simp) _
end Go.Proofs.YtpfmeafmepgimaaGreat
namespace Go.Proofs.YtpfmeafmepgimaaGreat
open Go.ChangeShapes Go.WideShapes Go.ChangeAt Go.RowKit
def sRowR (ts:List ByteArray):List Value:=ts.map Value.string
theorem sRowR_len (ts:List ByteArray):(sRowR ts).length=ts.length:=by simp [sRowR]
theorem own_sseg {w:World}{B:Nat}{v:Value}{ts:List ByteArray}(h:w.ownsRow B 9 1 v ts.length (sRowR ts)):∃a c,v=.slice a ts.length c/\ SSeg w a ts/\ ts.length<=c/\ c<=9223372036854775807:=by
 rcases h.2 with ⟨rfl,h0⟩|⟨g,cap,cur,rfl,hbase,hb,h1,h2,h3,h4⟩
 ·exact⟨none,0,by rw [h0],.inl h0,by omega,by omega⟩
 ·refine⟨_,cap,rfl,.inr ⟨g,0,rfl,(Array.getElem?_eq_some_iff.1 hb).1,fun i hi=> ?_⟩,h1,by unfold maxLen at h2;omega⟩;have q:w.cell? ⟨g,i,none⟩=(sRowR ts)[i]? :=by
   rw [<- h4,Nat.mul_one,List.getElem?_take_of_lt hi];simp [World.cell?,hb]
  rw [Nat.zero_add,q];simp [sRowR,gS,List.getD,hi]
theorem own_atS {w w':World}{B e size n:Nat}{v:Value}{xs:List Value}(h:w.ownsRow B e size v n xs)(hk:∀g,v.ownBlock=some g ->w'.heap[g]? =w.heap[g]?):w'.ownsRow B e size v n xs:=by
 obtain⟨q1,q2⟩:=h;refine⟨q1,?_⟩;rcases q2 with q2|⟨g,cap,cur,e,hbg,hb,r⟩
 ·exact .inl q2
 ·subst e;exact .inr ⟨g,cap,cur,rfl,hbg,(hk g rfl).trans hb,r⟩
theorem own_lowS {w w':World}{B e size n:Nat}{v:Value}{xs:List Value}(h:w.ownsRow B e size v n xs)(hb:Below w.heap.size w w'):w'.ownsRow B e size v n xs:=own_atS h fun g hg=>hb.block g (h.lt g hg).2
theorem appSR (base:Nat)(w:World)(v:Value)(xs ns:List ByteArray)(a:Addr)(c:Nat)(ho:w.ownsRow base 9 1 v xs.length (sRowR xs))(hn:∀i,i<ns.length ->w.cell? (a.add i)=some (.string (gS ns i)))(hm:xs.length+ns.length<=4194304)(hb:base<=w.heap.size):
  ∃v' w',(Builtin.append_ #[61,61] 61 #[v,.slice (some a) ns.length c]).run Tryz.prog w=.ok v' w'/\ w'.ownsRow base 9 1 v' (xs++ns).length (sRowR (xs++ns))/\ w.grownBy w' v.ownBlock/\ Below base w w'/\ (v≠.slice none 0 0 ->v'≠.slice none 0 0):=by
 obtain⟨i0,hi,hz0,hz1,hz2⟩:=info_parts infoStr;obtain⟨v',w',h1,h2,h3,h4⟩:=run_append_own (P:=Tryz.prog) w base 61 61 9 i0 (.string ByteArray.empty) 1 16 Tryz.underlying61 hi hz0 hz1 hz2 rfl (by decide) v xs.length (sRowR xs) ho a ns.length c (sRowR ns) (by rw [sRowR_len];omega) (fun j u hu=>by
  have hj:j<ns.length:=by
   by_cases e:j<ns.length
   ·exact e
   ·rw [List.getElem?_eq_none (by rw [sRowR_len];omega)] at hu;cases hu
  rw [hn j hj,<- hu];simp [sRowR,gS,List.getD,hj]) (fun u hu=>by
   obtain⟨s,_,rfl⟩:=List.mem_map.1 hu;rfl) (by unfold maxLen;omega) (by omega) hb
 refine⟨v',w',h1,?_,h3,?_,fun hv e=>hv (h4.1 e).1⟩
 ·rw [List.length_append];simpa [sRowR] using h2
 ·exact(Below.refl base w).grown h3 hb (fun k hk=>(ho.lt k hk).1)
theorem wp_app {P:Program}{o:Oper}{a:Act}{w w':World}{K:Act ->World ->Prop}{Q:Exit ->Act ->World ->Prop}(s x:Operand)(t:TypeId)(ho:o.op=.call {callee:=.builtin .append,args:=#[s,x],argTypes:=#[t,t]}){v u v':Value}{t':TypeId}(hr:(Builtin.append_ #[t,t] t' #[v,u]).run P w=.ok v' w')(hs:a.eval s=v)(hx:a.eval x=u)(ht:o.type=t')(h:K (a.put o.dst v') w'):Oper.wp P o a w K Q:=by
 subst ht;unfold Oper.wp execOp;simp only [ho,resolve,invoke,builtin,Sem.run_bind,Sem.run_pure,Result.andThen_ok,List.map_toArray,List.map_cons,List.map_nil,hs,hx,hr];exact h
theorem wpList_appS {P:Program}{ops:Array Oper}{rest:List Oper}{o:Oper}{a:Act}{w w':World}{Q:Exit ->Act ->World ->Prop}(hgd:o.guard=none)(s x:Operand)(t:TypeId)(ho:o.op=.call {callee:=.builtin .append,args:=#[s,x],argTypes:=#[t,t]}){v u v':Value}{t':TypeId}(hr:(Builtin.append_ #[t,t] t' #[v,u]).run P w=.ok v' w')(hs:a.eval s=v)(hx:a.eval x=u)(ht:o.type=t')(h:wpList P ops Q rest (a.put o.dst v') w'):wpList P ops Q (o::rest) a w:=by
 refine wpList_plain hgd fun K hK=> ?_;exact wp_app s x t ho hr hs hx ht (hK _ _ h)
theorem ext_le (s:ByteArray)(a b:Nat){c:Nat}(h:b<=c):(s.extract a b).size<=c:=by
 rw [ByteArray.size_extract];exact Nat.le_trans (Nat.sub_le _ _) (Nat.le_trans (Nat.min_le_left _ _) h)
theorem valueJ (f:Nat ->Int)(n x:Nat):∃v:ByteArray,v.size<=201/\∀(B rb:Nat) (w:World),B<=w.heap.size ->RdJ w B rb f n x ->
  Calls Tryz.prog 78 #[.pointer (some ⟨rb,0,none⟩)] w fun e w'=>e=.returned (.string v)/\ RdJ w' B rb f n (rx n x)/\ w.grownBy w' (some rb):=by
 obtain⟨k,hk⟩:∃k,rk f n x=k:=⟨_,rfl⟩;by_cases h1:k=255
 ·refine⟨txJ (rpt ⟨#[118]⟩ 201),by rw [txJ_size,rpt_len];decide,fun B rb w hB h=> ?_⟩;have HN:=hid (rdNextJ B rb f n x w h);rw [hk] at HN;have d1:((k:Int)==255)=true:=by simp;omega
  clear h hk;go_enter Tryz.func78,Tryz.ntmps78;go_wp2_with fail;refine HN.out.mono ?_;rintro e w1 ⟨rfl,r1,g1⟩;have HC:=hid (rdRepeatJ ⟨#[118]⟩ 201 w1 (by decide) (by omega));go_wp2_with fail;refine HC.out.mono ?_;rintro e w2 ⟨rfl,b2⟩;go_wp2_with fail;go_ret;exact⟨rfl,r1.below (b2.mono (by have:=g1.size;omega)),grown_belowJ g1 b2⟩
 ·by_cases h2:250<=k
  ·refine⟨txJ (rpt ⟨#[118]⟩ 200),by rw [txJ_size,rpt_len];decide,fun B rb w hB h=> ?_⟩;have HN:=hid (rdNextJ B rb f n x w h);rw [hk] at HN;have d1:((k:Int)==255)=false:=by simp;omega
   have d2:(250:Int)<=(k:Int):=by omega
   clear h hk;go_enter Tryz.func78,Tryz.ntmps78;go_wp2_with fail;refine HN.out.mono ?_;rintro e w1 ⟨rfl,r1,g1⟩;have HC:=hid (rdRepeatJ ⟨#[118]⟩ 200 w1 (by decide) (by omega));go_wp2_with fail;refine HC.out.mono ?_;rintro e w2 ⟨rfl,b2⟩;go_wp2_with fail;go_ret;exact⟨rfl,r1.below (b2.mono (by have:=g1.size;omega)),grown_belowJ g1 b2⟩
  ·obtain⟨r,hr⟩:∃r:Nat,k%4=r:=⟨_,rfl⟩;refine⟨(⟨#[119,120,121,122]⟩:ByteArray).extract r 4,ext_le _ _ _ (by omega),fun B rb w hB h=> ?_⟩;have HN:=hid (rdNextJ B rb f n x w h);rw [hk] at HN;have d1:((k:Int)==255)=false:=by simp;omega
   have d2:¬(250:Int)<=(k:Int):=by omega
   have d3:(k:Int)%4=(r:Int):=by omega
   have d4:r<4:=by omega
   clear h hk hr;go_enter Tryz.func78,Tryz.ntmps78;go_wp2_with fail;refine HN.out.mono ?_;rintro e w1 ⟨rfl,r1,g1⟩;go_wp2_with fail;go_ret;exact⟨rfl,r1,g1⟩
def PR (w:World)(B:Nat)(v:Value)(ps:List ByteArray):Prop:=w.ownsRow B 9 1 v ps.length (sRowR ps)
structure PtN (w:World)(lo:Nat)(pa:Option Addr)(pc:Nat)(p:List ByteArray):Prop where
 cap:p.length<=pc/\ pc<=9223372036854775807
 seg:∀w':World,w.heap.size<=w'.heap.size ->(∀q,lo<=q ->q<w.heap.size ->w'.heap[q]? =w.heap[q]?) ->SSeg w' pa p
theorem PtN.move {w w1:World}{lo lo':Nat}{pa:Option Addr}{pc:Nat}{p:List ByteArray}(h:PtN w lo pa pc p)(hl:lo'<=lo)(hs:w.heap.size<=w1.heap.size)(hq:∀q,lo<=q ->q<w.heap.size ->w1.heap[q]? =w.heap[q]?):PtN w1 lo' pa pc p:=
 ⟨h.cap,fun w' h1 h2=>h.seg w' (Nat.le_trans hs h1) (fun q h3 h4=>(h2 q (Nat.le_trans hl h3) (Nat.lt_of_lt_of_le h4 hs)).trans (hq q h3 h4))⟩
theorem PtN.below {w w1:World}{lo:Nat}{pa:Option Addr}{pc:Nat}{p:List ByteArray}(h:PtN w lo pa pc p)(hb:Below w.heap.size w w1):PtN w1 lo pa pc p:=h.move (Nat.le_refl _) hb.size (fun q _ h2=>hb.block q h2)
theorem PtN.at {w:World}{lo:Nat}{pa:Option Addr}{pc:Nat}{p:List ByteArray}(h:PtN w lo pa pc p):SSeg w pa p:=h.seg w (Nat.le_refl _) (fun _ _ _=>rfl)
theorem PR.ptn {w:World}{B:Nat}{v:Value}{ps:List ByteArray}(h:PR w B v ps){lo:Nat}(hl:lo<=B):∃pa pc,v=.slice pa ps.length pc/\ PtN w lo pa pc ps:=by
 obtain⟨pa,pc,e,s,c⟩:=own_sseg h;refine⟨pa,pc,e,c,fun w' h1 h2=> ?_⟩;obtain⟨pa',pc',e',s',_⟩:=own_sseg (own_atS h (fun g hg=>h2 g (Nat.le_trans hl (h.lt g hg).1) (h.lt g hg).2));rw [e] at e';injection e' with e1 e2 e3;rw [e1];exact s'
theorem strApp1 (B:Nat)(w:World)(v:Value)(ps:List ByteArray)(s:ByteArray)(h:PR w B v ps)(hB:B<=w.heap.size)(hl:ps.length<=100):
  ∃v' w',(Builtin.append_ #[61,61] 61 #[v,.slice (some ⟨w.heap.size,0,none⟩) 1 1]).run Tryz.prog (w.alloc (.cells #[.string s] 9))=.ok v' w'/\ PR w' B v' (ps++[s])/\ Below B w w':=by
 have b1:Below w.heap.size w (w.alloc (.cells #[.string s] 9)):=(Below.refl _ _).alloc (Nat.le_refl _) _;obtain⟨v',w',h1,h2,h3,h4,h5⟩:=appSR B (w.alloc (.cells #[.string s] 9)) v ps [s] ⟨w.heap.size,0,none⟩ 1 (own_lowS h b1) (fun i hi=>by
  obtain rfl:i=0:=by simp at hi;omega
  simp [Addr.add,gS]) (by simp;omega) (by simp;omega)
 exact⟨v',w',h1,h2,(b1.mono hB).trans h4⟩
theorem PR.lit1 (w:World)(s:ByteArray):PR (w.alloc (.cells #[.string s] 9)) w.heap.size (.slice (some ⟨w.heap.size,0,none⟩) 1 1) [s]:=
 World.ownsRow_lit (base:=w.heap.size) (e:=9) (size:=1) w #[.string s] 1 (Nat.le_refl _) (by unfold maxLen;omega) rfl
theorem PR.lit0 (w:World):PR (w.alloc (.cells #[] 9)) w.heap.size (.slice (some ⟨w.heap.size,0,none⟩) 0 0) []:=
 World.ownsRow_lit (base:=w.heap.size) (e:=9) (size:=1) w #[] 0 (Nat.le_refl _) (by unfold maxLen;omega) rfl
def PaP (f:Nat ->Int)(n x:Nat)(p:List ByteArray):Prop:=p.length<=9/\∀(B rb:Nat) (w:World),B<=w.heap.size ->RdJ w B rb f n x ->
  Calls Tryz.prog 76 #[.pointer (some ⟨rb,0,none⟩)] w fun e w'=>∃pa pc,e=.returned (.slice pa p.length pc)/\ PtN w' w.heap.size pa pc p/\ RdJ w' B rb f n (rx n x)/\ w.grownBy w' (some rb)
theorem PaP.fin {f:Nat ->Int}{n x:Nat}{p:List ByteArray}{B rb:Nat}{w w1 w2:World}{v:Value}(hB:B<=w.heap.size)(r1:RdJ w1 B rb f n (rx n x))(g1:w.grownBy w1 (some rb))(h:PR w2 w1.heap.size v p)(b2:Below w1.heap.size w1 w2):∃pa pc,Ending.returned v=.returned (.slice pa p.length pc)/\ PtN w2 w.heap.size pa pc p/\ RdJ w2 B rb f n (rx n x)/\ w.grownBy w2 (some rb):=by
 obtain⟨pa,pc,e,hp⟩:=h.ptn g1.size;exact⟨pa,pc,by rw [e],hp,r1.below (b2.mono (by have:=g1.size;omega)),grown_belowJ g1 b2⟩
theorem pathA (f:Nat ->Int)(n x k:Nat)(hk:rk f n x=k)(h1:252<=k):∃p,PaP f n x p:=by
 obtain⟨r,hr⟩:∃r:Nat,k%2=r:=⟨_,rfl⟩;obtain⟨m,hm⟩:∃m:Nat,40+r=m:=⟨_,rfl⟩;obtain⟨t,ht⟩:∃t,txJ (rpt ⟨#[110]⟩ m)=t:=⟨_,rfl⟩;refine⟨[t],by simp,fun B rb w hB h=> ?_⟩;have HN:=hid (rdNextJ B rb f n x w h);rw [hk] at HN;have d1:(252:Int)<=(k:Int):=by omega
 have d2:(k:Int)%2=(r:Int):=by omega
 have d3:IntKind.i64.wrap (40+(r:Int))=(m:Int):=by rw [show (40:Int)+(r:Int)=(m:Int) by omega];exact wrapIn _ (by omega) (by omega)
 have HM:Hid (m<=1000):=hid (by omega);have HT:=hid ht;clear h hk hr hm ht;go_enter Tryz.func76,Tryz.ntmps76;go_wp2_with fail;refine HN.out.mono ?_;rintro e w1 ⟨rfl,r1,g1⟩;have HC:=hid (rdRepeatJ ⟨#[110]⟩ m w1 (by decide) HM.out);rw [HT.out] at HC;go_wp2_with fail;refine HC.out.mono ?_;rintro e w2 ⟨rfl,b2⟩;have HF:=hid (PaP.fin hB r1 g1 (own_weak5 (PR.lit1 w2 t) b2.size) (keepS b2 ((Below.refl _ _).alloc (Nat.le_refl _) _)));clear r1 g1 b2;go_wp2_with fail;go_ret;exact HF.out
theorem pathB (f:Nat ->Int)(n x k:Nat)(hk:rk f n x=k)(h1:¬252<=k)(h2:248<=k):∃p,PaP f n x p:=by
 obtain⟨r,hr⟩:∃r:Nat,k%2=r:=⟨_,rfl⟩;obtain⟨m,hm⟩:∃m:Nat,8+r=m:=⟨_,rfl⟩;refine⟨List.replicate m ⟨#[100]⟩,by simp;omega,fun B rb w hB h=> ?_⟩;have HN:=hid (rdNextJ B rb f n x w h);rw [hk] at HN;have d1:¬(252:Int)<=(k:Int):=by omega
 have d2:(248:Int)<=(k:Int):=by omega
 have d3:(k:Int)%2=(r:Int):=by omega
 have d4:IntKind.i64.wrap (8+(r:Int))=(m:Int):=by rw [show (8:Int)+(r:Int)=(m:Int) by omega];exact wrapIn _ (by omega) (by omega)
 have hm9:m<=9:=by omega
 clear h hk hr hm;go_enter Tryz.func76,Tryz.ntmps76;go_wp2_with fail;refine HN.out.mono ?_;rintro e w1 ⟨rfl,r1,g1⟩;have HR1:=hid r1;have HG1:=hid g1;have HE:=hid (PR.lit0 w1);have HB0:=hid ((Below.refl w1.heap.size w1).alloc (Nat.le_refl _) (.cells #[] 9));clear r1 g1;go_wp2_with fail;go_loopw [4,5] (fun v i wr=>∃j:Nat,j<=m/\ i=.int .i64 (j:Int)/\ Hid (PR wr w1.heap.size v (List.replicate j ⟨#[100]⟩))/\ Hid (Below w1.heap.size w1 wr)) (fun _ i _=>m - (intOf i).toNat);case atStart=>exact⟨0,Nat.zero_le _,rfl,HE,HB0⟩
 case round=>
  clear HE HB0;obtain⟨j,hj,rfl,ho,hb⟩:=hrel;by_cases hlt:j<m
  ·obtain⟨v',w',happ,hp,hb2⟩:=strApp1 w1.heap.size wr u4 _ ⟨#[100]⟩ ho.out hb.out.size (by simp;omega);have HP:Hid (PR w' w1.heap.size v' (List.replicate (j+1) ⟨#[100]⟩)):=hid (by rw [List.replicate_succ'];exact hp);have HB2:=hid (hb.out.trans hb2);clear hp hb2 ho hb;go_wp2_with (at_builtin;refine wpList_appS rfl _ _ _ rfl happ (by rfl) (by rfl) rfl ?_;clear happ);go_roundw;case rel=>exact⟨j+1,hlt,by go_num,HP,HB2⟩
   case measure=>simp [intOf];omega
  ·obtain rfl:j=m:=by omega
   have HF:=hid (PaP.fin hB HR1.out HG1.out ho.out hb.out);clear ho hb;go_wp2_with fail;go_ret;exact HF.out
theorem pathC (f:Nat ->Int)(n x k:Nat)(hk:rk f n x=k)(h1:¬248<=k)(h2:244<=k):∃p,PaP f n x p:=by
 obtain⟨r,hr⟩:∃r:Nat,k%4=r:=⟨_,rfl⟩;have hl:(([⟨#[97]⟩,⟨#[]⟩,⟨#[98]⟩]:List ByteArray).take r).length=r:=by rw [List.length_take];show min r 3=r;omega
 refine⟨([⟨#[97]⟩,⟨#[]⟩,⟨#[98]⟩]:List ByteArray).take r,by omega,fun B rb w hB h=> ?_⟩;rw [hl];have HN:=hid (rdNextJ B rb f n x w h);rw [hk] at HN;have d1:¬(252:Int)<=(k:Int):=by omega
 have d2:¬(248:Int)<=(k:Int):=by omega
 have d3:(244:Int)<=(k:Int):=by omega
 have d4:(k:Int)%4=(r:Int):=by omega
 have d5:r<4:=by omega
 have HL:=hid hl;clear h hk hr hl;go_enter Tryz.func76,Tryz.ntmps76;go_wp2_with fail;refine HN.out.mono ?_;rintro e w1 ⟨rfl,r1,g1⟩;have HR1:=hid r1;have HG1:=hid g1;clear r1 g1;go_wp2_with fail;go_ret;have b2:Below w1.heap.size w1 (w1.alloc (.cells #[.string ⟨#[97]⟩,.string ⟨#[]⟩,.string ⟨#[98]⟩] 9)):=(Below.refl _ _).alloc (Nat.le_refl _) _;refine⟨_,3,rfl,⟨by rw [HL.out];omega,fun w' z1 z2=> ?_⟩,HR1.out.below (b2.mono (by have:=HG1.out.size;omega)),grown_belowJ HG1.out b2⟩;have e:=z2 w1.heap.size HG1.out.size (by simp);refine .inr ⟨w1.heap.size,0,rfl,by simp at z1;omega,fun i hi=> ?_⟩;rw [World.cell?_of_block (a:=⟨w1.heap.size,0+i,none⟩) e,Nat.zero_add];rw [HL.out] at hi;have hi4:i<3:=by omega
 match i,hi,hi4 with
 | 0,hi,_=>simp [gS,List.getD,hi]
 | 1,hi,_=>simp [gS,List.getD,hi]
 | 2,hi,_=>simp [gS,List.getD,hi]
theorem pathD (f:Nat ->Int)(n x k:Nat)(hk:rk f n x=k)(h1:¬244<=k):∃p,PaP f n x p:=by
 obtain⟨r1,hr1⟩:∃r:Nat,k%3=r:=⟨_,rfl⟩;obtain⟨m1,hm1⟩:∃r:Nat,r1+1=r:=⟨_,rfl⟩;obtain⟨q,hq⟩:∃r:Nat,k/3%3=r:=⟨_,rfl⟩;obtain⟨r2,hr2⟩:∃r:Nat,k/9%2=r:=⟨_,rfl⟩;obtain⟨m2,hm2⟩:∃r:Nat,r2+1=r:=⟨_,rfl⟩;obtain⟨r3,hr3⟩:∃r:Nat,k/18%3=r:=⟨_,rfl⟩;have d1:¬(252:Int)<=(k:Int):=by omega
 have d2:¬(248:Int)<=(k:Int):=by omega
 have d3:¬(244:Int)<=(k:Int):=by omega
 have d4:(k:Int)%3=(r1:Int):=by omega
 have d5:(k:Int)/3%3=(q:Int):=by omega
 have d6:(k:Int)/9%2=(r2:Int):=by omega
 have d7:(k:Int)/18%3=(r3:Int):=by omega
 have e1:IntKind.i64.wrap ((r1:Int)+1)=(m1:Int):=by rw [show (r1:Int)+1=(m1:Int) by omega];exact wrapIn _ (by omega) (by omega)
 have e2:IntKind.i64.wrap ((r2:Int)+1)=(m2:Int):=by rw [show (r2:Int)+1=(m2:Int) by omega];exact wrapIn _ (by omega) (by omega)
 have l1:r1<3:=by omega
 have l2:r2<2:=by omega
 have l3:r3<3:=by omega
 have l4:q<3:=by omega
 have n1:m1<=3/\ r1<=m1:=by omega
 have n2:m2<=2/\ r2<=m2:=by omega
 obtain⟨s1,hs1⟩:∃s,(⟨#[97,98,99]⟩:ByteArray).extract r1 m1=s:=⟨_,rfl⟩;obtain⟨s2,hs2⟩:∃s,(⟨#[97,98]⟩:ByteArray).extract r2 m2=s:=⟨_,rfl⟩;obtain⟨s3,hs3⟩:∃s,(⟨#[97,255,47]⟩:ByteArray).extract r3 3=s:=⟨_,rfl⟩;clear hr1 hm1 hq hr2 hm2 hr3;obtain⟨n11,n12⟩:=n1;obtain⟨n21,n22⟩:=n2;by_cases q0:q=0
 ·have t1:¬(0:Int)<(q:Int):=by omega
  have t2:¬(1:Int)<(q:Int):=by omega
  refine⟨[s1],by simp,fun B rb w hB h=> ?_⟩;have HN:=hid (rdNextJ B rb f n x w h);rw [hk] at HN;clear h hk;go_enter Tryz.func76,Tryz.ntmps76;go_wp2_with fail;refine HN.out.mono ?_;rintro e w1 ⟨rfl,r1,g1⟩;have HF:=hid (PaP.fin hB r1 g1 (PR.lit1 w1 s1) ((Below.refl _ _).alloc (Nat.le_refl _) _));clear r1 g1;go_wp2_with fail;go_ret;exact HF.out
 ·have t1:(0:Int)<(q:Int):=by omega
  by_cases q1:q=1
  ·have t2:¬(1:Int)<(q:Int):=by omega
   refine⟨[s1]++[s2],by simp,fun B rb w hB h=> ?_⟩;have HN:=hid (rdNextJ B rb f n x w h);rw [hk] at HN;clear h hk;go_enter Tryz.func76,Tryz.ntmps76;go_wp2_with fail;refine HN.out.mono ?_;rintro e w1 ⟨rfl,r1,g1⟩;obtain⟨v',w',happ,hp,hb2⟩:=strApp1 w1.heap.size (w1.alloc (.cells #[.string s1] 9)) _ _ s2 (PR.lit1 w1 s1) (by simp) (by simp);rw [show (w1.alloc (.cells #[.string s1] 9)).heap.size=w1.heap.size+1 from by simp] at happ;have HF:=hid (PaP.fin hB r1 g1 hp (((Below.refl _ _).alloc (Nat.le_refl _) _).trans hb2));clear r1 g1 hp hb2;go_wp2_with (at_builtin;refine wpList_appS rfl _ _ _ rfl happ (by rfl) (by rfl) rfl ?_;clear happ);go_ret;exact HF.out
  ·have t2:(1:Int)<(q:Int):=by omega
   refine⟨[s1]++[s2]++[s3],by simp,fun B rb w hB h=> ?_⟩;have HN:=hid (rdNextJ B rb f n x w h);rw [hk] at HN;clear h hk;go_enter Tryz.func76,Tryz.ntmps76;go_wp2_with fail;refine HN.out.mono ?_;rintro e w1 ⟨rfl,r1,g1⟩;obtain⟨v',w',happ,hp,hb2⟩:=strApp1 w1.heap.size (w1.alloc (.cells #[.string s1] 9)) _ _ s2 (PR.lit1 w1 s1) (by simp) (by simp);rw [show (w1.alloc (.cells #[.string s1] 9)).heap.size=w1.heap.size+1 from by simp] at happ;have b1:Below w1.heap.size w1 w':=((Below.refl _ _).alloc (Nat.le_refl _) _).trans hb2;obtain⟨v2,w2,happ2,hp2,hb3⟩:=strApp1 w1.heap.size w' _ _ s3 hp b1.size (by simp);have HF:=hid (PaP.fin hB r1 g1 hp2 (b1.trans hb3));clear r1 g1 hp hb2 b1 hp2 hb3;go_wp2_with (at_builtin;first|(refine wpList_appS rfl _ _ _ rfl happ (by rfl) (by rfl) rfl ?_;clear happ)|(refine wpList_appS rfl _ _ _ rfl happ2 (by rfl) (by rfl) rfl ?_;clear happ2));go_ret;exact HF.out
theorem pathJ (f:Nat ->Int)(n x:Nat):∃p,PaP f n x p:=by
 by_cases h1:252<=rk f n x
 ·exact pathA f n x _ rfl h1
 ·by_cases h2:248<=rk f n x
  ·exact pathB f n x _ rfl h1 h2
  ·by_cases h3:244<=rk f n x
   ·exact pathC f n x _ rfl h2 h3
   ·exact pathD f n x _ rfl h3
end Go.Proofs.YtpfmeafmepgimaaGreat
