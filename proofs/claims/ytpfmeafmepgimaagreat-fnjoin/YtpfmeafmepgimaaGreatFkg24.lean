import Derived.Test.YtpfmeafmepgimaaGreatFkg23
import Derived.Test.YtpfmeafmepgimaaGreatFkg03
import Derived.Test.YtpfmeafmepgimaaGreatFkhOf
import Derived.Test.YtpfmeafmepgimaaGreatFkg11
import Derived.RegionTactic
import Derived.BigRegion
import Derived.Deep.RegionLaw
set_option linter.unusedVariables false
set_option linter.unusedSimpArgs false
set_option maxRecDepth 100000
set_option maxHeartbeats 40000000
namespace Go.Proofs.YtpfmeafmepgimaaGreat
open Go.ChangeShapes Go.WideShapes Go.ChangeAt Go.RowKit
theorem gR_flat (l:List Rn):flat (fun i=>(gR l i).1) (fun i=>(gR l i).2.1) (fun i=>(gR l i).2.2) l.length=l:=by
 refine List.ext_getElem (by simp [flat]) (fun i h1 h2=> ?_);simp [flat,gR,List.getD,h2]
theorem gR_okTo {l:List Rn}(h:FSrt l):okTo (fun i=>(gR l i).1) (fun i=>(gR l i).2.1) (fun i=>(gR l i).2.2) l.length:=by
 intro i hi;have e:∀j,(hj:j<l.length) ->gR l j=l[j]:=fun j hj=>by simp [gR,List.getD,hj]
 refine⟨?_,fun h0=> ?_⟩
 ·have:=h.2 _ (List.getElem_mem hi);rw [<- e i hi] at this;exact runOk_true this
 ·have:=List.pairwise_iff_getElem.1 h.1 (i - 1) i (by omega) hi (by omega);rw [<- e i hi,<- e (i - 1) (by omega)] at this;unfold apartB;exact decide_eq_true this
theorem hasK_RI (R F T:Nat ->Int)(r x:Int)(n:Nat):hasK R F T r x x n=true↔RI (flat R F T n) r x:=by
 rw [flat_in,<- in_hasK];unfold inB In;simp
theorem hasX_RI {R F T:Nat ->Int}{n:Nat}{x:Lf}:hasX R F T n x↔RI (flat R F T n) x.r x.q:=hasK_RI R F T x.r x.q n
def mkS (l:List Lf)(u:List Rn):Sx:=⟨l,u.length,fun i=>(gR u i).1,fun i=>(gR u i).2.1,fun i=>(gR u i).2.2⟩
theorem jnS_mk (S S':Sx):jnS S S'=mkS (jn S.R S.F S.T S.n S.l S'.R S'.F S'.T S'.n S'.l) (jnU S S'):=rfl
theorem mkS_has {l:List Lf}{u:List Rn}{x:Lf}:hasX (mkS l u).R (mkS l u).F (mkS l u).T (mkS l u).n x↔RI u x.r x.q:=by
 rw [hasX_RI];unfold mkS;simp only;rw [gR_flat]
def dtR (x:Lf):Rn:=(x.r,x.q,x.q)
theorem dtR_in {l:List Lf}{r x:Int}:RI (l.map dtR) r x↔∃y∈l,y.r=r/\ y.q=x:=by
 unfold RI InR dtR;constructor
 ·rintro⟨p,hp,h1,h2,h3⟩;obtain⟨y,hy,rfl⟩:=List.mem_map.1 hp;exact⟨y,hy,h1,by simp only at h2 h3;omega⟩
 ·rintro⟨y,hy,h1,h2⟩;exact⟨_,List.mem_map.2 ⟨y,hy,rfl⟩,h1,by simp only;omega,by simp only;omega⟩
noncomputable def goL (g:Lf ->Prop)(l:List Lf):List Lf:=l.filter fun x=>yes (g x)
noncomputable def stL (g:Lf ->Prop)(l:List Lf):List Lf:=l.filter fun x=> !yes (g x)
noncomputable def dlU (g:Lf ->Prop)(l P:List Lf):List Rn:=unF [] ((goL g l).map dtR++P.map dtR)
noncomputable def dlS (g:Lf ->Prop)(l P:List Lf):Sx:=mkS P (dlU g l P)
def nxU (S:Sx)(P:List Lf):List Rn:=unF (flat S.R S.F S.T S.n) (P.map dtR)
noncomputable def nxL (g:Lf ->Prop)(l P:List Lf):List Lf:=P.foldl (fun o y=>insL y o) (stL g l)
noncomputable def nxS (g:Lf ->Prop)(S:Sx)(P:List Lf):Sx:=mkS (nxL g S.l P) (nxU S P)
theorem goL_mem {g:Lf ->Prop}{l:List Lf}{x:Lf}:x∈goL g l↔x∈l/\ g x:=by
 unfold goL;rw [List.mem_filter];exact and_congr_right fun _=>⟨fun h=>Classical.byContradiction fun hn=>(by rw [yes_f hn] at h;cases h),fun h=>yes_t h⟩
theorem stL_mem {g:Lf ->Prop}{l:List Lf}{x:Lf}:x∈stL g l↔x∈l/\¬g x:=by
 unfold stL;rw [List.mem_filter];exact and_congr_right fun _=>⟨fun h hn=>(by rw [yes_t hn] at h;cases h),fun h=>(by rw [yes_f h];rfl)⟩
structure PtO (S:Sx)(P:List Lf):Prop where
 one:P.length<=1
 ok:∀y∈P,LfOk1 y
 dot:∀y∈P,Rok (dtR y)
 new:∀y∈P,¬hasX S.R S.F S.T S.n y
theorem PtO.nil (S:Sx):PtO S []:=⟨by simp,fun y h=>(by cases h),fun y h=>(by cases h),fun y h=>(by cases h)⟩
theorem ok_has {S:Sx}(h:StOk S.R S.F S.T S.n S.l):∀z∈S.l,hasX S.R S.F S.T S.n z:=fun z hz=>by
 obtain⟨j,hj,e⟩:=gL_mem.1 hz;have:=(h.2.2.1 j hj).2.1;rw [e] at this;exact this
theorem has_rok {R F T:Nat ->Int}{n:Nat}(h:okTo R F T n){x:Lf}(hx:hasX R F T n x):Rok (dtR x):=by
 obtain⟨k,hk,e1,e2,e3⟩:=jhas_at R F T _ _ _ n hx;have:=(h k hk).1;simp only [runOkB,Bool.and_eq_true,decide_eq_true_eq] at this;unfold Rok dtR;simp only;omega
theorem ok_okTo {S:Sx}(h:StOk S.R S.F S.T S.n S.l):okTo S.R S.F S.T S.n:=(ctxB_iff.1 h.1).1
section
variable {g : Lf -> Prop} {S : Sx} {P : List Lf}
theorem dl_rok (h:StOk S.R S.F S.T S.n S.l)(hp:PtO S P):∀p∈(goL g S.l).map dtR++P.map dtR,Rok p:=fun p hq=>by
 rcases List.mem_append.1 hq with hq|hq
 ·obtain⟨x,hx,rfl⟩:=List.mem_map.1 hq;exact has_rok (ok_okTo h) (ok_has h x (goL_mem.1 hx).1)
 ·obtain⟨x,hx,rfl⟩:=List.mem_map.1 hq;exact hp.dot x hx
theorem fs_nil:FSrt []:=⟨List.Pairwise.nil,fun p h=>by cases h⟩
theorem dlU_ok (h:StOk S.R S.F S.T S.n S.l)(hp:PtO S P):FSrt (dlU g S.l P)/\∀r x,RI (dlU g S.l P) r x↔(∃y,(y∈S.l/\ g y)/\ y.r=r/\ y.q=x) \/∃y∈P,y.r=r/\ y.q=x:=by
 obtain⟨h1,h2⟩:=unF_ok ((goL g S.l).map dtR++P.map dtR) [] fs_nil (dl_rok h hp);refine⟨h1,fun r x=>(h2 r x).trans ?_⟩;rw [RI_append,dtR_in,dtR_in];constructor
 ·rintro(e|⟨y,hy,e⟩|e)
  ·exact absurd e RI_nil
  ·exact .inl ⟨y,goL_mem.1 hy,e⟩
  ·exact .inr e
 ·rintro(⟨y,hy,e⟩|e)
  ·exact .inr (.inl ⟨y,goL_mem.2 hy,e⟩)
  ·exact .inr (.inr e)
theorem dlU_len (h:StOk S.R S.F S.T S.n S.l)(hp:PtO S P):(dlU g S.l P).length<=1001:=by
 have h1:=unF_len ((goL g S.l).map dtR++P.map dtR) [];have h2:(goL g S.l).length<=S.l.length:=List.length_filter_le _ _;have h3:=h.2.1;have h4:=hp.one;simp at h1;show (unF [] ((goL g S.l).map dtR++P.map dtR)).length<=1001;omega
theorem one_lv (hp:PtO S P){R F T:Nat ->Int}{n:Nat}(hh:∀y∈P,hasX R F T n y):LvOk R F T n P P.length/\ Dis P P.length:=by
 have h1:=hp.one;refine⟨fun i hi=> ?_,fun i hi j hj=>by omega⟩;have hm:gL P i∈P:=gL_mem.2 ⟨i,hi,rfl⟩;exact⟨hp.ok _ hm,hh _ hm,fun h0=>by omega⟩
theorem dl_w (h:StOk S.R S.F S.T S.n S.l)(hp:PtO S P):StW (dlS g S.l P).R (dlS g S.l P).F (dlS g S.l P).T (dlS g S.l P).n (dlS g S.l P).l:=by
 have h1:=(dlU_ok (g:=g) h hp).1;have h2:=dlU_len (g:=g) h hp;have h3:=one_lv hp (R:=(dlS g S.l P).R) (F:=(dlS g S.l P).F) (T:=(dlS g S.l P).T) (n:=(dlS g S.l P).n) (fun y hy=>mkS_has.2 (((dlU_ok h hp).2 _ _).2 (.inr ⟨y,hy,rfl,rfl⟩)));exact⟨⟨gR_okTo h1,by show (dlU g S.l P).length<=2000;omega⟩,by show P.length<=1000;have:=hp.one;omega,h3.1,h3.2⟩
theorem stL_sorted (h:StOk S.R S.F S.T S.n S.l):(stL g S.l).Pairwise (fun a b=>cmpL a b<0):=by
 refine List.Pairwise.filter _ (List.pairwise_iff_getElem.2 fun i j hi hj hij=> ?_);have:=h.2.2.1.lt j hij hj;have e1:gL S.l i=S.l[i]:=by simp [gL,List.getD,hi]
 have e2:gL S.l j=S.l[j]:=by simp [gL,List.getD,hj]
 rw [e1,e2] at this;exact this
theorem nxL_mem {l:List Lf}{z:Lf}:∀{P:List Lf} {o:List Lf},z∈P.foldl (fun o y=>insL y o) o↔z∈o \/z∈P
 | [],o=>by simp
 | y::P,o=>by
  rw [List.foldl_cons,nxL_mem (l:=l) (P:=P),insL_mem,List.mem_cons];constructor
  ·rintro((e|e)|e)
   ·exact .inr (.inl e)
   ·exact .inl e
   ·exact .inr (.inr e)
  ·rintro(e|e|e)
   ·exact .inl (.inr e)
   ·exact .inl (.inl e)
   ·exact .inr e
theorem nxL_sorted (h:StOk S.R S.F S.T S.n S.l)(hp:PtO S P):(nxL g S.l P).Pairwise (fun a b=>cmpL a b<0):=by
 unfold nxL;match P,hp with
 | [],_=>exact stL_sorted h
 | [y],hp=>
  refine insL_sorted (stL_sorted h) (fun z hz e=> ?_);exact hp.new y (List.mem_singleton.2 rfl) ((hasX_key e).1 (ok_has h z (stL_mem.1 hz).1))
 | _::_::_,hp=>exact absurd hp.one (by simp)
theorem chg_l (h:StOk S.R S.F S.T S.n S.l)(hp:PtO S P):(jnS S (dlS g S.l P)).l=nxL g S.l P:=by
 refine lfs_uniq (jn_sorted h.w (dl_w h hp)) (nxL_sorted h hp) (fun z=> ?_);show z∈jnL S.l P _ _↔_;rw [jnL_mem];unfold nxL;rw [nxL_mem (l:=S.l),stL_mem];have hD:hasX (dlS g S.l P).R (dlS g S.l P).F (dlS g S.l P).T (dlS g S.l P).n z↔_:=mkS_has.trans ((dlU_ok (g:=g) h hp).2 z.r z.q);rw [hD];constructor
 ·rintro(⟨h1,h2⟩|⟨h1,_⟩)
  ·rcases h2 with h2|h2
   ·exact .inr h2
   ·exact .inl ⟨h1,fun hg=>h2 (.inl ⟨z,⟨h1,hg⟩,rfl,rfl⟩)⟩
  ·exact .inr h1
 ·rintro(⟨h1,h2⟩|h1)
  ·refine .inl ⟨h1,.inr ?_⟩;rintro(⟨y,⟨hy,hg⟩,e⟩|⟨y,hy,e⟩)
   ·exact h2 ((dis_mem h.2.2.2 hy h1 e) ▸ hg)
   ·refine hp.new y hy ?_;have:=ok_has h z h1;unfold hasX at this ⊢;rw [e.1,e.2];exact this
  ·exact .inr ⟨h1,hp.new z h1⟩
theorem nxU_ok (h:StOk S.R S.F S.T S.n S.l)(hp:PtO S P):FSrt (nxU S P)/\∀r x,RI (nxU S P) r x↔RI (flat S.R S.F S.T S.n) r x \/∃y∈P,y.r=r/\ y.q=x:=by
 obtain⟨h1,h2⟩:=unF_ok (P.map dtR) (flat S.R S.F S.T S.n) (flat_srt S.n (ok_okTo h)) (fun p hq=>by
  obtain⟨x,hx,rfl⟩:=List.mem_map.1 hq;exact hp.dot x hx)
 refine⟨h1,fun r x=>(h2 r x).trans ?_⟩;rw [dtR_in]
theorem chg_u (h:StOk S.R S.F S.T S.n S.l)(hp:PtO S P):jnU S (dlS g S.l P)=nxU S P:=by
 have hd:=dlU_ok (g:=g) h hp;have e0:jnU S (dlS g S.l P)=unF (flat S.R S.F S.T S.n) (dlU g S.l P):=by
  unfold jnU unL dlS mkS;simp only;rw [gR_flat]
 rw [e0];obtain⟨h1,h2⟩:=unF_ok (dlU g S.l P) (flat S.R S.F S.T S.n) (flat_srt S.n (ok_okTo h)) hd.1.2;obtain⟨h3,h4⟩:=nxU_ok h hp;refine uniq h1 h3 (fun r x=> ?_);rw [h2,h4,hd.2];constructor
 ·rintro(e|⟨y,⟨hy,_⟩,e1,e2⟩|e)
  ·exact .inl e
  ·have:=hasX_RI.1 (ok_has h y hy);rw [e1,e2] at this;exact .inl this
  ·exact .inr e
 ·rintro(e|e)
  ·exact .inl e
  ·exact .inr (.inr e)
theorem chg_s (h:StOk S.R S.F S.T S.n S.l)(hp:PtO S P):jnS S (dlS g S.l P)=nxS g S P:=by
 rw [jnS_mk,chg_u h hp];have:=chg_l (g:=g) h hp;unfold nxS;rw [<- this];rfl
end
abbrev Vd (S:Sx):Prop:=StOk S.R S.F S.T S.n S.l
def fS (S:Sx):List Rn:=flat S.R S.F S.T S.n
def Hs (S:Sx)(x:Lf):Prop:=RI (fS S) x.r x.q
theorem fS_mk (l:List Lf)(u:List Rn):fS (mkS l u)=u:=gR_flat u
theorem fS_len (S:Sx):(fS S).length=S.n:=flatR_len _ _ _ _
theorem Hs_has (S:Sx):hasX S.R S.F S.T S.n=Hs S:=funext fun x=>propext hasX_RI
theorem jnS_eq (S S':Sx):jnS S S'=mkS (jnL S.l S'.l (Hs S) (Hs S')) (unF (fS S) (fS S')):=by
 rw [jnS_mk,<- Hs_has,<- Hs_has];rfl
theorem eqS_iff {A B:Sx}:EqS A B↔A.l=B.l/\ fS A=fS B:=by
 constructor
 ·rintro⟨h1,h2,h3⟩;refine⟨h1,List.ext_getElem (by rw [fS_len,fS_len,h2]) (fun i h4 h5=> ?_)⟩;have hi:i<A.n:=by rw [<- fS_len];exact h4
  obtain⟨e1,e2,e3⟩:=h3 i hi;simp [fS,flat,e1,e2,e3]
 ·rintro⟨h1,h2⟩;have hn:A.n=B.n:=by rw [<- fS_len,<- fS_len,h2]
  refine⟨h1,hn,fun i hi=> ?_⟩;have e:gR (fS A) i=gR (fS B) i:=by rw [h2]
  unfold fS at e;rw [flat_at _ _ _ _ _ hi,flat_at _ _ _ _ _ (hn ▸ hi)] at e;injection e with e1 e;injection e with e2 e3;exact⟨e1,e2,e3⟩
theorem EqS.refl (A:Sx):EqS A A:=eqS_iff.2 ⟨rfl,rfl⟩
theorem EqS.symm {A B:Sx}(h:EqS A B):EqS B A:=eqS_iff.2 ⟨(eqS_iff.1 h).1.symm,(eqS_iff.1 h).2.symm⟩
theorem EqS.trans {A B C:Sx}(h:EqS A B)(k:EqS B C):EqS A C:=eqS_iff.2 ⟨(eqS_iff.1 h).1.trans (eqS_iff.1 k).1,(eqS_iff.1 h).2.trans (eqS_iff.1 k).2⟩
theorem jn_congr {A B C D:Sx}(h:EqS A B)(k:EqS C D):jnS A C=jnS B D:=by
 obtain⟨h1,h2⟩:=eqS_iff.1 h;obtain⟨k1,k2⟩:=eqS_iff.1 k;rw [jnS_eq,jnS_eq];unfold Hs;rw [h1,h2,k1,k2]
theorem vd_srt {S:Sx}(h:Vd S):FSrt (fS S):=flat_srt S.n (ok_okTo h)
theorem vd_sorted {S:Sx}(h:Vd S):S.l.Pairwise (fun a b=>cmpL a b<0):=by
 refine List.pairwise_iff_getElem.2 fun i j hi hj hij=> ?_;have:=h.2.2.1.lt j hij hj;have e1:gL S.l i=S.l[i]:=by simp [gL,List.getD,hi]
 have e2:gL S.l j=S.l[j]:=by simp [gL,List.getD,hj]
 rw [e1,e2] at this;exact this
theorem vd_has {S:Sx}(h:Vd S){z:Lf}(hz:z∈S.l):Hs S z:=hasX_RI.1 (ok_has h z hz)
section
variable {S S' S2 : Sx}
theorem jn_in {z:Lf}:z∈(jnS S S').l↔(z∈S.l/\ (z∈S'.l \/¬Hs S' z)) \/(z∈S'.l/\¬Hs S z):=by rw [jnS_eq];exact jnL_mem
theorem jn_u (h:Vd S)(h':Vd S'):FSrt (fS (jnS S S'))/\∀y x,RI (fS (jnS S S')) y x↔(RI (fS S) y x \/RI (fS S') y x):=by
 rw [jnS_eq,fS_mk];exact unF_ok _ _ (vd_srt h) (vd_srt h').2
theorem jn_Hs (h:Vd S)(h':Vd S'){z:Lf}:Hs (jnS S S') z↔Hs S z \/Hs S' z:=(jn_u h h').2 _ _
theorem jnF_iff:jnF S S'=true↔(jnS S S').l.length<=1000/\ (jnS S S').n<=1000:=by unfold jnF;rw [Bool.and_eq_true,decide_eq_true_eq,decide_eq_true_eq]
theorem jn_vd (h:Vd S)(h':Vd S')(hf:jnF S S'=true):Vd (jnS S S'):=by
 obtain⟨f1,f2⟩:=jnF_iff.1 hf;have hu:=(jn_u h h').1;rw [jnS_eq,fS_mk] at hu;refine⟨ctxB_iff.2 ⟨?_,f2⟩,f1,?_,jn_dis h.w h'.w⟩
 ·rw [jnS_eq];exact gR_okTo hu
 ·refine jn_ok h.w h'.w (fun z hz=> ?_);rw [Hs_has,Hs_has] at hz;rw [Hs_has];exact(jn_Hs h h').2 hz
theorem jn_comm (h:Vd S)(h':Vd S'):EqS (jnS S S') (jnS S' S):=by
 refine eqS_iff.2 ⟨lfs_uniq (jn_sorted h.w h'.w) (jn_sorted h'.w h.w) (fun z=> ?_),uniq (jn_u h h').1 (jn_u h' h).1 (fun r x=> ?_)⟩
 ·show z∈(jnS S S').l↔z∈(jnS S' S).l;rw [jn_in,jn_in];have a:=@vd_has _ h z;have b:=@vd_has _ h' z;by_cases p1:z∈S.l<;>by_cases p2:z∈S'.l<;>by_cases p3:Hs S z<;>by_cases p4:Hs S' z<;>simp [p1,p2,p3,p4]
 ·rw [(jn_u h h').2,(jn_u h' h).2];exact Or.comm
theorem jn_assoc (h:Vd S)(h':Vd S')(h2:Vd S2)(hf:jnF S S'=true)(hf2:jnF S' S2=true):EqS (jnS (jnS S S') S2) (jnS S (jnS S' S2)):=by
 have v:=jn_vd h h' hf;have v2:=jn_vd h' h2 hf2;refine eqS_iff.2 ⟨lfs_uniq (jn_sorted v.w h2.w) (jn_sorted h.w v2.w) (fun z=> ?_),uniq (jn_u v h2).1 (jn_u h v2).1 (fun r x=> ?_)⟩
 ·show z∈(jnS (jnS S S') S2).l↔z∈(jnS S (jnS S' S2)).l;rw [jn_in,jn_in,jn_in,jn_in,jn_Hs h h',jn_Hs h' h2];have a:=@vd_has _ h z;have b:=@vd_has _ h' z;have c:=@vd_has _ h2 z;by_cases p1:z∈S.l<;>by_cases p2:z∈S'.l<;>by_cases p3:z∈S2.l<;>by_cases p4:Hs S z<;>by_cases p5:Hs S' z<;>by_cases p6:Hs S2 z<;>simp_all
 ·rw [(jn_u v h2).2,(jn_u h v2).2,(jn_u h h').2,(jn_u h' h2).2,or_assoc]
theorem jn_idem (h:Vd S):EqS (jnS S S) S:=by
 refine eqS_iff.2 ⟨lfs_uniq (jn_sorted h.w h.w) (vd_sorted h) (fun z=> ?_),uniq (jn_u h h).1 (vd_srt h) (fun r x=> ?_)⟩
 ·show z∈(jnS S S).l↔_;rw [jn_in];have a:=@vd_has _ h z;by_cases p1:z∈S.l<;>simp_all
 ·rw [(jn_u h h).2,or_self]
theorem mt_vd:Vd Sx.mt:=⟨ctxB_iff.2 ⟨fun i hi=>absurd hi (Nat.not_lt_zero _),Nat.zero_le _⟩,Nat.zero_le _,fun i hi=>absurd hi (Nat.not_lt_zero _),fun i hi=>absurd hi (Nat.not_lt_zero _)⟩
theorem jn_mt (h:Vd S):EqS (jnS Sx.mt S) S:=by
 have m:∀r x,¬RI (fS Sx.mt) r x:=fun r x ⟨p,hp,_⟩=>by simp [fS,flat,Sx.mt] at hp
 refine eqS_iff.2 ⟨lfs_uniq (jn_sorted mt_vd.w h.w) (vd_sorted h) (fun z=> ?_),uniq (jn_u mt_vd h).1 (vd_srt h) (fun r x=> ?_)⟩
 ·show z∈(jnS Sx.mt S).l↔_;rw [jn_in];have e:¬z∈Sx.mt.l:=by simp [Sx.mt]
  simp [e,show¬Hs Sx.mt z from m _ _]
 ·rw [(jn_u mt_vd h).2];simp [m]
theorem jnB_iff:jnB S S'=true↔Vd S/\ Vd S'/\ jnF S S'=true:=by
 unfold jnB;rw [Bool.and_eq_true,Bool.and_eq_true];exact⟨fun h=>⟨stB_t h.1.1,stB_t h.1.2,h.2⟩,fun h=>⟨⟨yes_t h.1,yes_t h.2.1⟩,h.2.2⟩⟩
theorem jnF_congr {A B:Sx}(h:EqS (jnS S S') (jnS A B))(hf:jnF A B=true):jnF S S'=true:=by
 obtain⟨f1,f2⟩:=jnF_iff.1 hf;exact jnF_iff.2 ⟨by rw [h.1];exact f1,by rw [h.2.1];exact f2⟩
theorem jnF_of {A:Sx}(h:EqS (jnS S S') A)(hv:Vd A):jnF S S'=true:=jnF_iff.2 ⟨by rw [h.1];exact hv.2.1,by rw [h.2.1];exact(ctxB_iff.1 hv.1).2⟩
theorem jn_self (h:Vd S):jnB S S=true:=jnB_iff.2 ⟨h,h,jnF_of (jn_idem h) h⟩
theorem jn_above (hb:jnB S S'=true):EqS (jnS S (jnS S S')) (jnS S S'):=by
 obtain⟨h,h',hf⟩:=jnB_iff.1 hb;have:=jn_assoc h h h' (jnF_of (jn_idem h) h) hf;rw [jn_congr (jn_idem h) (EqS.refl S')] at this;exact this.symm
theorem am_t {A B:Sx}(h:Vd A)(h':Vd B)(e:EqS (jnS A B) B):amB A B=true:=by
 have hb:jnB A B=true:=jnB_iff.2 ⟨h,h',jnF_of e h'⟩;unfold amB;rw [hb,jnZ_t hb,yes_t e];rfl
theorem am_l (hb:jnB S S'=true):amB S (jnS S S')=true:=by
 obtain⟨h,h',hf⟩:=jnB_iff.1 hb;exact am_t h (jn_vd h h' hf) (jn_above hb)
theorem jnB_comm (hb:jnB S S'=true):jnB S' S=true:=by
 obtain⟨h,h',hf⟩:=jnB_iff.1 hb;exact jnB_iff.2 ⟨h',h,jnF_congr (jn_comm h' h) hf⟩
theorem am_r (hb:jnB S S'=true):amB S' (jnS S S')=true:=by
 obtain⟨h,h',hf⟩:=jnB_iff.1 hb;refine am_t h' (jn_vd h h' hf) ?_;rw [jn_congr (EqS.refl S') (jn_comm h h')];exact(jn_above (jnB_comm hb)).trans (jn_comm h' h)
end
theorem fnJoin {A B C:Sx}(hab:jnB A B=true)(h1:jnB (jnS A B) C=true)(h2:jnB B C=true):
  (jnB B A=true/\ jnB A (jnS B C)=true/\ jnB A A=true)/\ (EqS (jnS A B) (jnS B A)/\ EqS (jnS (jnS A B) C) (jnS A (jnS B C))/\ EqS (jnS A A) A)/\ amB A (jnS A B)=true/\ amB B (jnS A B)=true/\ amB (jnS A B) (jnS (jnS A B) C)=true:=by
 obtain⟨a,b,f⟩:=jnB_iff.1 hab;obtain⟨_,c,f1⟩:=jnB_iff.1 h1;obtain⟨_,_,f2⟩:=jnB_iff.1 h2;have ha:=jn_assoc a b c f f2;exact⟨⟨jnB_comm hab,jnB_iff.2 ⟨a,jn_vd b c f2,jnF_congr ha.symm f1⟩,jn_self a⟩,⟨jn_comm a b,ha,jn_idem a⟩,am_l hab,am_r hab,am_l h1⟩
noncomputable def chJ (X:Nat ->Sx):Nat ->List Sx
 | 0=>[Sx.mt]
 | i+1=>chJ X i++(chJ X i).map fun Y=>jnS Y (X i)
def AllJ (X:Nat ->Sx)(n:Nat):Prop:=∀i,i<n ->∀Y∈chJ X i,jnB Y (X i)=true
theorem allJ3 {X:Nat ->Sx}(h:AllJ X 3):jnB (jnS (X 0) (X 1)) (X 2)=true/\ jnB (X 1) (X 2)=true:=by
 have a:=h 0 (by omega) Sx.mt (by simp [chJ]);have b:=h 1 (by omega) Sx.mt (by simp [chJ]);have ab:=h 1 (by omega) (jnS Sx.mt (X 0)) (by simp [chJ]);have bc:=h 2 (by omega) (jnS Sx.mt (X 1)) (by simp [chJ]);have abc:=h 2 (by omega) (jnS (jnS Sx.mt (X 0)) (X 1)) (by simp [chJ]);obtain⟨_,va,_⟩:=jnB_iff.1 a;obtain⟨_,vb,_⟩:=jnB_iff.1 b;obtain⟨_,vc,fbc⟩:=jnB_iff.1 bc;have e1:=jn_congr (jn_mt va) (EqS.refl (X 1));rw [e1] at abc;have fb:jnF (X 1) (X 2)=true:=by
  refine jnF_congr ?_ fbc;rw [jn_congr (jn_mt vb) (EqS.refl (X 2))];exact EqS.refl _
 exact⟨abc,jnB_iff.2 ⟨vb,vc,fb⟩⟩
end Go.Proofs.YtpfmeafmepgimaaGreat
namespace Go.Proofs.YtpfmeafmepgimaaGreat
open Go.ChangeShapes Go.WideShapes Go.ChangeAt Go.RowKit Go.Maps Go.Sort
def OffR (w:World)(B:Nat)(v:Value)(l:List Rn):Prop:=OffV w B 3 v l.length (fCells l)
theorem fr_key:∀(l:List Rn) (i:Nat),i<l.length ->(fCells l)[i*3]? =some (.int .i64 (gR l i).1)/\ (fCells l)[i*3+1]? =some (.int .i64 (gR l i).2.1)/\ (fCells l)[i*3+2]? =some (.int .i64 (gR l i).2.2)
 | [],i,hi=>by simp at hi
 | a::l,0,hi=>by simp [fCells,gR]
 | a::l,i+1,hi=>by
  have:=fr_key l i (by simpa using hi);have e:fCells (a::l)=.int .i64 a.1::.int .i64 a.2.1::.int .i64 a.2.2::fCells l:=by simp [fCells]
  rw [e,show (i+1)*3=i*3+1+1+1 from by omega];simpa [gR] using this
theorem OffR.fs {w:World}{B:Nat}{v:Value}{l:List Rn}(h:OffR w B v l):∃g off c,v=.slice (some ⟨g,off,none⟩) l.length c/\ FS w (some ⟨g,off,none⟩) l/\ l.length<=c/\ c<=9223372036854775807/\ B<=g/\ g<w.heap.size:=by
 obtain⟨g,off,c,e,hB,hg,hn,hc,hl,h1,h2,h3⟩:=h;refine⟨g,off,c,e,.inr ⟨g,off,rfl,hg,fun i hi=> ?_⟩,hn,by unfold maxLen at hc;omega,hB,hg⟩;obtain⟨k0,k1,k2⟩:=fr_key l i hi;rw [h1 _ (by omega),Nat.add_assoc,h1 _ (by omega),Nat.add_assoc,h1 _ (by omega)];exact⟨k0,k1,k2⟩
def BRn (l:List Rn):Prop:=∀p∈l,0<=p.1/\ p.1<=7/\ 0<=p.2.1/\ p.2.1<=1000000000/\ 0<=p.2.2/\ p.2.2<=1000000000
theorem FSrt.br {l:List Rn}(h:FSrt l):BRn l:=fun p hp=>by
 have:=h.2 p hp;unfold Rok at this;omega
theorem cell3A (w:World)(a b c:Value)(t:TypeId):∀j u,[a,b,c][j]? =some u ->(w.alloc (.cells #[a,b,c] t)).cell? ((⟨w.heap.size,0,none⟩:Addr).add j)=some u:=by
 intro j u hj;match j,hj with
 | 0,hj=>simp at hj;subst hj;simp [Addr.add]
 | 1,hj=>simp at hj;subst hj;simp [Addr.add]
 | 2,hj=>simp at hj;subst hj;simp [Addr.add]
theorem OffV.put1 {w:World}{B size g off n c:Nat}{xs:List Value}(h:OffV w B size (.slice (some ⟨g,off,none⟩) n c) n xs)(j:Nat)(hj:j<n*size)(a:Value):OffV (w.setCell ⟨g,off+j,none⟩ a) B size (.slice (some ⟨g,off,none⟩) n c) n (xs.set j a):=by
 obtain⟨g',off',c',e,hB,hg,hn,hc,hl,h1,h2,h3⟩:=h;injection e with e1 _ e3;injection e1 with e1;injection e1 with e1 e2 _;subst e1 e2 e3;have hcs:n*size<=c*size:=Nat.mul_le_mul_right _ hn;have hsome:∃u,w.cell? ⟨g,off+j,none⟩=some u:=Option.isSome_iff_exists.1 (h2 j (by omega));obtain⟨u,hu⟩:=hsome;refine⟨g,off,c,rfl,hB,by simp [World.setCell];exact hg,hn,hc,by simp [hl],fun t ht=> ?_,fun t ht=> ?_,fun t ht=> ?_⟩
 ·by_cases htj:t=j
  ·subst htj;rw [World.cell?_setCell_same _ _ _ hu,List.getElem?_set_self (by omega)]
  ·rw [World.cell?_setCell_other _ _ _ _ (by intro e;injection e with _ e;omega),List.getElem?_set_ne (fun e=>htj e.symm)];exact h1 t ht
 ·by_cases htj:t=j
  ·subst htj;rw [World.cell?_setCell_same _ _ _ hu];rfl
  ·rw [World.cell?_setCell_other _ _ _ _ (by intro e;injection e with _ e;omega)];exact h2 t ht
 ·rw [World.frozen?_setCell];exact h3 t ht
theorem fCells_set:∀(l:List Rn) (i:Nat) (a b c:Int),fCells (l.set i (a,b,c))=(((fCells l).set (i*3) (.int .i64 a)).set (i*3+1) (.int .i64 b)).set (i*3+2) (.int .i64 c)
 | [],i,a,b,c=>by simp [fCells]
 | p::l,0,a,b,c=>by simp [fCells]
 | p::l,i+1,a,b,c=>by
  have e:∀q:Rn,∀m:List Rn,fCells (q::m)=.int .i64 q.1::.int .i64 q.2.1::.int .i64 q.2.2::fCells m:=fun q m=>by simp [fCells]
  rw [List.set_cons_succ,e,e,fCells_set l i a b c,show (i+1)*3=i*3+1+1+1 from by omega];simp [List.set_cons_succ]
theorem OffR.put {w:World}{B g off c:Nat}{l:List Rn}(h:OffR w B (.slice (some ⟨g,off,none⟩) l.length c) l)(i:Nat)(hi:i<l.length)(a b d:Int):
  OffR (((w.setCell ⟨g,off+i*3,none⟩ (.int .i64 a)).setCell ⟨g,off+i*3+1,none⟩ (.int .i64 b)).setCell ⟨g,off+i*3+2,none⟩ (.int .i64 d)) B (.slice (some ⟨g,off,none⟩) l.length c) (l.set i (a,b,d)):=by
 have h1:=OffV.put1 h (i*3) (by omega) (.int .i64 a);have h2:=OffV.put1 h1 (i*3+1) (by omega) (.int .i64 b);have h3:=OffV.put1 h2 (i*3+2) (by omega) (.int .i64 d);unfold OffR;rw [List.length_set,fCells_set];exact h3
structure FrB (w w':World)(C rb:Nat):Prop where
 os:w'.os=w.os
 tape:w'.tape=w.tape
 output:w'.output=w.output
 size:w.heap.size<=w'.heap.size
 block:∀k,k<C ->k≠rb ->w'.heap[k]? =w.heap[k]?
def BSn (l:List Rn):Prop:=∀p∈l, -100<=p.1/\ p.1<=100/\ -100<=p.2.1/\ p.2.1<=2000000000/\ -100<=p.2.2/\ p.2.2<=2000000000
theorem BRn.bs {l:List Rn}(h:BRn l):BSn l:=fun p hp=>by have:=h p hp;omega
theorem BSn.set {l:List Rn}(h:BSn l)(i:Nat)(a b c:Int)(h0: -100<=a/\ a<=100/\ -100<=b/\ b<=2000000000/\ -100<=c/\ c<=2000000000):BSn (l.set i (a,b,c)):=fun p hp=>by
 rcases List.mem_or_eq_of_mem_set hp with hp|hp
 ·exact h p hp
 ·subst hp;exact h0
theorem BSn.snoc {l:List Rn}(h:BSn l)(a b c:Int)(h0: -100<=a/\ a<=100/\ -100<=b/\ b<=2000000000/\ -100<=c/\ c<=2000000000):BSn (l++[(a,b,c)]):=fun p hp=>by
 rcases List.mem_append.1 hp with hp|hp
 ·exact h p hp
 ·simp at hp;subst hp;exact h0
theorem OffR.lit1 (w:World)(B:Nat)(hB:B<=w.heap.size)(a b c:Int):OffR (w.alloc (.cells #[.int .i64 a,.int .i64 b,.int .i64 c] 87)) B (.slice (some ⟨w.heap.size,0,none⟩) 1 1) [(a,b,c)]:=by
 refine⟨w.heap.size,0,1,rfl,hB,by simp,Nat.le_refl _,by unfold maxLen;omega,rfl,fun j hj=> ?_,fun j hj=> ?_,fun j hj=> ?_⟩
 ·have hj':j<3:=by simpa using hj
  rw [Nat.zero_add];match j,hj' with
  | 0,_=>simp [fCells]
  | 1,_=>simp [fCells]
  | 2,_=>simp [fCells]
 ·have hj':j<3:=by simpa using hj
  rw [Nat.zero_add];match j,hj' with
  | 0,_=>simp
  | 1,_=>simp
  | 2,_=>simp
 ·simp
theorem OffR.at {w:World}{B g off c n:Nat}{l:List Rn}(h:OffR w B (.slice (some ⟨g,off,none⟩) n c) l)(i:Nat)(hi:i<l.length):
  (w.cell? ⟨g,off+i*3,none⟩=some (.int .i64 (gR l i).1)/\ w.cell? ⟨g,off+i*3+1,none⟩=some (.int .i64 (gR l i).2.1)/\ w.cell? ⟨g,off+i*3+2,none⟩=some (.int .i64 (gR l i).2.2))/\ w.frozen? ⟨g,off+i*3,none⟩=false/\ w.frozen? ⟨g,off+i*3+1,none⟩=false/\ w.frozen? ⟨g,off+i*3+2,none⟩=false:=by
 obtain⟨g',off',c',e,hB,hg,hn,hc,hl,h1,h2,h3⟩:=h;injection e with e1 _ e3;injection e1 with e1;injection e1 with e1 e2 _;subst e1 e2 e3;obtain⟨k0,k1,k2⟩:=fr_key l i hi;have hcs:l.length*3<=c*3:=Nat.mul_le_mul_right _ hn;refine⟨⟨(h1 _ (by omega)).trans k0,?_,?_⟩,h3 _ (by omega),?_,?_⟩
 ·rw [Nat.add_assoc];exact(h1 _ (by omega)).trans k1
 ·rw [Nat.add_assoc];exact(h1 _ (by omega)).trans k2
 ·rw [Nat.add_assoc];exact h3 _ (by omega)
 ·rw [Nat.add_assoc];exact h3 _ (by omega)
theorem spoil_end {w1:World}{C g off c ii b4:Nat}{l:List Rn}(h:OffR w1 C (.slice (some ⟨g,off,none⟩) l.length c) l)(hi:ii<l.length)(m1:w1.cell? ⟨b4,0,none⟩=some (.slice none 0 0))(hg:g≠b4)(hC:C<=b4)(hz:b4<w1.heap.size)(a b d:Int)(o:Obj):
  OffR (((((w1.setCell ⟨g,off+ii*3,none⟩ (.int .i64 a)).setCell ⟨g,off+ii*3+1,none⟩ (.int .i64 b)).setCell ⟨g,off+ii*3+2,none⟩ (.int .i64 d)).setCell ⟨b4,0,none⟩ (.slice (some ⟨g,off,none⟩) l.length c)).alloc o) C (.slice (some ⟨g,off,none⟩) l.length c) (l.set ii (a,b,d))/\
  Below C w1 (((((w1.setCell ⟨g,off+ii*3,none⟩ (.int .i64 a)).setCell ⟨g,off+ii*3+1,none⟩ (.int .i64 b)).setCell ⟨g,off+ii*3+2,none⟩ (.int .i64 d)).setCell ⟨b4,0,none⟩ (.slice (some ⟨g,off,none⟩) l.length c)).alloc o)/\
  (((((w1.setCell ⟨g,off+ii*3,none⟩ (.int .i64 a)).setCell ⟨g,off+ii*3+1,none⟩ (.int .i64 b)).setCell ⟨g,off+ii*3+2,none⟩ (.int .i64 d)).setCell ⟨b4,0,none⟩ (.slice (some ⟨g,off,none⟩) l.length c)).alloc o).cell? ⟨b4,0,none⟩=some (.slice (some ⟨g,off,none⟩) l.length c):=by
 obtain⟨g',e1,hCg,_⟩:=OffV.lt h;have e1':g=g':=by simpa [Value.ownBlock] using e1
 subst e1';have hp:=h.put ii hi a b d;obtain⟨W,hW⟩:∃W,((w1.setCell ⟨g,off+ii*3,none⟩ (.int .i64 a)).setCell ⟨g,off+ii*3+1,none⟩ (.int .i64 b)).setCell ⟨g,off+ii*3+2,none⟩ (.int .i64 d)=W:=⟨_,rfl⟩;have bW:Below C w1 W:=by rw [<- hW];exact(((Below.refl _ _).setCell (p:=⟨g,off+ii*3,none⟩) hCg _).setCell (p:=⟨g,off+ii*3+1,none⟩) hCg _).setCell (p:=⟨g,off+ii*3+2,none⟩) hCg _
 have zW:W.heap.size=w1.heap.size:=by rw [<- hW];simp [World.setCell]
 have mW:W.cell? ⟨b4,0,none⟩=some (.slice none 0 0):=by
  rw [<- hW];have q:∀(X:World) (o:Nat) (u:Value),(X.setCell ⟨g,o,none⟩ u).cell? ⟨b4,0,none⟩=X.cell? ⟨b4,0,none⟩:=fun X o u=>World.cell?_setCell_other _ _ _ _ (fun e=>hg (by injection e));rw [q,q,q];exact m1
 rw [hW] at hp ⊢;have hs:W.grownBy (W.setCell ⟨b4,0,none⟩ (.slice (some ⟨g,off,none⟩) l.length c)) (some b4):=⟨rfl,rfl,rfl,by simp [World.setCell],fun k hk hne=>Below.heap_setCell _ _ _ _ (fun e=>hne (by rw [e]))⟩;have zS:(W.setCell ⟨b4,0,none⟩ (.slice (some ⟨g,off,none⟩) l.length c)).heap.size=w1.heap.size:=by rw [<- zW];simp [World.setCell]
 have bA:=(Below.refl w1.heap.size (W.setCell ⟨b4,0,none⟩ (.slice (some ⟨g,off,none⟩) l.length c))).alloc (by rw [zS];exact Nat.le_refl _) o;refine⟨OffV.below (OffV.gr hp hs (fun e=>by simp [Value.ownBlock] at e;exact hg e)) bA (by rw [zS];exact Nat.le_refl _),(bW.setCell (p:=⟨b4,0,none⟩) hC _).alloc (by rw [zS];omega) o,?_⟩;exact(bA.cell (p:=⟨b4,0,none⟩) hz).trans (World.cell?_setCell_same _ _ _ mW)
theorem spoil_end2 {w1:World}{C g off c ii b4:Nat}{l:List Rn}(h:OffR w1 C (.slice (some ⟨g,off,none⟩) l.length c) l)(hi:ii<l.length)(m1:w1.cell? ⟨b4,0,none⟩=some (.slice none 0 0))(hg:g≠b4)(hC:C<=b4)(a b d:Int):
  OffR ((((w1.setCell ⟨g,off+ii*3,none⟩ (.int .i64 a)).setCell ⟨g,off+ii*3+1,none⟩ (.int .i64 b)).setCell ⟨g,off+ii*3+2,none⟩ (.int .i64 d)).setCell ⟨b4,0,none⟩ (.slice (some ⟨g,off,none⟩) l.length c)) C (.slice (some ⟨g,off,none⟩) l.length c) (l.set ii (a,b,d))/\
  Below C w1 ((((w1.setCell ⟨g,off+ii*3,none⟩ (.int .i64 a)).setCell ⟨g,off+ii*3+1,none⟩ (.int .i64 b)).setCell ⟨g,off+ii*3+2,none⟩ (.int .i64 d)).setCell ⟨b4,0,none⟩ (.slice (some ⟨g,off,none⟩) l.length c))/\
  ((((w1.setCell ⟨g,off+ii*3,none⟩ (.int .i64 a)).setCell ⟨g,off+ii*3+1,none⟩ (.int .i64 b)).setCell ⟨g,off+ii*3+2,none⟩ (.int .i64 d)).setCell ⟨b4,0,none⟩ (.slice (some ⟨g,off,none⟩) l.length c)).cell? ⟨b4,0,none⟩=some (.slice (some ⟨g,off,none⟩) l.length c):=by
 obtain⟨g',e1,hCg,_⟩:=OffV.lt h;have e1':g=g':=by simpa [Value.ownBlock] using e1
 subst e1';have hp:=h.put ii hi a b d;obtain⟨W,hW⟩:∃W,((w1.setCell ⟨g,off+ii*3,none⟩ (.int .i64 a)).setCell ⟨g,off+ii*3+1,none⟩ (.int .i64 b)).setCell ⟨g,off+ii*3+2,none⟩ (.int .i64 d)=W:=⟨_,rfl⟩;have bW:Below C w1 W:=by rw [<- hW];exact(((Below.refl _ _).setCell (p:=⟨g,off+ii*3,none⟩) hCg _).setCell (p:=⟨g,off+ii*3+1,none⟩) hCg _).setCell (p:=⟨g,off+ii*3+2,none⟩) hCg _
 have mW:W.cell? ⟨b4,0,none⟩=some (.slice none 0 0):=by
  rw [<- hW];have q:∀(X:World) (o:Nat) (u:Value),(X.setCell ⟨g,o,none⟩ u).cell? ⟨b4,0,none⟩=X.cell? ⟨b4,0,none⟩:=fun X o u=>World.cell?_setCell_other _ _ _ _ (fun e=>hg (by injection e));rw [q,q,q];exact m1
 rw [hW] at hp ⊢;have hs:W.grownBy (W.setCell ⟨b4,0,none⟩ (.slice (some ⟨g,off,none⟩) l.length c)) (some b4):=⟨rfl,rfl,rfl,by simp [World.setCell],fun k hk hne=>Below.heap_setCell _ _ _ _ (fun e=>hne (by rw [e]))⟩;exact⟨OffV.gr hp hs (fun e=>by simp [Value.ownBlock] at e;exact hg e),bW.setCell (p:=⟨b4,0,none⟩) hC _,World.cell?_setCell_same _ _ _ mW⟩
theorem step_app_off {P:Program}{w:World}{ops:Array Oper}{o:Oper}{a:Act}{K:Act ->World ->Prop}{Q:Exit ->Act ->World ->Prop}{E:Prop}(hgd:o.guard=none)(s x:Operand)(t:TypeId)
  (ho:o.op=.call {callee:=.builtin .append,args:=#[s,x],argTypes:=#[t,t]})
  (base:Nat) (e:TypeId) (i:TypeInfo) (z:Value) (size bytes:Nat) (ht:P.underlying t=some (.slice e)) (hi:P.info? e=some i) (hz:i.zero=some z)
  (hsize:i.size=size) (hby:i.bytes=bytes) (hzs:z.cells.size=size)
  (v:Value) (n:Nat) (xs:List Value) (hs:a.eval s=v) (hown:OffV w base size v n xs)
  (ad:Addr) (m c:Nat) (news:List Value) (hx:a.eval x=.slice (some ad) m c) (hl:news.length=m*size) (hnews:∀j u,news[j]? =some u ->w.cell? (ad.add j)=some u) (h1:∀u∈news,u.oneCell'=true)
  (h63:n+m<=maxLen) (hbytes:(n+m)*bytes<=140737488355328) (hbase:base<=w.heap.size)
  (h:∀g' o' c' w',OffV w' base size (.slice (some ⟨g',o',none⟩) (n+m) c') (n+m) (xs++news) ->w.grownBy w' v.ownBlock ->(some g'=v.ownBlock \/some g'=some w.heap.size) ->K (a.put o.dst (.slice (some ⟨g',o',none⟩) (n+m) c')) w'):
  if Region.wanted o (yielded ops a.tmps)=true then Oper.wp P o a w K Q else E:=by
 have hw:Region.wanted o (yielded ops a.tmps)=true:=by simp [Region.wanted,hgd]
 rw [if_pos hw];refine wp_app_off s x t ho base e i z size bytes ht hi hz hsize hby hzs v n xs hs hown ad m c news hx hl hnews h1 h63 hbytes hbase (fun v' w' h2 h3 h4=> ?_);obtain⟨g',o',c',rfl,r⟩:=h2;exact h g' o' c' w' ⟨g',o',c',rfl,r⟩ h3 (h4.imp id id)
theorem spoil_mid {W2 w7:World}{C b3 b4 b7 g g7 o7 c7 ii:Nat}{L:List Rn}{u3 p0 p1 p2:Value}(hg:W2.grownBy w7 (some g))(ho:OffR w7 C (.slice (some ⟨g7,o7,none⟩) L.length c7) L)(hl:g7=g \/W2.heap.size<=g7)(h3:b3<W2.heap.size)(h4:b4<W2.heap.size)(h7:b7<W2.heap.size)(n3:g≠b3)(n4:g≠b4)(n7:g≠b7)(n34:b3≠b4)(n37:b3≠b7)(hC3:C<=b3)(hCg:C<=g)(hCW:C<=W2.heap.size)
  (c3:W2.cell? ⟨b3,0,none⟩=some u3) (f3:W2.frozen? ⟨b3,0,none⟩=false) (c4:W2.cell? ⟨b4,0,none⟩=some (.slice none 0 0)) (f4:W2.frozen? ⟨b4,0,none⟩=false) (q0:W2.cell? ⟨b7,0,none⟩=some p0) (q1:W2.cell? ⟨b7,1,none⟩=some p1) (q2:W2.cell? ⟨b7,2,none⟩=some p2):
  (w7.cell? ⟨b3,0,none⟩=some u3/\ w7.frozen? ⟨b3,0,none⟩=false/\ g7≠b4/\ g7≠b3)/\∀W8,w7.setCell ⟨b3,0,none⟩ (.slice (some ⟨g7,o7,none⟩) L.length c7)=W8 ->
   W8.cell? ⟨b3,0,none⟩=some (.slice (some ⟨g7,o7,none⟩) L.length c7)/\ W8.cell? ⟨b4,0,none⟩=some (.slice none 0 0)/\ W8.frozen? ⟨b4,0,none⟩=false/\ W8.cell? ⟨b7,0,none⟩=some p0/\ W8.cell? ⟨b7,1,none⟩=some p1/\ W8.cell? ⟨b7,2,none⟩=some p2/\ OffR W8 C (.slice (some ⟨g7,o7,none⟩) L.length c7) L/\ Below C W2 W8:=by
 have e3:=hg.block b3 h3 (fun e=>n3 (by injection e with e;exact e.symm));have e4:=hg.block b4 h4 (fun e=>n4 (by injection e with e;exact e.symm));have e7:=hg.block b7 h7 (fun e=>n7 (by injection e with e;exact e.symm));have d3:=(World.cell?_of_block (a:=⟨b3,0,none⟩) e3).trans c3;refine⟨⟨d3,(World.frozen?_of_block (a:=⟨b3,0,none⟩) e3).trans f3,by rcases hl with h|h<;>omega,by rcases hl with h|h<;>omega⟩,?_⟩;rintro W8 rfl;have q:∀(b o:Nat) (u:Value),b3≠b ->(w7.setCell ⟨b3,0,none⟩ u).cell? ⟨b,o,none⟩=w7.cell? ⟨b,o,none⟩:=fun b o u hb=>World.cell?_setCell_other _ _ _ _ (fun e=>hb (by injection e));have hs:∀u,w7.grownBy (w7.setCell ⟨b3,0,none⟩ u) (some b3):=fun u=>⟨rfl,rfl,rfl,by simp [World.setCell],fun k hk hne=>Below.heap_setCell _ _ _ _ (fun e=>hne (by rw [e]))⟩;have b27:Below C W2 w7:=(Below.refl _ _).grown hg hCW (fun k e=>by injection e with e;omega);refine⟨World.cell?_setCell_same _ _ _ d3,?_,?_,?_,?_,?_,OffV.gr ho (hs _) (fun e=>by simp [Value.ownBlock] at e;rcases hl with h|h<;>omega),b27.setCell (p:=⟨b3,0,none⟩) hC3 _⟩
 ·rw [q _ _ _ n34];exact(World.cell?_of_block (a:=⟨b4,0,none⟩) e4).trans c4
 ·rw [World.frozen?_setCell];exact(World.frozen?_of_block (a:=⟨b4,0,none⟩) e4).trans f4
 ·rw [q _ _ _ n37];exact(World.cell?_of_block (a:=⟨b7,0,none⟩) e7).trans q0
 ·rw [q _ _ _ n37];exact(World.cell?_of_block (a:=⟨b7,1,none⟩) e7).trans q1
 ·rw [q _ _ _ n37];exact(World.cell?_of_block (a:=⟨b7,2,none⟩) e7).trans q2
def spR (k:Nat)(p q:Rn)(l:List Rn)(i:Nat):List Rn:=
 if k%8=0 then l.set i (((k/8:Nat):Int) - 8,p.2.1,p.2.2)
 else if k%8=1 then l.set i (p.1,p.2.2+1,p.2.2)
 else if k%8=2 then l.set i (p.1,p.2.1,1000000001)
 else if k%8=3 then l.set i (p.1,0,p.2.2)
 else if k%8=4 then(l++[(p.1,p.2.2+1,p.2.2+2)]).set i p
 else if k%8=5 then(l++[p]).set i p
 else if k%8=6 then(l++[q]).set i p
 else l.set i (p.1,p.2.1 - 1,p.2.2)
def spF (k:Nat)(l:List Rn):List Rn:=if l.length=0 then [(0,0,(k:Int))] else spR k (gR l (k/8%l.length)) (gR l 0) l (k/8%l.length)
theorem spF_ok {k:Nat}{l:List Rn}(hk:k<256)(h:BRn l):(spF k l).length<=l.length+1/\ BSn (spF k l):=by
 unfold spF;split
 ·exact⟨by simp,fun p hp=>by simp at hp;subst hp;simp only;omega⟩
 ·rename_i h0;have hi:k/8%l.length<l.length:=Nat.mod_lt _ (by omega);have hp:=h _ (gR_mem hi);have hq:=h _ (gR_mem (show 0<l.length by omega));generalize k/8%l.length=i at hi hp ⊢;generalize gR l i=p at hp ⊢;generalize gR l 0=q at hq ⊢;obtain⟨p1,p2,p3⟩:=p;obtain⟨q1,q2,q3⟩:=q;simp only at hp hq;have b8:=h.bs;unfold spR;repeat' split
  all_goals refine⟨by simp,?_⟩
  all_goals first|exact b8.set i _ _ _ (by first|omega|(simp only;omega))|exact(b8.snoc _ _ _ (by first|omega|(simp only;omega))).set i _ _ _ (by first|omega|(simp only;omega))
theorem spoilJ (B rb C:Nat)(f:Nat ->Int)(n x:Nat)(v:Value)(l:List Rn)(w:World)(h:RdJ w B rb f n x)(hB:B<=C)(hC:C<=w.heap.size)(C0:Nat)(ho:OffR w C0 v l)(h0:l.length=0 \/C0=C)(hB0:B<=C0)(hl:l.length<=1001)(hbr:BRn l):
  Calls Tryz.prog 54 #[.pointer (some ⟨rb,0,none⟩),.agg #[v]] w fun e w'=>∃v',e=.returned (.agg #[v'])/\ OffR w' C v' (spF (rk f n x) l)/\ RdJ w' B rb f n (rx n x)/\ FrB w w' C rb:=by
 obtain⟨k,hkk⟩:∃k,rk f n x=k:=⟨_,rfl⟩;rw [hkk];obtain⟨i0,hi0,iz0,iz1,iz2⟩:=info_parts Tryz.infoRun;obtain⟨g,off,c,rfl,fs0,hc1,hc2,hg0,hg1⟩:=ho.fs;clear fs0;obtain⟨W,hW⟩:∃W,(w.alloc (.cells #[.slice (some ⟨g,off,none⟩) l.length c] 26)).alloc (.cells #[.slice none 0 0] 26)=W:=⟨_,rfl⟩;have bW:Below w.heap.size w W:=by rw [<- hW];exact below2 _ _ _
 have k0:W.cell? ⟨w.heap.size,0,none⟩=some (.slice (some ⟨g,off,none⟩) l.length c):=by rw [<- hW];simp
 have k1:W.cell? ⟨w.heap.size+1,0,none⟩=some (.slice none 0 0):=by rw [<- hW];simp
 have f0:W.frozen? ⟨w.heap.size,0,none⟩=false:=by rw [<- hW];simp
 have f1:W.frozen? ⟨w.heap.size+1,0,none⟩=false:=by rw [<- hW];simp
 have zW:Hid (W.heap.size=w.heap.size+2):=by rw [<- hW];exact hid (by simp)
 have hrb:=h.lt;have HR:=hid (h.below (bW.mono (by omega)));have HO:=hid (OffV.below ho bW (Nat.le_refl _));have HBW:=hid bW;have hk:=rk_lt HR.out;have HNX:=hid (rdNextJ B rb f n x W HR.out);rw [hkk] at hk HNX;clear h bW ho hkk;go_enter Tryz.func54,Tryz.ntmps54;go_wp2_with fail;try rw [hW]
 clear hW;refine HNX.out.mono ?_;rintro e w1 ⟨rfl,r1,g1⟩;have z1:=g1.size;have zz:w.heap.size+1<w1.heap.size:=by have:=zW.out;omega
 have nb:some w.heap.size≠some rb:=fun e=>by injection e with e;omega
 have nb1:some (w.heap.size+1)≠some rb:=fun e=>by injection e with e;omega
 have e1:=g1.block w.heap.size (by have:=zW.out;omega) nb;have e2:=g1.block (w.heap.size+1) (by have:=zW.out;omega) nb1;have m0:=(World.cell?_of_block (a:=⟨w.heap.size,0,none⟩) e1).trans k0;have m1:=(World.cell?_of_block (a:=⟨w.heap.size+1,0,none⟩) e2).trans k1;have y0:=(World.frozen?_of_block (a:=⟨w.heap.size,0,none⟩) e1).trans f0;have y1:=(World.frozen?_of_block (a:=⟨w.heap.size+1,0,none⟩) e2).trans f1;have ho1:OffR w1 C0 (.slice (some ⟨g,off,none⟩) l.length c) l:=OffV.gr HO.out g1 (fun e=>by simp [Value.ownBlock] at e;omega);have HO1:=hid ho1;have key:Hid (∀W3:World,Below C w1 W3 ->RdJ W3 B rb f n (rx n x)/\ FrB w W3 C rb):=hid (fun W3 hb=>by
  refine⟨r1.below (hb.mono hB),hb.os.trans (g1.os.trans HBW.out.os),hb.tape.trans (g1.tape.trans HBW.out.tape),hb.output.trans (g1.output.trans HBW.out.output),Nat.le_trans HBW.out.size (Nat.le_trans g1.size hb.size),fun k hk hne=> ?_⟩;have q:=HBW.out.size;exact(hb.block k hk).trans ((g1.block k (by omega) (fun e=>hne (by injection e))).trans (HBW.out.block k (by omega))))
 have zz0:w.heap.size<w1.heap.size:=by omega
 have zg:g<w1.heap.size:=by have:=HBW.out.size;omega
 have hgn0:g≠w.heap.size:=by omega
 have hgn1:g≠w.heap.size+1:=by omega
 clear r1 g1 e1 e2 k0 k1 f0 f1 HR HO;by_cases hl0:l.length=0
 ·have d0:((l.length:Int)==0)=true:=by rw [hl0];rfl
  have OL:=hid (fun(X:World) (hX:C<=X.heap.size)=>OffR.lit1 X C hX 0 0 (k:Int));go_wp2_with fail;have zS:∀u,(w1.setCell ⟨w.heap.size+1,0,none⟩ u).heap.size=w1.heap.size:=fun u=>by simp [World.setCell]
  have oo:=OL.out (w1.setCell ⟨w.heap.size+1,0,none⟩ (.slice (some ⟨w1.heap.size,0,none⟩) 1 1)) (by rw [zS];omega);rw [zS] at oo;have bA:=(Below.refl w1.heap.size (w1.setCell ⟨w.heap.size+1,0,none⟩ (.slice (some ⟨w1.heap.size,0,none⟩) 1 1))).alloc (by rw [zS];exact Nat.le_refl _) (.cells #[.int .i64 0,.int .i64 0,.int .i64 (k:Int)] 87);have o3:=(bA.cell (p:=⟨w.heap.size+1,0,none⟩) zz).trans (World.cell?_setCell_same _ _ _ m1);obtain⟨q1,q2⟩:=key.out _ (((Below.refl C w1).setCell (p:=⟨w.heap.size+1,0,none⟩) (show C<=w.heap.size+1 by omega) (.slice (some ⟨w1.heap.size,0,none⟩) 1 1)).alloc (by rw [zS];omega) (.cells #[.int .i64 0,.int .i64 0,.int .i64 (k:Int)] 87));refine bodyPost_ret (v:=.agg #[.slice (some ⟨w1.heap.size,0,none⟩) 1 1]) (by simp [results,Tryz.results54,go_sem,o3]) rfl ?_;exact⟨_,rfl,by unfold spF;rw [if_pos hl0];exact oo,q1,q2⟩
 ·obtain rfl:C=C0:=(h0.resolve_left hl0).symm;have d0:((l.length:Int)==0)=false:=by rw [beq_eq_false_iff_ne];omega
  obtain⟨mm,hii⟩:∃mm:Int,(k:Int)/8%(l.length:Int)=mm:=⟨_,rfl⟩;have hm0:0<=mm:=by rw [<- hii];exact Int.emod_nonneg _ (by omega)
  have hm1:mm<(l.length:Int):=by rw [<- hii];exact Int.emod_lt_of_pos _ (by omega)
  obtain⟨ii,rfl⟩:∃ii:Nat,mm=(ii:Int):=⟨mm.toNat,by omega⟩;have hil:ii<l.length:=by omega
  obtain⟨⟨x0,x1,x2⟩,z0,z1',z2⟩:=ho1.at ii hil;have hp:=hbr (gR l ii) (gR_mem hil);obtain⟨pr,hpr⟩:∃pr:Nat,(gR l ii).1=(pr:Int):=⟨((gR l ii).1).toNat,by omega⟩;obtain⟨pf',hpf⟩:∃pf':Nat,(gR l ii).2.1=(pf':Int):=⟨((gR l ii).2.1).toNat,by omega⟩;obtain⟨pt,hpt⟩:∃pt:Nat,(gR l ii).2.2=(pt:Int):=⟨((gR l ii).2.2).toNat,by omega⟩;have HSP:Hid (spF k l=spR k ((pr:Int),(pf':Int),(pt:Int)) (gR l 0) l ii):=hid (by
   have e1:k/8%l.length=ii:=by exact_mod_cast hii
   have e2:gR l ii=((pr:Int),(pf':Int),(pt:Int)):=Prod.ext hpr (Prod.ext hpf hpt);unfold spF;rw [if_neg hl0,e1,e2])
  rw [hpr,hpf,hpt] at hp;rw [hpr] at x0;rw [hpf] at x1;rw [hpt] at x2;have i1:(0:Int)<=(ii:Int):=Int.natCast_nonneg _;have i2:(ii:Int)<(l.length:Int):=by omega
  have nz':¬(l.length:Int)=0:=by omega
  have r1':Int.tmod ((k:Int)/8) (l.length:Int)=(ii:Int):=by rw [Int.tmod_eq_emod_of_nonneg (by omega)];exact hii
  have wii:IntKind.i64.wrap (ii:Int)=(ii:Int):=by rw [IntKind.wrap_i64];omega
  clear ho1 h0;obtain⟨k8,hk8⟩:∃k8:Nat,(k:Int)%8=(k8:Int):=⟨k%8,by omega⟩;have hk87:k8<8:=by omega
  have HK:Hid (k%8=k8):=hid (by omega);match k8,hk87 with
  | 0,_=>
   obtain⟨a,ha⟩:∃a:Int,(k:Int)/8 - 8=a:=⟨_,rfl⟩;have wa:IntKind.i64.wrap ((k:Int)/8 - 8)=a:=by rw [IntKind.wrap_i64];omega
   go_wp2_with fail;obtain⟨o1,o2,o3⟩:=spoil_end HO1.out hil m1 hgn1 (by omega) zz (a) ((pf':Int)) ((pt:Int)) (.cells #[.int .i64 (a),.int .i64 ((pf':Int)),.int .i64 ((pt:Int))] 87);obtain⟨q1,q2⟩:=key.out _ o2;refine bodyPost_ret (v:=.agg #[.slice (some ⟨g,off,none⟩) l.length c]) (by simp [results,Tryz.results54,go_sem,o3]) rfl ?_;exact⟨_,rfl,by rw [HSP.out];unfold spR;rw [if_pos HK.out];rw [show ((k/8:Nat):Int) - 8=a by omega];exact o1,q1,q2⟩
  | 1,_=>
   obtain⟨a,ha⟩:∃a:Int,(pt:Int)+1=a:=⟨_,rfl⟩;have wa:IntKind.i64.wrap ((pt:Int)+1)=a:=by rw [IntKind.wrap_i64];omega
   go_wp2_with fail;obtain⟨o1,o2,o3⟩:=spoil_end HO1.out hil m1 hgn1 (by omega) zz ((pr:Int)) (a) ((pt:Int)) (.cells #[.int .i64 ((pr:Int)),.int .i64 (a),.int .i64 ((pt:Int))] 87);obtain⟨q1,q2⟩:=key.out _ o2;refine bodyPost_ret (v:=.agg #[.slice (some ⟨g,off,none⟩) l.length c]) (by simp [results,Tryz.results54,go_sem,o3]) rfl ?_;exact⟨_,rfl,by rw [HSP.out];unfold spR;rw [if_neg (by rw [HK.out];decide)];rw [if_pos HK.out];show OffR _ _ _ (l.set ii ((pr:Int),(pt:Int)+1,(pt:Int)));rw [ha];exact o1,q1,q2⟩
  | 2,_=>
   go_wp2_with fail;obtain⟨o1,o2,o3⟩:=spoil_end HO1.out hil m1 hgn1 (by omega) zz ((pr:Int)) ((pf':Int)) (1000000001) (.cells #[.int .i64 ((pr:Int)),.int .i64 ((pf':Int)),.int .i64 (1000000001)] 87);obtain⟨q1,q2⟩:=key.out _ o2;refine bodyPost_ret (v:=.agg #[.slice (some ⟨g,off,none⟩) l.length c]) (by simp [results,Tryz.results54,go_sem,o3]) rfl ?_;exact⟨_,rfl,by rw [HSP.out];unfold spR;rw [if_neg (by rw [HK.out];decide)];rw [if_neg (by rw [HK.out];decide)];rw [if_pos HK.out];exact o1,q1,q2⟩
  | 3,_=>
   go_wp2_with fail;obtain⟨o1,o2,o3⟩:=spoil_end HO1.out hil m1 hgn1 (by omega) zz ((pr:Int)) (0) ((pt:Int)) (.cells #[.int .i64 ((pr:Int)),.int .i64 (0),.int .i64 ((pt:Int))] 87);obtain⟨q1,q2⟩:=key.out _ o2;refine bodyPost_ret (v:=.agg #[.slice (some ⟨g,off,none⟩) l.length c]) (by simp [results,Tryz.results54,go_sem,o3]) rfl ?_;exact⟨_,rfl,by rw [HSP.out];unfold spR;rw [if_neg (by rw [HK.out];decide)];rw [if_neg (by rw [HK.out];decide)];rw [if_neg (by rw [HK.out];decide)];rw [if_pos HK.out];exact o1,q1,q2⟩
  | 4,_=>
   obtain⟨a1,ha1⟩:∃a1:Int,(pt:Int)+1=a1:=⟨_,rfl⟩;obtain⟨a2,ha2⟩:∃a2:Int,(pt:Int)+2=a2:=⟨_,rfl⟩;have wa1:IntKind.i64.wrap ((pt:Int)+1)=a1:=by rw [IntKind.wrap_i64];omega
   have wa2:IntKind.i64.wrap ((pt:Int)+2)=a2:=by rw [IntKind.wrap_i64];omega
   obtain⟨W2,hW2⟩:∃W2,w1.alloc (.cells #[.int .i64 (pr:Int),.int .i64 (pf':Int),.int .i64 (pt:Int)] 87)=W2:=⟨_,rfl⟩;have b2:Below w1.heap.size w1 W2:=by rw [<- hW2];exact(Below.refl _ _).alloc (Nat.le_refl _) _
   have zW2:Hid (W2.heap.size=w1.heap.size+1):=by rw [<- hW2];exact hid (by simp)
   have q0:W2.cell? ⟨w1.heap.size,0,none⟩=some (.int .i64 (pr:Int)):=by rw [<- hW2];simp
   have q1:W2.cell? ⟨w1.heap.size,1,none⟩=some (.int .i64 (pf':Int)):=by rw [<- hW2];simp
   have q2:W2.cell? ⟨w1.heap.size,2,none⟩=some (.int .i64 (pt:Int)):=by rw [<- hW2];simp
   have n0:=(b2.cell (p:=⟨w.heap.size,0,none⟩) zz0).trans m0;have n1:=(b2.cell (p:=⟨w.heap.size+1,0,none⟩) zz).trans m1;have u0:=(b2.frozen (p:=⟨w.heap.size,0,none⟩) zz0).trans y0;have u1:=(b2.frozen (p:=⟨w.heap.size+1,0,none⟩) zz).trans y1;have HO2:=hid (OffV.below (OffV.below HO1.out b2 (Nat.le_refl _)) ((Below.refl W2.heap.size W2).alloc (Nat.le_refl _) (.cells #[.int .i64 (pr:Int),.int .i64 a1,.int .i64 a2] 87)) (Nat.le_refl _));have HNW:=hid (cell3A W2 (.int .i64 (pr:Int)) (.int .i64 a1) (.int .i64 a2) 87);have HB2:=hid b2;clear b2;go_wp2_with (at_builtin;refine wpList_app_off rfl _ _ 24 rfl C 87 i0 _ 3 24 Tryz.underlying24 hi0 iz0 iz1 iz2 rfl _ _ _ rfl HO2.out ⟨W2.heap.size,0,none⟩ 1 1 [.int .i64 (pr:Int),.int .i64 a1,.int .i64 a2] ?f0 rfl ?f1 ?f2 ?f3 ?f4 ?f5 ?_);case f0=>rfl
   case f1=>exact HNW.out
   case f2=>intro u hu;simp at hu;rcases hu with rfl|rfl|rfl<;>rfl
   case f3=>unfold maxLen;omega
   case f4=>omega
   case f5=>have:=zW2.out;simp;omega
   intro v7 w7 hown7 hgr7 hloc7;have gg:W2.grownBy w7 (some g):=(World.grownBy_alloc W2 _ _).trans hgr7;obtain⟨L,hL⟩:∃L,l++[((pr:Int),a1,a2)]=L:=⟨_,rfl⟩;have hLl:L.length=l.length+1:=by rw [<- hL];simp
   have hLo:OffR w7 C v7 L:=by unfold OffR;rw [hLl,<- hL,fCells_append];exact hown7
   have HLE:Hid (l++[((pr:Int),(pt:Int)+1,(pt:Int)+2)]=L):=hid (by rw [<- hL,ha1,ha2]);obtain⟨g7,o7,c7,rfl,_,hc7,hc7',hg7,_⟩:=hLo.fs;have hloc:g7=g \/W2.heap.size<=g7:=by
    rcases hloc7 with q|q
    ·simp [Value.ownBlock] at q;exact .inl q
    ·simp [Value.ownBlock] at q;exact .inr (by omega)
   have zz2:=zW2.out;obtain⟨⟨d3,d3z,d74,d73⟩,mid⟩:=spoil_mid gg hLo hloc (b3:=w.heap.size) (b4:=w.heap.size+1) (b7:=w1.heap.size) (ii:=ii) (by omega) (by omega) (by omega) hgn0 hgn1 (by omega) (by omega) (by omega) (by omega) hg0 (by omega) n0 u0 n1 u1 q0 q1 q2;obtain⟨W8,hW8⟩:∃W8,w7.setCell ⟨w.heap.size,0,none⟩ (.slice (some ⟨g7,o7,none⟩) L.length c7)=W8:=⟨_,rfl⟩;obtain⟨s3,s4,s4z,t0,t1,t2,o8,b8⟩:=mid W8 hW8;obtain⟨⟨x0',x1',x2'⟩,z0',z1'',z2'⟩:=o8.at ii (by omega);have i3:(ii:Int)<(L.length:Int):=by omega
   have HO8:=hid o8;have HB8:Hid (Below C w1 W8):=hid ((HB2.out.mono (by omega)).trans b8);have HLl:=hid hLl;have HD:=hid d74;clear hown7 hgr7 hloc7 gg hLo hLl hL mid o8 b8 n0 n1 u0 u1 q0 q1 q2 x0 x1 x2 z0 z1' z2 HO2 HNW zz2 hloc m0 m1 y0 y1 hW2;go_wp2_with fail;obtain⟨o1,o2,o3⟩:=spoil_end2 (ii:=ii) HO8.out (by have:=HLl.out;omega) s4 HD.out (by omega) (pr:Int) (pf':Int) (pt:Int);obtain⟨q1,q2⟩:=key.out _ (HB8.out.trans o2);refine bodyPost_ret (v:=.agg #[.slice (some ⟨g7,o7,none⟩) L.length c7]) (by simp [results,Tryz.results54,go_sem,o3]) rfl ?_;exact⟨_,rfl,by rw [HSP.out];unfold spR;rw [if_neg (by rw [HK.out];decide)];rw [if_neg (by rw [HK.out];decide)];rw [if_neg (by rw [HK.out];decide)];rw [if_neg (by rw [HK.out];decide)];rw [if_pos HK.out];rw [HLE.out];exact o1,q1,q2⟩
  | 5,_=>
   obtain⟨W2,hW2⟩:∃W2,w1.alloc (.cells #[.int .i64 (pr:Int),.int .i64 (pf':Int),.int .i64 (pt:Int)] 87)=W2:=⟨_,rfl⟩;have b2:Below w1.heap.size w1 W2:=by rw [<- hW2];exact(Below.refl _ _).alloc (Nat.le_refl _) _
   have zW2:Hid (W2.heap.size=w1.heap.size+1):=by rw [<- hW2];exact hid (by simp)
   have q0:W2.cell? ⟨w1.heap.size,0,none⟩=some (.int .i64 (pr:Int)):=by rw [<- hW2];simp
   have q1:W2.cell? ⟨w1.heap.size,1,none⟩=some (.int .i64 (pf':Int)):=by rw [<- hW2];simp
   have q2:W2.cell? ⟨w1.heap.size,2,none⟩=some (.int .i64 (pt:Int)):=by rw [<- hW2];simp
   have n0:=(b2.cell (p:=⟨w.heap.size,0,none⟩) zz0).trans m0;have n1:=(b2.cell (p:=⟨w.heap.size+1,0,none⟩) zz).trans m1;have u0:=(b2.frozen (p:=⟨w.heap.size,0,none⟩) zz0).trans y0;have u1:=(b2.frozen (p:=⟨w.heap.size+1,0,none⟩) zz).trans y1;have HO2:=hid (OffV.below (OffV.below HO1.out b2 (Nat.le_refl _)) ((Below.refl W2.heap.size W2).alloc (Nat.le_refl _) (.cells #[.int .i64 (pr:Int),.int .i64 (pf':Int),.int .i64 (pt:Int)] 87)) (Nat.le_refl _));have HNW:=hid (cell3A W2 (.int .i64 (pr:Int)) (.int .i64 (pf':Int)) (.int .i64 (pt:Int)) 87);have HB2:=hid b2;clear b2;go_wp2_with (at_builtin;refine wpList_app_off rfl _ _ 24 rfl C 87 i0 _ 3 24 Tryz.underlying24 hi0 iz0 iz1 iz2 rfl _ _ _ rfl HO2.out ⟨W2.heap.size,0,none⟩ 1 1 [.int .i64 (pr:Int),.int .i64 (pf':Int),.int .i64 (pt:Int)] ?k0 rfl ?k1 ?k2 ?k3 ?k4 ?k5 ?_);case k0=>rfl
   case k1=>exact HNW.out
   case k2=>intro u hu;simp at hu;rcases hu with rfl|rfl|rfl<;>rfl
   case k3=>unfold maxLen;omega
   case k4=>omega
   case k5=>have:=zW2.out;simp;omega
   intro v7 w7 hown7 hgr7 hloc7;have gg:W2.grownBy w7 (some g):=(World.grownBy_alloc W2 _ _).trans hgr7;obtain⟨L,hL⟩:∃L,l++[((pr:Int),(pf':Int),(pt:Int))]=L:=⟨_,rfl⟩;have hLl:L.length=l.length+1:=by rw [<- hL];simp
   have hLo:OffR w7 C v7 L:=by unfold OffR;rw [hLl,<- hL,fCells_append];exact hown7
   have HLE:Hid (l++[((pr:Int),(pf':Int),(pt:Int))]=L):=hid hL;obtain⟨g7,o7,c7,rfl,_,hc7,hc7',hg7,_⟩:=hLo.fs;have hloc:g7=g \/W2.heap.size<=g7:=by
    rcases hloc7 with q|q
    ·simp [Value.ownBlock] at q;exact .inl q
    ·simp [Value.ownBlock] at q;exact .inr (by omega)
   have zz2:=zW2.out;obtain⟨⟨d3,d3z,d74,d73⟩,mid⟩:=spoil_mid gg hLo hloc (b3:=w.heap.size) (b4:=w.heap.size+1) (b7:=w1.heap.size) (ii:=ii) (by omega) (by omega) (by omega) hgn0 hgn1 (by omega) (by omega) (by omega) (by omega) hg0 (by omega) n0 u0 n1 u1 q0 q1 q2;obtain⟨W8,hW8⟩:∃W8,w7.setCell ⟨w.heap.size,0,none⟩ (.slice (some ⟨g7,o7,none⟩) L.length c7)=W8:=⟨_,rfl⟩;obtain⟨s3,s4,s4z,t0,t1,t2,o8,b8⟩:=mid W8 hW8;obtain⟨⟨x0',x1',x2'⟩,z0',z1'',z2'⟩:=o8.at ii (by omega);have i3:(ii:Int)<(L.length:Int):=by omega
   have HO8:=hid o8;have HB8:Hid (Below C w1 W8):=hid ((HB2.out.mono (by omega)).trans b8);have HLl:=hid hLl;have HD:=hid d74;clear hown7 hgr7 hloc7 gg hLo hLl hL mid o8 b8 n0 n1 u0 u1 q0 q1 q2 x0 x1 x2 z0 z1' z2 HO2 HNW zz2 hloc m0 m1 y0 y1 hW2;go_wp2_with fail;obtain⟨o1,o2,o3⟩:=spoil_end2 (ii:=ii) HO8.out (by have:=HLl.out;omega) s4 HD.out (by omega) (pr:Int) (pf':Int) (pt:Int);obtain⟨q1,q2⟩:=key.out _ (HB8.out.trans o2);refine bodyPost_ret (v:=.agg #[.slice (some ⟨g7,o7,none⟩) L.length c7]) (by simp [results,Tryz.results54,go_sem,o3]) rfl ?_;exact⟨_,rfl,by rw [HSP.out];unfold spR;rw [if_neg (by rw [HK.out];decide)];rw [if_neg (by rw [HK.out];decide)];rw [if_neg (by rw [HK.out];decide)];rw [if_neg (by rw [HK.out];decide)];rw [if_neg (by rw [HK.out];decide)];rw [if_pos HK.out];rw [HLE.out];exact o1,q1,q2⟩
  | 6,_=>
   obtain⟨W2,hW2⟩:∃W2,w1.alloc (.cells #[.int .i64 (pr:Int),.int .i64 (pf':Int),.int .i64 (pt:Int)] 87)=W2:=⟨_,rfl⟩;have b2:Below w1.heap.size w1 W2:=by rw [<- hW2];exact(Below.refl _ _).alloc (Nat.le_refl _) _
   have zW2:Hid (W2.heap.size=w1.heap.size+1):=by rw [<- hW2];exact hid (by simp)
   have q0:W2.cell? ⟨w1.heap.size,0,none⟩=some (.int .i64 (pr:Int)):=by rw [<- hW2];simp
   have q1:W2.cell? ⟨w1.heap.size,1,none⟩=some (.int .i64 (pf':Int)):=by rw [<- hW2];simp
   have q2:W2.cell? ⟨w1.heap.size,2,none⟩=some (.int .i64 (pt:Int)):=by rw [<- hW2];simp
   have n0:=(b2.cell (p:=⟨w.heap.size,0,none⟩) zz0).trans m0;have n1:=(b2.cell (p:=⟨w.heap.size+1,0,none⟩) zz).trans m1;have u0:=(b2.frozen (p:=⟨w.heap.size,0,none⟩) zz0).trans y0;have u1:=(b2.frozen (p:=⟨w.heap.size+1,0,none⟩) zz).trans y1;have ho2:OffR W2 C (.slice (some ⟨g,off,none⟩) l.length c) l:=OffV.below HO1.out b2 (Nat.le_refl _);obtain⟨⟨e0,e1,e2⟩,_⟩:=ho2.at 0 (by omega);rw [Nat.zero_mul,Nat.add_zero] at e0 e1 e2;have hp0:=hbr (gR l 0) (gR_mem (show 0<l.length by omega));obtain⟨fr,hfr⟩:∃fr:Int,(gR l 0).1=fr:=⟨_,rfl⟩;obtain⟨ff,hff⟩:∃ff:Int,(gR l 0).2.1=ff:=⟨_,rfl⟩;obtain⟨ft,hft⟩:∃ft:Int,(gR l 0).2.2=ft:=⟨_,rfl⟩;have HF0:Hid (gR l 0=(fr,ff,ft)):=hid (Prod.ext hfr (Prod.ext hff hft));rw [hfr] at e0 hp0;rw [hff] at e1 hp0;rw [hft] at e2 hp0;have zza:w.heap.size<W2.heap.size:=by have:=zW2.out;omega
   have zzg:g<W2.heap.size:=by have:=zW2.out;omega
   have i4:0<l.length:=by omega
   have i4':(0<l.length)=True:=by simp;omega
   have HO2:=hid (OffV.below ho2 ((Below.refl W2.heap.size W2).alloc (Nat.le_refl _) (.cells #[.int .i64 fr,.int .i64 ff,.int .i64 ft] 87)) (Nat.le_refl _));have HNW:=hid (cell3A W2 (.int .i64 fr) (.int .i64 ff) (.int .i64 ft) 87);have HB2:=hid b2;clear b2 ho2 hfr hff hft;go_wp2_with fail;have HL1:Hid (∀u∈[Value.int .i64 fr,.int .i64 ff,.int .i64 ft],u.oneCell'=true):=hid (fun u hu=>by simp at hu;rcases hu with rfl|rfl|rfl<;>rfl);have HL3:Hid (l.length+1<=maxLen):=hid (by unfold maxLen;omega);have HL4:Hid ((l.length+1)*24<=140737488355328):=hid (by omega);have HL5:Hid (C<=((W2.alloc (.cells #[.int .i64 fr,.int .i64 ff,.int .i64 ft] 87)).drew).heap.size):=hid (by have:=zW2.out;show C<=(W2.alloc _).heap.size;simp;omega);have HO3:Hid (OffV (W2.alloc (.cells #[.int .i64 fr,.int .i64 ff,.int .i64 ft] 87)).drew C 3 (.slice (some ⟨g,off,none⟩) l.length c) l.length (fCells l)):=hid (OffV.below HO2.out (Below.refl _ _).drew (Nat.le_refl _));have HMID:Hid (∀(g7 o7 c7:Nat) (w7:World),OffV w7 C 3 (.slice (some ⟨g7,o7,none⟩) (l.length+1) c7) (l.length+1) (fCells l++[.int .i64 fr,.int .i64 ff,.int .i64 ft]) ->(W2.alloc (.cells #[.int .i64 fr,.int .i64 ff,.int .i64 ft] 87)).drew.grownBy w7 (some g) ->(some g7=some g \/g7=W2.heap.size+1) ->(w7.cell? ⟨w.heap.size,0,none⟩=some (.slice (some ⟨g,off,none⟩) l.length c)/\ w7.frozen? ⟨w.heap.size,0,none⟩=false/\ g7≠w.heap.size+1/\ g7≠w.heap.size)/\∀W8,w7.setCell ⟨w.heap.size,0,none⟩ (.slice (some ⟨g7,o7,none⟩) (l.length+1) c7)=W8 ->
     W8.cell? ⟨w.heap.size,0,none⟩=some (.slice (some ⟨g7,o7,none⟩) (l.length+1) c7)/\ W8.cell? ⟨w.heap.size+1,0,none⟩=some (.slice none 0 0)/\ W8.frozen? ⟨w.heap.size+1,0,none⟩=false/\ W8.cell? ⟨w1.heap.size,0,none⟩=some (.int .i64 (pr:Int))/\ W8.cell? ⟨w1.heap.size,1,none⟩=some (.int .i64 (pf':Int))/\ W8.cell? ⟨w1.heap.size,2,none⟩=some (.int .i64 (pt:Int))/\ OffR W8 C (.slice (some ⟨g7,o7,none⟩) (l.length+1) c7) (l++[(fr,ff,ft)])/\ Below C w1 W8):=hid (by
    intro g7 o7 c7 w7 hown hgr hloc;have zz2:=zW2.out;have gg:W2.grownBy w7 (some g):=(World.grownBy_alloc W2 _ _).trans ((show (W2.alloc (.cells #[.int .i64 fr,.int .i64 ff,.int .i64 ft] 87)).grownBy (W2.alloc (.cells #[.int .i64 fr,.int .i64 ff,.int .i64 ft] 87)).drew (some g) from⟨rfl,rfl,rfl,Nat.le_refl _,fun _ _ _=>rfl⟩).trans hgr);have hLl:(l++[(fr,ff,ft)]).length=l.length+1:=by simp
    have hLo:OffR w7 C (.slice (some ⟨g7,o7,none⟩) (l++[(fr,ff,ft)]).length c7) (l++[(fr,ff,ft)]):=by unfold OffR;rw [hLl,fCells_append];exact hown
    obtain⟨m1,m2⟩:=spoil_mid gg hLo (by rcases hloc with q|q;exact .inl (by injection q);exact .inr (by omega)) (b3:=w.heap.size) (b4:=w.heap.size+1) (b7:=w1.heap.size) (ii:=ii) (by omega) (by omega) (by omega) hgn0 hgn1 (by omega) (by omega) (by omega) (by omega) hg0 (by omega) n0 u0 n1 u1 q0 q1 q2;rw [hLl] at m2;refine⟨m1,fun W8 h8=> ?_⟩;obtain⟨s3,s4,s4z,t0,t1,t2,o8,b8⟩:=m2 W8 h8;exact⟨s3,s4,s4z,t0,t1,t2,o8,(HB2.out.mono (by omega)).trans b8⟩)
   go_region_law (
    refine step_app_off (w:=(W2.alloc (.cells #[.int .i64 fr,.int .i64 ff,.int .i64 ft] 87)).drew) rfl _ _ 24 rfl C 87 i0 _ 3 24 Tryz.underlying24 hi0 iz0 iz1 iz2 rfl _ _ _ rfl HO3.out ⟨W2.heap.size,0,none⟩ 1 1 [.int .i64 fr,.int .i64 ff,.int .i64 ft] rfl rfl HNW.out HL1.out HL3.out HL4.out HL5.out ?_
    intro g7 o7 c7 w7 hown7 hgr7 hloc7
    obtain⟨⟨d3,d3z,d74,d73⟩,mid⟩:=HMID.out g7 o7 c7 w7 hown7 hgr7 (by rcases hloc7 with q|q;exact .inl q;exact .inr (by injection q with q;simpa using q)))
   all_goals (
    obtain⟨W8,hW8⟩:∃W8,w7.setCell ⟨w.heap.size,0,none⟩ (.slice (some ⟨g7,o7,none⟩) (l.length+1) c7)=W8:=⟨_,rfl⟩;obtain⟨s3,s4,s4z,t0,t1,t2,o8,b8⟩:=mid W8 hW8;rw [hW8];have hLl:(l++[(fr,ff,ft)]).length=l.length+1:=by simp
    obtain⟨⟨x0',x1',x2'⟩,z0',z1'',z2'⟩:=o8.at ii (by omega);have i3:(ii:Int)<((l.length:Nat):Int)+1:=by omega
    rw [<- hLl] at o8;have HO8:=hid o8;have HB8:=hid b8;have HLl:=hid hLl;have HD:=hid d74;clear hown7 hgr7 hloc7 hLl mid o8 b8 n0 n1 u0 u1 q0 q1 q2 x0 x1 x2 z0 z1' z2 HO2 HO3 HNW m0 m1 y0 y1 hW2 HMID e0 e1 e2 hW8 d3 d3z;go_wp2_with fail;obtain⟨o1,o2,o3⟩:=spoil_end2 (ii:=ii) HO8.out (by have:=HLl.out;omega) s4 HD.out (by omega) (pr:Int) (pf':Int) (pt:Int);rw [HLl.out] at o1 o2 o3;obtain⟨q1,q2⟩:=key.out _ (HB8.out.trans o2);refine bodyPost_ret (v:=.agg #[.slice (some ⟨g7,o7,none⟩) (l.length+1) c7]) (by simp [results,Tryz.results54,go_sem,o3]) rfl ?_;exact⟨_,rfl,by rw [HSP.out];unfold spR;rw [if_neg (by rw [HK.out];decide)];rw [if_neg (by rw [HK.out];decide)];rw [if_neg (by rw [HK.out];decide)];rw [if_neg (by rw [HK.out];decide)];rw [if_neg (by rw [HK.out];decide)];rw [if_neg (by rw [HK.out];decide)];rw [if_pos HK.out];rw [HF0.out];exact o1,q1,q2⟩)
  | 7,_=>
   obtain⟨a,ha⟩:∃a:Int,(pf':Int) - 1=a:=⟨_,rfl⟩;have wa:IntKind.i64.wrap ((pf':Int) - 1)=a:=by rw [IntKind.wrap_i64];omega
   go_wp2_with fail;obtain⟨o1,o2,o3⟩:=spoil_end HO1.out hil m1 hgn1 (by omega) zz ((pr:Int)) (a) ((pt:Int)) (.cells #[.int .i64 ((pr:Int)),.int .i64 (a),.int .i64 ((pt:Int))] 87);obtain⟨q1,q2⟩:=key.out _ o2;refine bodyPost_ret (v:=.agg #[.slice (some ⟨g,off,none⟩) l.length c]) (by simp [results,Tryz.results54,go_sem,o3]) rfl ?_;exact⟨_,rfl,by rw [HSP.out];unfold spR;rw [if_neg (by rw [HK.out];decide)];rw [if_neg (by rw [HK.out];decide)];rw [if_neg (by rw [HK.out];decide)];rw [if_neg (by rw [HK.out];decide)];rw [if_neg (by rw [HK.out];decide)];rw [if_neg (by rw [HK.out];decide)];rw [if_neg (by rw [HK.out];decide)];show OffR _ _ _ (l.set ii ((pr:Int),(pf':Int) - 1,(pt:Int)));rw [ha];exact o1,q1,q2⟩
end Go.Proofs.YtpfmeafmepgimaaGreat
namespace Go.Proofs.YtpfmeafmepgimaaGreat
open Go.ChangeShapes Go.WideShapes Go.ChangeAt Go.RowKit
def gnS (p:List ByteArray)(fl:Bool)(x:Lf):Prop:=x.p=p/\ x.fl=fl
def gnR (p:List ByteArray)(x:Lf):Prop:=p <+:x.p
end Go.Proofs.YtpfmeafmepgimaaGreat
