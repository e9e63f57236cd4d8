import Derived.Test.YtfidfeilljlbiaaGreatFrg11
import Derived.Test.YtfidfeilljlbiaaGreatFrg02
import Derived.Test.YtfidfeilljlbiaaGreatFrg06
import Derived.RegionTactic
import Derived.BigRegion
import Derived.Deep.RegionLaw
import Derived.Test.YtfidfeilljlbiaaGreatFrg07
set_option linter.unusedVariables false
set_option linter.unusedSimpArgs false
set_option maxRecDepth 100000
set_option maxHeartbeats 40000000
namespace Go.Proofs.YtfidfeilljlbiaaGreat
open Go.ChangeShapes Go.WideShapes Go.ChangeAt Go.RowKit
theorem gR_flat (l:List Rn):flat (fun i=>(gR l i).1) (fun i=>(gR l i).2.1) (fun i=>(gR l i).2.2) l.length=l:=by
 refine List.ext_getElem (by simp [flat]) (fun i h1 h2=> ?_);simp [flat,gR,List.getD,h2]
theorem gR_okTo {l:List Rn}(h:FSrt l):okTo (fun i=>(gR l i).1) (fun i=>(gR l i).2.1) (fun i=>(gR l i).2.2) l.length:=by
 intro i hi;have e:∀j,(hj:j<l.length) ->gR l j=l[j]:=fun j hj=>by simp [gR,List.getD,hj]
 refine⟨?_,fun h0=> ?_⟩
 ·have:=h.2 _ (List.getElem_mem hi);rw [<- e i hi] at this;exact runOk_true this
 ·have:=List.pairwise_iff_getElem.1 h.1 (i - 1) i (by omega) hi (by omega);rw [<- e i hi,<- e (i - 1) (by omega)] at this;unfold apartB;exact decide_eq_true this
theorem hasK_RI (R F T:Nat ->Int)(r x:Int)(n:Nat):hasK R F T r x x n=true↔RI (flat R F T n) r x:=by
 rw [flat_in,<- in_hasK];unfold inB In;simp
theorem hasX_RI {R F T:Nat ->Int}{n:Nat}{x:Lf}:hasX R F T n x↔RI (flat R F T n) x.r x.q:=hasK_RI R F T x.r x.q n
def mkS (l:List Lf)(u:List Rn):Sx:=⟨l,u.length,fun i=>(gR u i).1,fun i=>(gR u i).2.1,fun i=>(gR u i).2.2⟩
theorem jnS_mk (S S':Sx):jnS S S'=mkS (jn S.R S.F S.T S.n S.l S'.R S'.F S'.T S'.n S'.l) (jnU S S'):=rfl
theorem mkS_has {l:List Lf}{u:List Rn}{x:Lf}:hasX (mkS l u).R (mkS l u).F (mkS l u).T (mkS l u).n x↔RI u x.r x.q:=by
 rw [hasX_RI];unfold mkS;simp only;rw [gR_flat]
def dtR (x:Lf):Rn:=(x.r,x.q,x.q)
theorem dtR_in {l:List Lf}{r x:Int}:RI (l.map dtR) r x↔∃y∈l,y.r=r/\ y.q=x:=by
 unfold RI InR dtR;constructor
 ·rintro⟨p,hp,h1,h2,h3⟩;obtain⟨y,hy,rfl⟩:=List.mem_map.1 hp;exact⟨y,hy,h1,by simp only at h2 h3;omega⟩
 ·rintro⟨y,hy,h1,h2⟩;exact⟨_,List.mem_map.2 ⟨y,hy,rfl⟩,h1,by simp only;omega,by simp only;omega⟩
noncomputable def goL (g:Lf ->Prop)(l:List Lf):List Lf:=l.filter fun x=>yes (g x)
noncomputable def stL (g:Lf ->Prop)(l:List Lf):List Lf:=l.filter fun x=> !yes (g x)
noncomputable def dlU (g:Lf ->Prop)(l P:List Lf):List Rn:=unF [] ((goL g l).map dtR++P.map dtR)
noncomputable def dlS (g:Lf ->Prop)(l P:List Lf):Sx:=mkS P (dlU g l P)
def nxU (S:Sx)(P:List Lf):List Rn:=unF (flat S.R S.F S.T S.n) (P.map dtR)
noncomputable def nxL (g:Lf ->Prop)(l P:List Lf):List Lf:=P.foldl (fun o y=>insL y o) (stL g l)
noncomputable def nxS (g:Lf ->Prop)(S:Sx)(P:List Lf):Sx:=mkS (nxL g S.l P) (nxU S P)
theorem goL_mem {g:Lf ->Prop}{l:List Lf}{x:Lf}:x∈goL g l↔x∈l/\ g x:=by
 unfold goL;rw [List.mem_filter];exact and_congr_right fun _=>⟨fun h=>Classical.byContradiction fun hn=>(by rw [yes_f hn] at h;cases h),fun h=>yes_t h⟩
theorem stL_mem {g:Lf ->Prop}{l:List Lf}{x:Lf}:x∈stL g l↔x∈l/\¬g x:=by
 unfold stL;rw [List.mem_filter];exact and_congr_right fun _=>⟨fun h hn=>(by rw [yes_t hn] at h;cases h),fun h=>(by rw [yes_f h];rfl)⟩
structure PtO (S:Sx)(P:List Lf):Prop where
 one:P.length<=1
 ok:∀y∈P,LfOk1 y
 dot:∀y∈P,Rok (dtR y)
 new:∀y∈P,¬hasX S.R S.F S.T S.n y
theorem PtO.nil (S:Sx):PtO S []:=⟨by simp,fun y h=>(by cases h),fun y h=>(by cases h),fun y h=>(by cases h)⟩
theorem ok_has {S:Sx}(h:StOk S.R S.F S.T S.n S.l):∀z∈S.l,hasX S.R S.F S.T S.n z:=fun z hz=>by
 obtain⟨j,hj,e⟩:=gL_mem.1 hz;have:=(h.2.2.1 j hj).2.1;rw [e] at this;exact this
theorem has_rok {R F T:Nat ->Int}{n:Nat}(h:okTo R F T n){x:Lf}(hx:hasX R F T n x):Rok (dtR x):=by
 obtain⟨k,hk,e1,e2,e3⟩:=jhas_at R F T _ _ _ n hx;have:=(h k hk).1;simp only [runOkB,Bool.and_eq_true,decide_eq_true_eq] at this;unfold Rok dtR;simp only;omega
theorem ok_okTo {S:Sx}(h:StOk S.R S.F S.T S.n S.l):okTo S.R S.F S.T S.n:=(ctxB_iff.1 h.1).1
section
variable {g : Lf -> Prop} {S : Sx} {P : List Lf}
theorem dl_rok (h:StOk S.R S.F S.T S.n S.l)(hp:PtO S P):∀p∈(goL g S.l).map dtR++P.map dtR,Rok p:=fun p hq=>by
 rcases List.mem_append.1 hq with hq|hq
 ·obtain⟨x,hx,rfl⟩:=List.mem_map.1 hq;exact has_rok (ok_okTo h) (ok_has h x (goL_mem.1 hx).1)
 ·obtain⟨x,hx,rfl⟩:=List.mem_map.1 hq;exact hp.dot x hx
theorem fs_nil:FSrt []:=⟨List.Pairwise.nil,fun p h=>by cases h⟩
theorem dlU_ok (h:StOk S.R S.F S.T S.n S.l)(hp:PtO S P):FSrt (dlU g S.l P)/\∀r x,RI (dlU g S.l P) r x↔(∃y,(y∈S.l/\ g y)/\ y.r=r/\ y.q=x) \/∃y∈P,y.r=r/\ y.q=x:=by
 obtain⟨h1,h2⟩:=unF_ok ((goL g S.l).map dtR++P.map dtR) [] fs_nil (dl_rok h hp);refine⟨h1,fun r x=>(h2 r x).trans ?_⟩;rw [RI_append,dtR_in,dtR_in];constructor
 ·rintro(e|⟨y,hy,e⟩|e)
  ·exact absurd e RI_nil
  ·exact .inl ⟨y,goL_mem.1 hy,e⟩
  ·exact .inr e
 ·rintro(⟨y,hy,e⟩|e)
  ·exact .inr (.inl ⟨y,goL_mem.2 hy,e⟩)
  ·exact .inr (.inr e)
theorem dlU_len (h:StOk S.R S.F S.T S.n S.l)(hp:PtO S P):(dlU g S.l P).length<=1001:=by
 have h1:=unF_len ((goL g S.l).map dtR++P.map dtR) [];have h2:(goL g S.l).length<=S.l.length:=List.length_filter_le _ _;have h3:=h.2.1;have h4:=hp.one;simp at h1;show (unF [] ((goL g S.l).map dtR++P.map dtR)).length<=1001;omega
theorem one_lv (hp:PtO S P){R F T:Nat ->Int}{n:Nat}(hh:∀y∈P,hasX R F T n y):LvOk R F T n P P.length/\ Dis P P.length:=by
 have h1:=hp.one;refine⟨fun i hi=> ?_,fun i hi j hj=>by omega⟩;have hm:gL P i∈P:=gL_mem.2 ⟨i,hi,rfl⟩;exact⟨hp.ok _ hm,hh _ hm,fun h0=>by omega⟩
theorem dl_w (h:StOk S.R S.F S.T S.n S.l)(hp:PtO S P):StW (dlS g S.l P).R (dlS g S.l P).F (dlS g S.l P).T (dlS g S.l P).n (dlS g S.l P).l:=by
 have h1:=(dlU_ok (g:=g) h hp).1;have h2:=dlU_len (g:=g) h hp;have h3:=one_lv hp (R:=(dlS g S.l P).R) (F:=(dlS g S.l P).F) (T:=(dlS g S.l P).T) (n:=(dlS g S.l P).n) (fun y hy=>mkS_has.2 (((dlU_ok h hp).2 _ _).2 (.inr ⟨y,hy,rfl,rfl⟩)));exact⟨⟨gR_okTo h1,by show (dlU g S.l P).length<=2000;omega⟩,by show P.length<=1000;have:=hp.one;omega,h3.1,h3.2⟩
theorem stL_sorted (h:StOk S.R S.F S.T S.n S.l):(stL g S.l).Pairwise (fun a b=>cmpL a b<0):=by
 refine List.Pairwise.filter _ (List.pairwise_iff_getElem.2 fun i j hi hj hij=> ?_);have:=h.2.2.1.lt j hij hj;have e1:gL S.l i=S.l[i]:=by simp [gL,List.getD,hi]
 have e2:gL S.l j=S.l[j]:=by simp [gL,List.getD,hj]
 rw [e1,e2] at this;exact this
theorem nxL_mem {l:List Lf}{z:Lf}:∀{P:List Lf} {o:List Lf},z∈P.foldl (fun o y=>insL y o) o↔z∈o \/z∈P
 | [],o=>by simp
 | y::P,o=>by
  rw [List.foldl_cons,nxL_mem (l:=l) (P:=P),insL_mem,List.mem_cons];constructor
  ·rintro((e|e)|e)
   ·exact .inr (.inl e)
   ·exact .inl e
   ·exact .inr (.inr e)
  ·rintro(e|e|e)
   ·exact .inl (.inr e)
   ·exact .inl (.inl e)
   ·exact .inr e
theorem nxL_sorted (h:StOk S.R S.F S.T S.n S.l)(hp:PtO S P):(nxL g S.l P).Pairwise (fun a b=>cmpL a b<0):=by
 unfold nxL;match P,hp with
 | [],_=>exact stL_sorted h
 | [y],hp=>
  refine insL_sorted (stL_sorted h) (fun z hz e=> ?_);exact hp.new y (List.mem_singleton.2 rfl) ((hasX_key e).1 (ok_has h z (stL_mem.1 hz).1))
 | _::_::_,hp=>exact absurd hp.one (by simp)
theorem chg_l (h:StOk S.R S.F S.T S.n S.l)(hp:PtO S P):(jnS S (dlS g S.l P)).l=nxL g S.l P:=by
 refine lfs_uniq (jn_sorted h.w (dl_w h hp)) (nxL_sorted h hp) (fun z=> ?_);show z∈jnL S.l P _ _↔_;rw [jnL_mem];unfold nxL;rw [nxL_mem (l:=S.l),stL_mem];have hD:hasX (dlS g S.l P).R (dlS g S.l P).F (dlS g S.l P).T (dlS g S.l P).n z↔_:=mkS_has.trans ((dlU_ok (g:=g) h hp).2 z.r z.q);rw [hD];constructor
 ·rintro(⟨h1,h2⟩|⟨h1,_⟩)
  ·rcases h2 with h2|h2
   ·exact .inr h2
   ·exact .inl ⟨h1,fun hg=>h2 (.inl ⟨z,⟨h1,hg⟩,rfl,rfl⟩)⟩
  ·exact .inr h1
 ·rintro(⟨h1,h2⟩|h1)
  ·refine .inl ⟨h1,.inr ?_⟩;rintro(⟨y,⟨hy,hg⟩,e⟩|⟨y,hy,e⟩)
   ·exact h2 ((dis_mem h.2.2.2 hy h1 e) ▸ hg)
   ·refine hp.new y hy ?_;have:=ok_has h z h1;unfold hasX at this ⊢;rw [e.1,e.2];exact this
  ·exact .inr ⟨h1,hp.new z h1⟩
theorem nxU_ok (h:StOk S.R S.F S.T S.n S.l)(hp:PtO S P):FSrt (nxU S P)/\∀r x,RI (nxU S P) r x↔RI (flat S.R S.F S.T S.n) r x \/∃y∈P,y.r=r/\ y.q=x:=by
 obtain⟨h1,h2⟩:=unF_ok (P.map dtR) (flat S.R S.F S.T S.n) (flat_srt S.n (ok_okTo h)) (fun p hq=>by
  obtain⟨x,hx,rfl⟩:=List.mem_map.1 hq;exact hp.dot x hx)
 refine⟨h1,fun r x=>(h2 r x).trans ?_⟩;rw [dtR_in]
theorem chg_u (h:StOk S.R S.F S.T S.n S.l)(hp:PtO S P):jnU S (dlS g S.l P)=nxU S P:=by
 have hd:=dlU_ok (g:=g) h hp;have e0:jnU S (dlS g S.l P)=unF (flat S.R S.F S.T S.n) (dlU g S.l P):=by
  unfold jnU unL dlS mkS;simp only;rw [gR_flat]
 rw [e0];obtain⟨h1,h2⟩:=unF_ok (dlU g S.l P) (flat S.R S.F S.T S.n) (flat_srt S.n (ok_okTo h)) hd.1.2;obtain⟨h3,h4⟩:=nxU_ok h hp;refine uniq h1 h3 (fun r x=> ?_);rw [h2,h4,hd.2];constructor
 ·rintro(e|⟨y,⟨hy,_⟩,e1,e2⟩|e)
  ·exact .inl e
  ·have:=hasX_RI.1 (ok_has h y hy);rw [e1,e2] at this;exact .inl this
  ·exact .inr e
 ·rintro(e|e)
  ·exact .inl e
  ·exact .inr (.inr e)
theorem chg_s (h:StOk S.R S.F S.T S.n S.l)(hp:PtO S P):jnS S (dlS g S.l P)=nxS g S P:=by
 rw [jnS_mk,chg_u h hp];have:=chg_l (g:=g) h hp;unfold nxS;rw [<- this];rfl
end
abbrev Vd (S:Sx):Prop:=StOk S.R S.F S.T S.n S.l
def fS (S:Sx):List Rn:=flat S.R S.F S.T S.n
def Hs (S:Sx)(x:Lf):Prop:=RI (fS S) x.r x.q
theorem fS_mk (l:List Lf)(u:List Rn):fS (mkS l u)=u:=gR_flat u
theorem fS_len (S:Sx):(fS S).length=S.n:=flatR_len _ _ _ _
theorem Hs_has (S:Sx):hasX S.R S.F S.T S.n=Hs S:=funext fun x=>propext hasX_RI
theorem jnS_eq (S S':Sx):jnS S S'=mkS (jnL S.l S'.l (Hs S) (Hs S')) (unF (fS S) (fS S')):=by
 rw [jnS_mk,<- Hs_has,<- Hs_has];rfl
theorem vd_srt {S:Sx}(h:Vd S):FSrt (fS S):=flat_srt S.n (ok_okTo h)
section
variable {S S' S2 : Sx}
theorem jn_u (h:Vd S)(h':Vd S'):FSrt (fS (jnS S S'))/\∀y x,RI (fS (jnS S S')) y x↔(RI (fS S) y x \/RI (fS S') y x):=by
 rw [jnS_eq,fS_mk];exact unF_ok _ _ (vd_srt h) (vd_srt h').2
theorem jn_Hs (h:Vd S)(h':Vd S'){z:Lf}:Hs (jnS S S') z↔Hs S z \/Hs S' z:=(jn_u h h').2 _ _
theorem jnF_iff:jnF S S'=true↔(jnS S S').l.length<=1000/\ (jnS S S').n<=1000:=by unfold jnF;rw [Bool.and_eq_true,decide_eq_true_eq,decide_eq_true_eq]
theorem jn_vd (h:Vd S)(h':Vd S')(hf:jnF S S'=true):Vd (jnS S S'):=by
 obtain⟨f1,f2⟩:=jnF_iff.1 hf;have hu:=(jn_u h h').1;rw [jnS_eq,fS_mk] at hu;refine⟨ctxB_iff.2 ⟨?_,f2⟩,f1,?_,jn_dis h.w h'.w⟩
 ·rw [jnS_eq];exact gR_okTo hu
 ·refine jn_ok h.w h'.w (fun z hz=> ?_);rw [Hs_has,Hs_has] at hz;rw [Hs_has];exact(jn_Hs h h').2 hz
theorem mt_vd:Vd Sx.mt:=⟨ctxB_iff.2 ⟨fun i hi=>absurd hi (Nat.not_lt_zero _),Nat.zero_le _⟩,Nat.zero_le _,fun i hi=>absurd hi (Nat.not_lt_zero _),fun i hi=>absurd hi (Nat.not_lt_zero _)⟩
theorem jnB_iff:jnB S S'=true↔Vd S/\ Vd S'/\ jnF S S'=true:=by
 unfold jnB;rw [Bool.and_eq_true,Bool.and_eq_true];exact⟨fun h=>⟨stB_t h.1.1,stB_t h.1.2,h.2⟩,fun h=>⟨⟨yes_t h.1,yes_t h.2.1⟩,h.2.2⟩⟩
end
open Go.Maps Go.Sort
def OffR (w:World)(B:Nat)(v:Value)(l:List Rn):Prop:=OffV w B 3 v l.length (fCells l)
theorem fr_key:∀(l:List Rn) (i:Nat),i<l.length ->(fCells l)[i*3]? =some (.int .i64 (gR l i).1)/\ (fCells l)[i*3+1]? =some (.int .i64 (gR l i).2.1)/\ (fCells l)[i*3+2]? =some (.int .i64 (gR l i).2.2)
 | [],i,hi=>by simp at hi
 | a::l,0,hi=>by simp [fCells,gR]
 | a::l,i+1,hi=>by
  have:=fr_key l i (by simpa using hi);have e:fCells (a::l)=.int .i64 a.1::.int .i64 a.2.1::.int .i64 a.2.2::fCells l:=by simp [fCells]
  rw [e,show (i+1)*3=i*3+1+1+1 from by omega];simpa [gR] using this
theorem OffR.fs {w:World}{B:Nat}{v:Value}{l:List Rn}(h:OffR w B v l):∃g Ha c,v=.slice (some ⟨g,Ha,none⟩) l.length c/\ FS w (some ⟨g,Ha,none⟩) l/\ l.length<=c/\ c<=9223372036854775807/\ B<=g/\ g<w.heap.size:=by
 obtain⟨g,Ha,c,e,hB,hg,hn,hc,hl,h1,h2,h3⟩:=h;refine⟨g,Ha,c,e,.inr ⟨g,Ha,rfl,hg,fun i hi=> ?_⟩,hn,by unfold maxLen at hc;omega,hB,hg⟩;obtain⟨k0,k1,k2⟩:=fr_key l i hi;rw [h1 _ (by omega),Nat.add_assoc,h1 _ (by omega),Nat.add_assoc,h1 _ (by omega)];exact⟨k0,k1,k2⟩
def BRn (l:List Rn):Prop:=∀p∈l,0<=p.1/\ p.1<=7/\ 0<=p.2.1/\ p.2.1<=1000000000/\ 0<=p.2.2/\ p.2.2<=1000000000
theorem FSrt.br {l:List Rn}(h:FSrt l):BRn l:=fun p hp=>by
 have:=h.2 p hp;unfold Rok at this;omega
theorem cell3A (w:World)(a b c:Value)(t:TypeId):∀j u,[a,b,c][j]? =some u ->(w.alloc (.cells #[a,b,c] t)).cell? ((⟨w.heap.size,0,none⟩:Addr).add j)=some u:=by
 intro j u hj;match j,hj with
 | 0,hj=>simp at hj;subst hj;simp [Addr.add]
 | 1,hj=>simp at hj;subst hj;simp [Addr.add]
 | 2,hj=>simp at hj;subst hj;simp [Addr.add]
theorem OffV.put1 {w:World}{B size g off n c:Nat}{xs:List Value}(h:OffV w B size (.slice (some ⟨g,off,none⟩) n c) n xs)(j:Nat)(hj:j<n*size)(a:Value):OffV (w.setCell ⟨g,off+j,none⟩ a) B size (.slice (some ⟨g,off,none⟩) n c) n (xs.set j a):=by
 obtain⟨g',Hc,c',e,hB,hg,hn,hc,hl,h1,h2,h3⟩:=h;injection e with e1 _ e3;injection e1 with e1;injection e1 with e1 e2 _;subst e1 e2 e3;have Hd:n*size<=c*size:=Nat.mul_le_mul_right _ hn;have Ha:∃u,w.cell? ⟨g,off+j,none⟩=some u:=Option.isSome_iff_exists.1 (h2 j (by omega));obtain⟨u,hu⟩:=Ha;refine⟨g,off,c,rfl,hB,by simp [World.setCell];exact hg,hn,hc,by simp [hl],fun t ht=> ?_,fun t ht=> ?_,fun t ht=> ?_⟩
 ·by_cases Hb:t=j
  ·subst Hb;rw [World.cell?_setCell_same _ _ _ hu,List.getElem?_set_self (by omega)]
  ·rw [World.cell?_setCell_other _ _ _ _ (by intro e;injection e with _ e;omega),List.getElem?_set_ne (fun e=>Hb e.symm)];exact h1 t ht
 ·by_cases Hb:t=j
  ·subst Hb;rw [World.cell?_setCell_same _ _ _ hu];rfl
  ·rw [World.cell?_setCell_other _ _ _ _ (by intro e;injection e with _ e;omega)];exact h2 t ht
 ·rw [World.frozen?_setCell];exact h3 t ht
theorem fCells_set:∀(l:List Rn) (i:Nat) (a b c:Int),fCells (l.set i (a,b,c))=(((fCells l).set (i*3) (.int .i64 a)).set (i*3+1) (.int .i64 b)).set (i*3+2) (.int .i64 c)
 | [],i,a,b,c=>by simp [fCells]
 | p::l,0,a,b,c=>by simp [fCells]
 | p::l,i+1,a,b,c=>by
  have e:∀q:Rn,∀m:List Rn,fCells (q::m)=.int .i64 q.1::.int .i64 q.2.1::.int .i64 q.2.2::fCells m:=fun q m=>by simp [fCells]
  rw [List.set_cons_succ,e,e,fCells_set l i a b c,show (i+1)*3=i*3+1+1+1 from by omega];simp [List.set_cons_succ]
theorem OffR.put {w:World}{B g off c:Nat}{l:List Rn}(h:OffR w B (.slice (some ⟨g,off,none⟩) l.length c) l)(i:Nat)(hi:i<l.length)(a b d:Int):
  OffR (((w.setCell ⟨g,off+i*3,none⟩ (.int .i64 a)).setCell ⟨g,off+i*3+1,none⟩ (.int .i64 b)).setCell ⟨g,off+i*3+2,none⟩ (.int .i64 d)) B (.slice (some ⟨g,off,none⟩) l.length c) (l.set i (a,b,d)):=by
 have h1:=OffV.put1 h (i*3) (by omega) (.int .i64 a);have h2:=OffV.put1 h1 (i*3+1) (by omega) (.int .i64 b);have h3:=OffV.put1 h2 (i*3+2) (by omega) (.int .i64 d);unfold OffR;rw [List.length_set,fCells_set];exact h3
structure FrB (w w':World)(C rb:Nat):Prop where
 os:w'.os=w.os
 tape:w'.tape=w.tape
 output:w'.output=w.output
 size:w.heap.size<=w'.heap.size
 block:∀k,k<C ->k≠rb ->w'.heap[k]? =w.heap[k]?
def BSn (l:List Rn):Prop:=∀p∈l, -100<=p.1/\ p.1<=100/\ -100<=p.2.1/\ p.2.1<=2000000000/\ -100<=p.2.2/\ p.2.2<=2000000000
theorem BRn.bs {l:List Rn}(h:BRn l):BSn l:=fun p hp=>by have:=h p hp;omega
theorem BSn.set {l:List Rn}(h:BSn l)(i:Nat)(a b c:Int)(h0: -100<=a/\ a<=100/\ -100<=b/\ b<=2000000000/\ -100<=c/\ c<=2000000000):BSn (l.set i (a,b,c)):=fun p hp=>by
 rcases List.mem_or_eq_of_mem_set hp with hp|hp
 ·exact h p hp
 ·subst hp;exact h0
theorem BSn.snoc {l:List Rn}(h:BSn l)(a b c:Int)(h0: -100<=a/\ a<=100/\ -100<=b/\ b<=2000000000/\ -100<=c/\ c<=2000000000):BSn (l++[(a,b,c)]):=fun p hp=>by
 rcases List.mem_append.1 hp with hp|hp
 ·exact h p hp
 ·simp at hp;subst hp;exact h0
theorem OffR.lit1 (w:World)(B:Nat)(hB:B<=w.heap.size)(a b c:Int):OffR (w.alloc (.cells #[.int .i64 a,.int .i64 b,.int .i64 c] 96)) B (.slice (some ⟨w.heap.size,0,none⟩) 1 1) [(a,b,c)]:=by
 refine⟨w.heap.size,0,1,rfl,hB,by simp,Nat.le_refl _,by unfold maxLen;omega,rfl,fun j hj=> ?_,fun j hj=> ?_,fun j hj=> ?_⟩
 ·have Ha:j<3:=by simpa using hj
  rw [Nat.zero_add];match j,Ha with
  | 0,_=>simp [fCells]
  | 1,_=>simp [fCells]
  | 2,_=>simp [fCells]
 ·have Ha:j<3:=by simpa using hj
  rw [Nat.zero_add];match j,Ha with
  | 0,_=>simp
  | 1,_=>simp
  | 2,_=>simp
 ·simp
theorem OffR.at {w:World}{B g off c n:Nat}{l:List Rn}(h:OffR w B (.slice (some ⟨g,off,none⟩) n c) l)(i:Nat)(hi:i<l.length):
  (w.cell? ⟨g,off+i*3,none⟩=some (.int .i64 (gR l i).1)/\ w.cell? ⟨g,off+i*3+1,none⟩=some (.int .i64 (gR l i).2.1)/\ w.cell? ⟨g,off+i*3+2,none⟩=some (.int .i64 (gR l i).2.2))/\ w.frozen? ⟨g,off+i*3,none⟩=false/\ w.frozen? ⟨g,off+i*3+1,none⟩=false/\ w.frozen? ⟨g,off+i*3+2,none⟩=false:=by
 obtain⟨g',Ha,c',e,hB,hg,hn,hc,hl,h1,h2,h3⟩:=h;injection e with e1 _ e3;injection e1 with e1;injection e1 with e1 e2 _;subst e1 e2 e3;obtain⟨k0,k1,k2⟩:=fr_key l i hi;have Hb:l.length*3<=c*3:=Nat.mul_le_mul_right _ hn;refine⟨⟨(h1 _ (by omega)).trans k0,?_,?_⟩,h3 _ (by omega),?_,?_⟩
 ·rw [Nat.add_assoc];exact(h1 _ (by omega)).trans k1
 ·rw [Nat.add_assoc];exact(h1 _ (by omega)).trans k2
 ·rw [Nat.add_assoc];exact h3 _ (by omega)
 ·rw [Nat.add_assoc];exact h3 _ (by omega)
theorem spoil_end {w1:World}{C g off c ii b4:Nat}{l:List Rn}(h:OffR w1 C (.slice (some ⟨g,off,none⟩) l.length c) l)(hi:ii<l.length)(m1:w1.cell? ⟨b4,0,none⟩=some (.slice none 0 0))(hg:g≠b4)(hC:C<=b4)(hz:b4<w1.heap.size)(a b d:Int)(o:Obj):
  OffR (((((w1.setCell ⟨g,off+ii*3,none⟩ (.int .i64 a)).setCell ⟨g,off+ii*3+1,none⟩ (.int .i64 b)).setCell ⟨g,off+ii*3+2,none⟩ (.int .i64 d)).setCell ⟨b4,0,none⟩ (.slice (some ⟨g,off,none⟩) l.length c)).alloc o) C (.slice (some ⟨g,off,none⟩) l.length c) (l.set ii (a,b,d))/\
  Below C w1 (((((w1.setCell ⟨g,off+ii*3,none⟩ (.int .i64 a)).setCell ⟨g,off+ii*3+1,none⟩ (.int .i64 b)).setCell ⟨g,off+ii*3+2,none⟩ (.int .i64 d)).setCell ⟨b4,0,none⟩ (.slice (some ⟨g,off,none⟩) l.length c)).alloc o)/\
  (((((w1.setCell ⟨g,off+ii*3,none⟩ (.int .i64 a)).setCell ⟨g,off+ii*3+1,none⟩ (.int .i64 b)).setCell ⟨g,off+ii*3+2,none⟩ (.int .i64 d)).setCell ⟨b4,0,none⟩ (.slice (some ⟨g,off,none⟩) l.length c)).alloc o).cell? ⟨b4,0,none⟩=some (.slice (some ⟨g,off,none⟩) l.length c):=by
 obtain⟨g',e1,Ha,_⟩:=OffV.lt h;have Hb:g=g':=by simpa [Value.ownBlock] using e1
 subst Hb;have hp:=h.put ii hi a b d;obtain⟨W,hW⟩:∃W,((w1.setCell ⟨g,off+ii*3,none⟩ (.int .i64 a)).setCell ⟨g,off+ii*3+1,none⟩ (.int .i64 b)).setCell ⟨g,off+ii*3+2,none⟩ (.int .i64 d)=W:=⟨_,rfl⟩;have bW:Below C w1 W:=by rw [<- hW];exact((zI.setCell (p:=⟨g,off+ii*3,none⟩) Ha _).setCell (p:=⟨g,off+ii*3+1,none⟩) Ha _).setCell (p:=⟨g,off+ii*3+2,none⟩) Ha _
 have zW:W.heap.size=w1.heap.size:=by rw [<- hW];simp [World.setCell]
 have mW:W.cell? ⟨b4,0,none⟩=some (.slice none 0 0):=by
  rw [<- hW];have q:∀(X:World) (o:Nat) (u:Value),(X.setCell ⟨g,o,none⟩ u).cell? ⟨b4,0,none⟩=X.cell? ⟨b4,0,none⟩:=fun X o u=>World.cell?_setCell_other _ _ _ _ (fun e=>hg (by injection e));rw [q,q,q];exact m1
 rw [hW] at hp ⊢;have hs:W.grownBy (W.setCell ⟨b4,0,none⟩ (.slice (some ⟨g,off,none⟩) l.length c)) (some b4):=⟨rfl,rfl,rfl,by simp [World.setCell],fun k hk hne=>zH _ _ _ _ (fun e=>hne (by rw [e]))⟩;have zS:(W.setCell ⟨b4,0,none⟩ (.slice (some ⟨g,off,none⟩) l.length c)).heap.size=w1.heap.size:=by rw [<- zW];simp [World.setCell]
 have bA:=(Below.refl w1.heap.size (W.setCell ⟨b4,0,none⟩ (.slice (some ⟨g,off,none⟩) l.length c))).alloc (by rw [zS];exact Nat.le_refl _) o;refine⟨OffV.below (OffV.gr hp hs (fun e=>by simp [Value.ownBlock] at e;exact hg e)) bA (by rw [zS];exact Nat.le_refl _),(bW.setCell (p:=⟨b4,0,none⟩) hC _).alloc (by rw [zS];omega) o,?_⟩;exact(bA.cell (p:=⟨b4,0,none⟩) hz).trans (World.cell?_setCell_same _ _ _ mW)
theorem spoil_end2 {w1:World}{C g off c ii b4:Nat}{l:List Rn}(h:OffR w1 C (.slice (some ⟨g,off,none⟩) l.length c) l)(hi:ii<l.length)(m1:w1.cell? ⟨b4,0,none⟩=some (.slice none 0 0))(hg:g≠b4)(hC:C<=b4)(a b d:Int):
  OffR ((((w1.setCell ⟨g,off+ii*3,none⟩ (.int .i64 a)).setCell ⟨g,off+ii*3+1,none⟩ (.int .i64 b)).setCell ⟨g,off+ii*3+2,none⟩ (.int .i64 d)).setCell ⟨b4,0,none⟩ (.slice (some ⟨g,off,none⟩) l.length c)) C (.slice (some ⟨g,off,none⟩) l.length c) (l.set ii (a,b,d))/\
  Below C w1 ((((w1.setCell ⟨g,off+ii*3,none⟩ (.int .i64 a)).setCell ⟨g,off+ii*3+1,none⟩ (.int .i64 b)).setCell ⟨g,off+ii*3+2,none⟩ (.int .i64 d)).setCell ⟨b4,0,none⟩ (.slice (some ⟨g,off,none⟩) l.length c))/\
  ((((w1.setCell ⟨g,off+ii*3,none⟩ (.int .i64 a)).setCell ⟨g,off+ii*3+1,none⟩ (.int .i64 b)).setCell ⟨g,off+ii*3+2,none⟩ (.int .i64 d)).setCell ⟨b4,0,none⟩ (.slice (some ⟨g,off,none⟩) l.length c)).cell? ⟨b4,0,none⟩=some (.slice (some ⟨g,off,none⟩) l.length c):=by
 obtain⟨g',e1,Ha,_⟩:=OffV.lt h;have Hb:g=g':=by simpa [Value.ownBlock] using e1
 subst Hb;have hp:=h.put ii hi a b d;obtain⟨W,hW⟩:∃W,((w1.setCell ⟨g,off+ii*3,none⟩ (.int .i64 a)).setCell ⟨g,off+ii*3+1,none⟩ (.int .i64 b)).setCell ⟨g,off+ii*3+2,none⟩ (.int .i64 d)=W:=⟨_,rfl⟩;have bW:Below C w1 W:=by rw [<- hW];exact((zI.setCell (p:=⟨g,off+ii*3,none⟩) Ha _).setCell (p:=⟨g,off+ii*3+1,none⟩) Ha _).setCell (p:=⟨g,off+ii*3+2,none⟩) Ha _
 have mW:W.cell? ⟨b4,0,none⟩=some (.slice none 0 0):=by
  rw [<- hW];have q:∀(X:World) (o:Nat) (u:Value),(X.setCell ⟨g,o,none⟩ u).cell? ⟨b4,0,none⟩=X.cell? ⟨b4,0,none⟩:=fun X o u=>World.cell?_setCell_other _ _ _ _ (fun e=>hg (by injection e));rw [q,q,q];exact m1
 rw [hW] at hp ⊢;have hs:W.grownBy (W.setCell ⟨b4,0,none⟩ (.slice (some ⟨g,off,none⟩) l.length c)) (some b4):=⟨rfl,rfl,rfl,by simp [World.setCell],fun k hk hne=>zH _ _ _ _ (fun e=>hne (by rw [e]))⟩;exact⟨OffV.gr hp hs (fun e=>by simp [Value.ownBlock] at e;exact hg e),bW.setCell (p:=⟨b4,0,none⟩) hC _,World.cell?_setCell_same _ _ _ mW⟩
theorem step_app_off {P:Program}{w:World}{ops:Array Oper}{o:Oper}{a:Act}{K:Act ->World ->Prop}{Q:Exit ->Act ->World ->Prop}{E:Prop}(hgd:o.guard=none)(s x:Operand)(t:TypeId)
  (ho:o.op=.call {callee:=.builtin .append,args:=#[s,x],argTypes:=#[t,t]})
  (base:Nat) (e:TypeId) (i:TypeInfo) (z:Value) (size bytes:Nat) (ht:P.underlying t=some (.slice e)) (hi:P.info? e=some i) (hz:i.zero=some z)
  (hsize:i.size=size) (hby:i.bytes=bytes) (hzs:z.cells.size=size)
  (v:Value) (n:Nat) (xs:List Value) (hs:a.eval s=v) (hown:OffV w base size v n xs)
  (ad:Addr) (m c:Nat) (news:List Value) (hx:a.eval x=.slice (some ad) m c) (hl:news.length=m*size) (hnews:∀j u,news[j]? =some u ->w.cell? (ad.add j)=some u) (h1:∀u∈news,u.oneCell'=true)
  (h63:n+m<=maxLen) (hbytes:(n+m)*bytes<=140737488355328) (hbase:base<=w.heap.size)
  (h:∀g' o' c' w',OffV w' base size (.slice (some ⟨g',o',none⟩) (n+m) c') (n+m) (xs++news) ->w.grownBy w' v.ownBlock ->(some g'=v.ownBlock \/some g'=some w.heap.size) ->K (a.put o.dst (.slice (some ⟨g',o',none⟩) (n+m) c')) w'):
  if Region.wanted o (yielded ops a.tmps)=true then Oper.wp P o a w K Q else E:=by
 have hw:Region.wanted o (yielded ops a.tmps)=true:=by simp [Region.wanted,hgd]
 rw [if_pos hw];refine wp_app_off s x t ho base e i z size bytes ht hi hz hsize hby hzs v n xs hs hown ad m c news hx hl hnews h1 h63 hbytes hbase (fun v' w' h2 h3 h4=> ?_);obtain⟨g',o',c',rfl,r⟩:=h2;exact h g' o' c' w' ⟨g',o',c',rfl,r⟩ h3 (h4.imp id id)
theorem spoil_mid {W2 w7:World}{C b3 b4 b7 g g7 o7 c7 ii:Nat}{L:List Rn}{u3 p0 p1 p2:Value}(hg:W2.grownBy w7 (some g))(ho:OffR w7 C (.slice (some ⟨g7,o7,none⟩) L.length c7) L)(hl:g7=g \/W2.heap.size<=g7)(h3:b3<W2.heap.size)(h4:b4<W2.heap.size)(h7:b7<W2.heap.size)(n3:g≠b3)(n4:g≠b4)(n7:g≠b7)(n34:b3≠b4)(n37:b3≠b7)(hC3:C<=b3)(hCg:C<=g)(hCW:C<=W2.heap.size)
  (c3:W2.cell? ⟨b3,0,none⟩=some u3) (f3:W2.frozen? ⟨b3,0,none⟩=false) (c4:W2.cell? ⟨b4,0,none⟩=some (.slice none 0 0)) (f4:W2.frozen? ⟨b4,0,none⟩=false) (q0:W2.cell? ⟨b7,0,none⟩=some p0) (q1:W2.cell? ⟨b7,1,none⟩=some p1) (q2:W2.cell? ⟨b7,2,none⟩=some p2):
  (w7.cell? ⟨b3,0,none⟩=some u3/\ w7.frozen? ⟨b3,0,none⟩=false/\ g7≠b4/\ g7≠b3)/\∀W8,w7.setCell ⟨b3,0,none⟩ (.slice (some ⟨g7,o7,none⟩) L.length c7)=W8 ->
   W8.cell? ⟨b3,0,none⟩=some (.slice (some ⟨g7,o7,none⟩) L.length c7)/\ W8.cell? ⟨b4,0,none⟩=some (.slice none 0 0)/\ W8.frozen? ⟨b4,0,none⟩=false/\ W8.cell? ⟨b7,0,none⟩=some p0/\ W8.cell? ⟨b7,1,none⟩=some p1/\ W8.cell? ⟨b7,2,none⟩=some p2/\ OffR W8 C (.slice (some ⟨g7,o7,none⟩) L.length c7) L/\ Below C W2 W8:=by
 have e3:=hg.block b3 h3 (fun e=>n3 (by injection e with e;exact e.symm));have e4:=hg.block b4 h4 (fun e=>n4 (by injection e with e;exact e.symm));have e7:=hg.block b7 h7 (fun e=>n7 (by injection e with e;exact e.symm));have d3:=(World.cell?_of_block (a:=⟨b3,0,none⟩) e3).trans c3;refine⟨⟨d3,(World.frozen?_of_block (a:=⟨b3,0,none⟩) e3).trans f3,by rcases hl with h|h<;>omega,by rcases hl with h|h<;>omega⟩,?_⟩;rintro W8 rfl;have q:∀(b o:Nat) (u:Value),b3≠b ->(w7.setCell ⟨b3,0,none⟩ u).cell? ⟨b,o,none⟩=w7.cell? ⟨b,o,none⟩:=fun b o u hb=>World.cell?_setCell_other _ _ _ _ (fun e=>hb (by injection e));have hs:∀u,w7.grownBy (w7.setCell ⟨b3,0,none⟩ u) (some b3):=fun u=>⟨rfl,rfl,rfl,by simp [World.setCell],fun k hk hne=>zH _ _ _ _ (fun e=>hne (by rw [e]))⟩;have Ha:Below C W2 w7:=zI.grown hg hCW (fun k e=>by injection e with e;omega);refine⟨World.cell?_setCell_same _ _ _ d3,?_,?_,?_,?_,?_,OffV.gr ho (hs _) (fun e=>by simp [Value.ownBlock] at e;rcases hl with h|h<;>omega),Ha.setCell (p:=⟨b3,0,none⟩) hC3 _⟩
 ·rw [q _ _ _ n34];exact(World.cell?_of_block (a:=⟨b4,0,none⟩) e4).trans c4
 ·rw [World.frozen?_setCell];exact(World.frozen?_of_block (a:=⟨b4,0,none⟩) e4).trans f4
 ·rw [q _ _ _ n37];exact(World.cell?_of_block (a:=⟨b7,0,none⟩) e7).trans q0
 ·rw [q _ _ _ n37];exact(World.cell?_of_block (a:=⟨b7,1,none⟩) e7).trans q1
 ·rw [q _ _ _ n37];exact(World.cell?_of_block (a:=⟨b7,2,none⟩) e7).trans q2
def spR (k:Nat)(p q:Rn)(l:List Rn)(i:Nat):List Rn:=
 if k%8=0 then l.set i (((k/8:Nat):Int) - 8,p.2.1,p.2.2)
 else if k%8=1 then l.set i (p.1,p.2.2+1,p.2.2)
 else if k%8=2 then l.set i (p.1,p.2.1,1000000001)
 else if k%8=3 then l.set i (p.1,0,p.2.2)
 else if k%8=4 then(l++[(p.1,p.2.2+1,p.2.2+2)]).set i p
 else if k%8=5 then(l++[p]).set i p
 else if k%8=6 then(l++[q]).set i p
 else l.set i (p.1,p.2.1 - 1,p.2.2)
def spF (k:Nat)(l:List Rn):List Rn:=if l.length=0 then [(0,0,(k:Int))] else spR k (gR l (k/8%l.length)) (gR l 0) l (k/8%l.length)
theorem spF_ok {k:Nat}{l:List Rn}(hk:k<256)(h:BRn l):(spF k l).length<=l.length+1/\ BSn (spF k l):=by
 unfold spF;split
 ·exact⟨by simp,fun p hp=>by simp at hp;subst hp;simp only;omega⟩
 ·rename_i h0;have hi:k/8%l.length<l.length:=Nat.mod_lt _ (by omega);have hp:=h _ (gR_mem hi);have hq:=h _ (gR_mem (show 0<l.length by omega));generalize k/8%l.length=i at hi hp ⊢;generalize gR l i=p at hp ⊢;generalize gR l 0=q at hq ⊢;obtain⟨p1,p2,p3⟩:=p;obtain⟨q1,q2,q3⟩:=q;simp only at hp hq;have b8:=h.bs;unfold spR;repeat' split
  all_goals refine⟨by simp,?_⟩
  all_goals first|exact b8.set i _ _ _ (by first|omega|(simp only;omega))|exact(b8.snoc _ _ _ (by first|omega|(simp only;omega))).set i _ _ _ (by first|omega|(simp only;omega))
theorem spoilJ (B rb C:Nat)(f:Nat ->Int)(n x:Nat)(v:Value)(l:List Rn)(w:World)(h:RdJ w B rb f n x)(hB:B<=C)(hC:C<=w.heap.size)(C0:Nat)(ho:OffR w C0 v l)(h0:l.length=0 \/C0=C)(hB0:B<=C0)(hl:l.length<=1001)(hbr:BRn l):
  Calls Tryz.prog 71 #[.pointer (some ⟨rb,0,none⟩),.agg #[v]] w fun e w'=>∃v',e=.returned (.agg #[v'])/\ OffR w' C v' (spF (rk f n x) l)/\ RdJ w' B rb f n (rx n x)/\ FrB w w' C rb:=by
 obtain⟨k,Gg⟩:∃k,rk f n x=k:=⟨_,rfl⟩;rw [Gg];obtain⟨i0,Ge,Go,Gp,Gq⟩:=info_parts Tryz.infoRun;obtain⟨g,Hi,c,rfl,G5,Kc,Kd,Gd,Ke⟩:=ho.fs;clear G5;obtain⟨W,hW⟩:∃W,(w.alloc (.cells #[.slice (some ⟨g,Hi,none⟩) l.length c] 26)).alloc (.cells #[.slice none 0 0] 26)=W:=⟨_,rfl⟩;have bW:Below w.heap.size w W:=by rw [<- hW];exact below2 _ _ _
 have k0:W.cell? ⟨w.heap.size,0,none⟩=some (.slice (some ⟨g,Hi,none⟩) l.length c):=by rw [<- hW];simp
 have k1:W.cell? ⟨w.heap.size+1,0,none⟩=some (.slice none 0 0):=by rw [<- hW];simp
 have f0:W.frozen? ⟨w.heap.size,0,none⟩=false:=by rw [<- hW];simp
 have f1:W.frozen? ⟨w.heap.size+1,0,none⟩=false:=by rw [<- hW];simp
 have zW:Hid (W.heap.size=w.heap.size+2):=by rw [<- hW];exact hid (by simp)
 have Ki:=h.lt;have HR:=hid (h.below (bW.mono (by omega)));have HO:=hid (OffV.below ho bW zL);have Hr:=hid bW;have hk:=rk_lt HR.out;have Gs:=hid (rdNextJ B rb f n x W HR.out);rw [Gg] at hk Gs;clear h bW ho Gg;go_enter Tryz.func71,Tryz.ntmps71;go_wp2_with fail;try rw [hW]
 clear hW;refine Gs.out.mono ?_;rintro e w1 ⟨rfl,r1,g1⟩;have z1:=g1.size;have zz:w.heap.size+1<w1.heap.size:=by have:=zW.out;omega
 have nb:some w.heap.size≠some rb:=fun e=>by injection e with e;omega
 have Kb:some (w.heap.size+1)≠some rb:=fun e=>by injection e with e;omega
 have e1:=g1.block w.heap.size (by have:=zW.out;omega) nb;have e2:=g1.block (w.heap.size+1) (by have:=zW.out;omega) Kb;have m0:=(World.cell?_of_block (a:=⟨w.heap.size,0,none⟩) e1).trans k0;have m1:=(World.cell?_of_block (a:=⟨w.heap.size+1,0,none⟩) e2).trans k1;have y0:=(World.frozen?_of_block (a:=⟨w.heap.size,0,none⟩) e1).trans f0;have y1:=(World.frozen?_of_block (a:=⟨w.heap.size+1,0,none⟩) e2).trans f1;have Gh:OffR w1 C0 (.slice (some ⟨g,Hi,none⟩) l.length c) l:=OffV.gr HO.out g1 (fun e=>by simp [Value.ownBlock] at e;omega);have Hn:=hid Gh;have Hl:Hid (∀W3:World,Below C w1 W3 ->RdJ W3 B rb f n (rx n x)/\ FrB w W3 C rb):=hid (fun W3 hb=>by
  refine⟨r1.below (hb.mono hB),hb.os.trans (g1.os.trans Hr.out.os),hb.tape.trans (g1.tape.trans Hr.out.tape),hb.output.trans (g1.output.trans Hr.out.output),Nat.le_trans Hr.out.size (Nat.le_trans g1.size hb.size),fun k hk hne=> ?_⟩;have q:=Hr.out.size;exact(hb.block k hk).trans ((g1.block k (by omega) (fun e=>hne (by injection e))).trans (Hr.out.block k (by omega))))
 have Hw:w.heap.size<w1.heap.size:=by omega
 have zg:g<w1.heap.size:=by have:=Hr.out.size;omega
 have Ht:g≠w.heap.size:=by omega
 have He:g≠w.heap.size+1:=by omega
 clear r1 g1 e1 e2 k0 k1 f0 f1 HR HO;by_cases H4:l.length=0
 ·have d0:((l.length:Int)==0)=true:=by rw [H4];rfl
  have OL:=hid (fun(X:World) (hX:C<=X.heap.size)=>OffR.lit1 X C hX 0 0 (k:Int));go_wp2_with fail;have zS:∀u,(w1.setCell ⟨w.heap.size+1,0,none⟩ u).heap.size=w1.heap.size:=fun u=>by simp [World.setCell]
  have oo:=OL.out (w1.setCell ⟨w.heap.size+1,0,none⟩ (.slice (some ⟨w1.heap.size,0,none⟩) 1 1)) (by rw [zS];omega);rw [zS] at oo;have bA:=(Below.refl w1.heap.size (w1.setCell ⟨w.heap.size+1,0,none⟩ (.slice (some ⟨w1.heap.size,0,none⟩) 1 1))).alloc (by rw [zS];exact Nat.le_refl _) (.cells #[.int .i64 0,.int .i64 0,.int .i64 (k:Int)] 96);have o3:=(bA.cell (p:=⟨w.heap.size+1,0,none⟩) zz).trans (World.cell?_setCell_same _ _ _ m1);obtain⟨q1,q2⟩:=Hl.out _ (((Below.refl C w1).setCell (p:=⟨w.heap.size+1,0,none⟩) (show C<=w.heap.size+1 by omega) (.slice (some ⟨w1.heap.size,0,none⟩) 1 1)).alloc (by rw [zS];omega) (.cells #[.int .i64 0,.int .i64 0,.int .i64 (k:Int)] 96));refine zF (v:=.agg #[.slice (some ⟨w1.heap.size,0,none⟩) 1 1]) (by simp [results,Tryz.results71,go_sem,o3]) ?_;exact⟨_,rfl,by unfold spF;rw [if_pos H4];exact oo,q1,q2⟩
 ·obtain rfl:C=C0:=(h0.resolve_left H4).symm;have d0:((l.length:Int)==0)=false:=by rw [beq_eq_false_iff_ne];omega
  obtain⟨mm,H3⟩:∃mm:Int,(k:Int)/8%(l.length:Int)=mm:=⟨_,rfl⟩;have Kg:0<=mm:=by rw [<- H3];exact Int.emod_nonneg _ (by omega)
  have Kh:mm<(l.length:Int):=by rw [<- H3];exact Int.emod_lt_of_pos _ (by omega)
  obtain⟨ii,rfl⟩:∃ii:Nat,mm=(ii:Int):=⟨mm.toNat,by omega⟩;have Hu:ii<l.length:=by omega
  obtain⟨⟨x0,x1,x2⟩,z0,Gr,z2⟩:=Gh.at ii Hu;have hp:=hbr (gR l ii) (gR_mem Hu);obtain⟨pr,Gm⟩:∃pr:Nat,(gR l ii).1=(pr:Int):=⟨((gR l ii).1).toNat,by omega⟩;obtain⟨Hc,Gl⟩:∃Hc:Nat,(gR l ii).2.1=(Hc:Int):=⟨((gR l ii).2.1).toNat,by omega⟩;obtain⟨pt,Gn⟩:∃pt:Nat,(gR l ii).2.2=(pt:Int):=⟨((gR l ii).2.2).toNat,by omega⟩;have Hp:Hid (spF k l=spR k ((pr:Int),(Hc:Int),(pt:Int)) (gR l 0) l ii):=hid (by
   have e1:k/8%l.length=ii:=by exact_mod_cast H3
   have e2:gR l ii=((pr:Int),(Hc:Int),(pt:Int)):=Prod.ext Gm (Prod.ext Gl Gn);unfold spF;rw [if_neg H4,e1,e2])
  rw [Gm,Gl,Gn] at hp;rw [Gm] at x0;rw [Gl] at x1;rw [Gn] at x2;have i1:(0:Int)<=(ii:Int):=Int.natCast_nonneg _;have i2:(ii:Int)<(l.length:Int):=by omega
  have Kk:¬(l.length:Int)=0:=by omega
  have Kl:Int.tmod ((k:Int)/8) (l.length:Int)=(ii:Int):=by rw [Int.tmod_eq_emod_of_nonneg (by omega)];exact H3
  have Ko:IntKind.i64.wrap (ii:Int)=(ii:Int):=by rw [IntKind.wrap_i64];omega
  clear Gh h0;obtain⟨k8,Kf⟩:∃k8:Nat,(k:Int)%8=(k8:Int):=⟨k%8,by omega⟩;have Gf:k8<8:=by omega
  have HK:Hid (k%8=k8):=hid (by omega);match k8,Gf with
  | 0,_=>
   obtain⟨a,ha⟩:∃a:Int,(k:Int)/8 - 8=a:=⟨_,rfl⟩;have wa:IntKind.i64.wrap ((k:Int)/8 - 8)=a:=by rw [IntKind.wrap_i64];omega
   go_wp2_with fail;obtain⟨o1,o2,o3⟩:=spoil_end Hn.out Hu m1 He (by omega) zz (a) ((Hc:Int)) ((pt:Int)) (.cells #[.int .i64 (a),.int .i64 ((Hc:Int)),.int .i64 ((pt:Int))] 96);obtain⟨q1,q2⟩:=Hl.out _ o2;refine zF (v:=.agg #[.slice (some ⟨g,Hi,none⟩) l.length c]) (by simp [results,Tryz.results71,go_sem,o3]) ?_;exact⟨_,rfl,by rw [Hp.out];unfold spR;rw [if_pos HK.out];rw [show ((k/8:Nat):Int) - 8=a by omega];exact o1,q1,q2⟩
  | 1,_=>
   obtain⟨a,ha⟩:∃a:Int,(pt:Int)+1=a:=⟨_,rfl⟩;have wa:IntKind.i64.wrap ((pt:Int)+1)=a:=by rw [IntKind.wrap_i64];omega
   go_wp2_with fail;obtain⟨o1,o2,o3⟩:=spoil_end Hn.out Hu m1 He (by omega) zz ((pr:Int)) (a) ((pt:Int)) (.cells #[.int .i64 ((pr:Int)),.int .i64 (a),.int .i64 ((pt:Int))] 96);obtain⟨q1,q2⟩:=Hl.out _ o2;refine zF (v:=.agg #[.slice (some ⟨g,Hi,none⟩) l.length c]) (by simp [results,Tryz.results71,go_sem,o3]) ?_;exact⟨_,rfl,by rw [Hp.out];unfold spR;rw [if_neg (by rw [HK.out];decide)];rw [if_pos HK.out];show OffR _ _ _ (l.set ii ((pr:Int),(pt:Int)+1,(pt:Int)));rw [ha];exact o1,q1,q2⟩
  | 2,_=>
   go_wp2_with fail;obtain⟨o1,o2,o3⟩:=spoil_end Hn.out Hu m1 He (by omega) zz ((pr:Int)) ((Hc:Int)) (1000000001) (.cells #[.int .i64 ((pr:Int)),.int .i64 ((Hc:Int)),.int .i64 (1000000001)] 96);obtain⟨q1,q2⟩:=Hl.out _ o2;refine zF (v:=.agg #[.slice (some ⟨g,Hi,none⟩) l.length c]) (by simp [results,Tryz.results71,go_sem,o3]) ?_;exact⟨_,rfl,by rw [Hp.out];unfold spR;rw [if_neg (by rw [HK.out];decide)];rw [if_neg (by rw [HK.out];decide)];rw [if_pos HK.out];exact o1,q1,q2⟩
  | 3,_=>
   go_wp2_with fail;obtain⟨o1,o2,o3⟩:=spoil_end Hn.out Hu m1 He (by omega) zz ((pr:Int)) (0) ((pt:Int)) (.cells #[.int .i64 ((pr:Int)),.int .i64 (0),.int .i64 ((pt:Int))] 96);obtain⟨q1,q2⟩:=Hl.out _ o2;refine zF (v:=.agg #[.slice (some ⟨g,Hi,none⟩) l.length c]) (by simp [results,Tryz.results71,go_sem,o3]) ?_;exact⟨_,rfl,by rw [Hp.out];unfold spR;rw [if_neg (by rw [HK.out];decide)];rw [if_neg (by rw [HK.out];decide)];rw [if_neg (by rw [HK.out];decide)];rw [if_pos HK.out];exact o1,q1,q2⟩
  | 4,_=>
   obtain⟨a1,G6⟩:∃a1:Int,(pt:Int)+1=a1:=⟨_,rfl⟩;obtain⟨a2,G7⟩:∃a2:Int,(pt:Int)+2=a2:=⟨_,rfl⟩;have Km:IntKind.i64.wrap ((pt:Int)+1)=a1:=by rw [IntKind.wrap_i64];omega
   have Kn:IntKind.i64.wrap ((pt:Int)+2)=a2:=by rw [IntKind.wrap_i64];omega
   obtain⟨W2,Hd⟩:∃W2,w1.alloc (.cells #[.int .i64 (pr:Int),.int .i64 (Hc:Int),.int .i64 (pt:Int)] 96)=W2:=⟨_,rfl⟩;have b2:Below w1.heap.size w1 W2:=by rw [<- Hd];exact zO _ _
   have Hj:Hid (W2.heap.size=w1.heap.size+1):=by rw [<- Hd];exact hid (by simp)
   have q0:W2.cell? ⟨w1.heap.size,0,none⟩=some (.int .i64 (pr:Int)):=by rw [<- Hd];simp
   have q1:W2.cell? ⟨w1.heap.size,1,none⟩=some (.int .i64 (Hc:Int)):=by rw [<- Hd];simp
   have q2:W2.cell? ⟨w1.heap.size,2,none⟩=some (.int .i64 (pt:Int)):=by rw [<- Hd];simp
   have n0:=(b2.cell (p:=⟨w.heap.size,0,none⟩) Hw).trans m0;have n1:=(b2.cell (p:=⟨w.heap.size+1,0,none⟩) zz).trans m1;have u0:=(b2.frozen (p:=⟨w.heap.size,0,none⟩) Hw).trans y0;have u1:=(b2.frozen (p:=⟨w.heap.size+1,0,none⟩) zz).trans y1;have Ho:=hid (OffV.below (OffV.below Hn.out b2 zL) (zO W2 (.cells #[.int .i64 (pr:Int),.int .i64 a1,.int .i64 a2] 96)) zL);have Hm:=hid (cell3A W2 (.int .i64 (pr:Int)) (.int .i64 a1) (.int .i64 a2) 96);have Hx:=hid b2;clear b2;go_wp2_with (at_builtin;refine wpList_app_off rfl _ _ 24 rfl C 96 i0 _ 3 24 Tryz.underlying24 Ge Go Gp Gq rfl _ _ _ rfl Ho.out ⟨W2.heap.size,0,none⟩ 1 1 [.int .i64 (pr:Int),.int .i64 a1,.int .i64 a2] ?f0 rfl ?f1 ?f2 ?f3 ?f4 ?f5 ?_);case f0=>rfl
   case f1=>exact Hm.out
   case f2=>intro u hu;simp at hu;rcases hu with rfl|rfl|rfl<;>rfl
   case f3=>unfold maxLen;omega
   case f4=>omega
   case f5=>have:=Hj.out;simp;omega
   intro v7 w7 Hb Hf Ha;have gg:W2.grownBy w7 (some g):=(World.grownBy_alloc W2 _ _).trans Hf;obtain⟨L,hL⟩:∃L,l++[((pr:Int),a1,a2)]=L:=⟨_,rfl⟩;have Hh:L.length=l.length+1:=by rw [<- hL];simp
   have Hk:OffR w7 C v7 L:=by unfold OffR;rw [Hh,<- hL,fCells_append];exact Hb
   have H7:Hid (l++[((pr:Int),(pt:Int)+1,(pt:Int)+2)]=L):=hid (by rw [<- hL,G6,G7]);obtain⟨g7,o7,c7,rfl,_,G8,H9,G9,_⟩:=Hk.fs;have Hg:g7=g \/W2.heap.size<=g7:=by
    rcases Ha with q|q
    ·simp [Value.ownBlock] at q;exact .inl q
    ·simp [Value.ownBlock] at q;exact .inr (by omega)
   have H6:=Hj.out;obtain⟨⟨d3,H8,H1,Gu⟩,Hq⟩:=spoil_mid gg Hk Hg (b3:=w.heap.size) (b4:=w.heap.size+1) (b7:=w1.heap.size) (ii:=ii) (by omega) (by omega) (by omega) Ht He (by omega) (by omega) (by omega) (by omega) Gd (by omega) n0 u0 n1 u1 q0 q1 q2;obtain⟨W8,Hs⟩:∃W8,w7.setCell ⟨w.heap.size,0,none⟩ (.slice (some ⟨g7,o7,none⟩) L.length c7)=W8:=⟨_,rfl⟩;obtain⟨s3,s4,H5,t0,t1,t2,o8,b8⟩:=Hq W8 Hs;obtain⟨⟨Gv,Gw,Gx⟩,Gy,H2,Gz⟩:=o8.at ii (by omega);have i3:(ii:Int)<(L.length:Int):=by omega
   have H0:=hid o8;have Hy:Hid (Below C w1 W8):=hid ((Hx.out.mono (by omega)).trans b8);have Hv:=hid Hh;have HD:=hid H1;clear Hb Hf Ha gg Hk Hh hL Hq o8 b8 n0 n1 u0 u1 q0 q1 q2 x0 x1 x2 z0 Gr z2 Ho Hm H6 Hg m0 m1 y0 y1 Hd;go_wp2_with fail;obtain⟨o1,o2,o3⟩:=spoil_end2 (ii:=ii) H0.out (by have:=Hv.out;omega) s4 HD.out (by omega) (pr:Int) (Hc:Int) (pt:Int);obtain⟨q1,q2⟩:=Hl.out _ (Hy.out.trans o2);refine zF (v:=.agg #[.slice (some ⟨g7,o7,none⟩) L.length c7]) (by simp [results,Tryz.results71,go_sem,o3]) ?_;exact⟨_,rfl,by rw [Hp.out];unfold spR;rw [if_neg (by rw [HK.out];decide)];rw [if_neg (by rw [HK.out];decide)];rw [if_neg (by rw [HK.out];decide)];rw [if_neg (by rw [HK.out];decide)];rw [if_pos HK.out];rw [H7.out];exact o1,q1,q2⟩
  | 5,_=>
   obtain⟨W2,Hd⟩:∃W2,w1.alloc (.cells #[.int .i64 (pr:Int),.int .i64 (Hc:Int),.int .i64 (pt:Int)] 96)=W2:=⟨_,rfl⟩;have b2:Below w1.heap.size w1 W2:=by rw [<- Hd];exact zO _ _
   have Hj:Hid (W2.heap.size=w1.heap.size+1):=by rw [<- Hd];exact hid (by simp)
   have q0:W2.cell? ⟨w1.heap.size,0,none⟩=some (.int .i64 (pr:Int)):=by rw [<- Hd];simp
   have q1:W2.cell? ⟨w1.heap.size,1,none⟩=some (.int .i64 (Hc:Int)):=by rw [<- Hd];simp
   have q2:W2.cell? ⟨w1.heap.size,2,none⟩=some (.int .i64 (pt:Int)):=by rw [<- Hd];simp
   have n0:=(b2.cell (p:=⟨w.heap.size,0,none⟩) Hw).trans m0;have n1:=(b2.cell (p:=⟨w.heap.size+1,0,none⟩) zz).trans m1;have u0:=(b2.frozen (p:=⟨w.heap.size,0,none⟩) Hw).trans y0;have u1:=(b2.frozen (p:=⟨w.heap.size+1,0,none⟩) zz).trans y1;have Ho:=hid (OffV.below (OffV.below Hn.out b2 zL) (zO W2 (.cells #[.int .i64 (pr:Int),.int .i64 (Hc:Int),.int .i64 (pt:Int)] 96)) zL);have Hm:=hid (cell3A W2 (.int .i64 (pr:Int)) (.int .i64 (Hc:Int)) (.int .i64 (pt:Int)) 96);have Hx:=hid b2;clear b2;go_wp2_with (at_builtin;refine wpList_app_off rfl _ _ 24 rfl C 96 i0 _ 3 24 Tryz.underlying24 Ge Go Gp Gq rfl _ _ _ rfl Ho.out ⟨W2.heap.size,0,none⟩ 1 1 [.int .i64 (pr:Int),.int .i64 (Hc:Int),.int .i64 (pt:Int)] ?k0 rfl ?k1 ?k2 ?k3 ?k4 ?k5 ?_);case k0=>rfl
   case k1=>exact Hm.out
   case k2=>intro u hu;simp at hu;rcases hu with rfl|rfl|rfl<;>rfl
   case k3=>unfold maxLen;omega
   case k4=>omega
   case k5=>have:=Hj.out;simp;omega
   intro v7 w7 Hb Hf Ha;have gg:W2.grownBy w7 (some g):=(World.grownBy_alloc W2 _ _).trans Hf;obtain⟨L,hL⟩:∃L,l++[((pr:Int),(Hc:Int),(pt:Int))]=L:=⟨_,rfl⟩;have Hh:L.length=l.length+1:=by rw [<- hL];simp
   have Hk:OffR w7 C v7 L:=by unfold OffR;rw [Hh,<- hL,fCells_append];exact Hb
   have H7:Hid (l++[((pr:Int),(Hc:Int),(pt:Int))]=L):=hid hL;obtain⟨g7,o7,c7,rfl,_,G8,H9,G9,_⟩:=Hk.fs;have Hg:g7=g \/W2.heap.size<=g7:=by
    rcases Ha with q|q
    ·simp [Value.ownBlock] at q;exact .inl q
    ·simp [Value.ownBlock] at q;exact .inr (by omega)
   have H6:=Hj.out;obtain⟨⟨d3,H8,H1,Gu⟩,Hq⟩:=spoil_mid gg Hk Hg (b3:=w.heap.size) (b4:=w.heap.size+1) (b7:=w1.heap.size) (ii:=ii) (by omega) (by omega) (by omega) Ht He (by omega) (by omega) (by omega) (by omega) Gd (by omega) n0 u0 n1 u1 q0 q1 q2;obtain⟨W8,Hs⟩:∃W8,w7.setCell ⟨w.heap.size,0,none⟩ (.slice (some ⟨g7,o7,none⟩) L.length c7)=W8:=⟨_,rfl⟩;obtain⟨s3,s4,H5,t0,t1,t2,o8,b8⟩:=Hq W8 Hs;obtain⟨⟨Gv,Gw,Gx⟩,Gy,H2,Gz⟩:=o8.at ii (by omega);have i3:(ii:Int)<(L.length:Int):=by omega
   have H0:=hid o8;have Hy:Hid (Below C w1 W8):=hid ((Hx.out.mono (by omega)).trans b8);have Hv:=hid Hh;have HD:=hid H1;clear Hb Hf Ha gg Hk Hh hL Hq o8 b8 n0 n1 u0 u1 q0 q1 q2 x0 x1 x2 z0 Gr z2 Ho Hm H6 Hg m0 m1 y0 y1 Hd;go_wp2_with fail;obtain⟨o1,o2,o3⟩:=spoil_end2 (ii:=ii) H0.out (by have:=Hv.out;omega) s4 HD.out (by omega) (pr:Int) (Hc:Int) (pt:Int);obtain⟨q1,q2⟩:=Hl.out _ (Hy.out.trans o2);refine zF (v:=.agg #[.slice (some ⟨g7,o7,none⟩) L.length c7]) (by simp [results,Tryz.results71,go_sem,o3]) ?_;exact⟨_,rfl,by rw [Hp.out];unfold spR;rw [if_neg (by rw [HK.out];decide)];rw [if_neg (by rw [HK.out];decide)];rw [if_neg (by rw [HK.out];decide)];rw [if_neg (by rw [HK.out];decide)];rw [if_neg (by rw [HK.out];decide)];rw [if_pos HK.out];rw [H7.out];exact o1,q1,q2⟩
  | 6,_=>
   obtain⟨W2,Hd⟩:∃W2,w1.alloc (.cells #[.int .i64 (pr:Int),.int .i64 (Hc:Int),.int .i64 (pt:Int)] 96)=W2:=⟨_,rfl⟩;have b2:Below w1.heap.size w1 W2:=by rw [<- Hd];exact zO _ _
   have Hj:Hid (W2.heap.size=w1.heap.size+1):=by rw [<- Hd];exact hid (by simp)
   have q0:W2.cell? ⟨w1.heap.size,0,none⟩=some (.int .i64 (pr:Int)):=by rw [<- Hd];simp
   have q1:W2.cell? ⟨w1.heap.size,1,none⟩=some (.int .i64 (Hc:Int)):=by rw [<- Hd];simp
   have q2:W2.cell? ⟨w1.heap.size,2,none⟩=some (.int .i64 (pt:Int)):=by rw [<- Hd];simp
   have n0:=(b2.cell (p:=⟨w.heap.size,0,none⟩) Hw).trans m0;have n1:=(b2.cell (p:=⟨w.heap.size+1,0,none⟩) zz).trans m1;have u0:=(b2.frozen (p:=⟨w.heap.size,0,none⟩) Hw).trans y0;have u1:=(b2.frozen (p:=⟨w.heap.size+1,0,none⟩) zz).trans y1;have Gi:OffR W2 C (.slice (some ⟨g,Hi,none⟩) l.length c) l:=OffV.below Hn.out b2 zL;obtain⟨⟨e0,e1,e2⟩,_⟩:=Gi.at 0 (by omega);rw [Nat.zero_mul,Nat.add_zero] at e0 e1 e2;have Gk:=hbr (gR l 0) (gR_mem (show 0<l.length by omega));obtain⟨fr,Gb⟩:∃fr:Int,(gR l 0).1=fr:=⟨_,rfl⟩;obtain⟨ff,Ga⟩:∃ff:Int,(gR l 0).2.1=ff:=⟨_,rfl⟩;obtain⟨ft,Gc⟩:∃ft:Int,(gR l 0).2.2=ft:=⟨_,rfl⟩;have G0:Hid (gR l 0=(fr,ff,ft)):=hid (Prod.ext Gb (Prod.ext Ga Gc));rw [Gb] at e0 Gk;rw [Ga] at e1 Gk;rw [Gc] at e2 Gk;have Kp:w.heap.size<W2.heap.size:=by have:=Hj.out;omega
   have Kq:g<W2.heap.size:=by have:=Hj.out;omega
   have i4:0<l.length:=by omega
   have Kj:(0<l.length)=True:=by simp;omega
   have Ho:=hid (OffV.below Gi (zO W2 (.cells #[.int .i64 fr,.int .i64 ff,.int .i64 ft] 96)) zL);have Hm:=hid (cell3A W2 (.int .i64 fr) (.int .i64 ff) (.int .i64 ft) 96);have Hx:=hid b2;clear b2 Gi Gb Ga Gc;go_wp2_with fail;have G1:Hid (∀u∈[Value.int .i64 fr,.int .i64 ff,.int .i64 ft],u.oneCell'=true):=hid (fun u hu=>by simp at hu;rcases hu with rfl|rfl|rfl<;>rfl);have G2:Hid (l.length+1<=maxLen):=hid (by unfold maxLen;omega);have G3:Hid ((l.length+1)*24<=140737488355328):=hid (by omega);have G4:Hid (C<=((W2.alloc (.cells #[.int .i64 fr,.int .i64 ff,.int .i64 ft] 96)).drew).heap.size):=hid (by have:=Hj.out;show C<=(W2.alloc _).heap.size;simp;omega);have Gt:Hid (OffV (W2.alloc (.cells #[.int .i64 fr,.int .i64 ff,.int .i64 ft] 96)).drew C 3 (.slice (some ⟨g,Hi,none⟩) l.length c) l.length (fCells l)):=hid (OffV.below Ho.out zI.drew zL);have Hz:Hid (∀(g7 o7 c7:Nat) (w7:World),OffV w7 C 3 (.slice (some ⟨g7,o7,none⟩) (l.length+1) c7) (l.length+1) (fCells l++[.int .i64 fr,.int .i64 ff,.int .i64 ft]) ->(W2.alloc (.cells #[.int .i64 fr,.int .i64 ff,.int .i64 ft] 96)).drew.grownBy w7 (some g) ->(some g7=some g \/g7=W2.heap.size+1) ->(w7.cell? ⟨w.heap.size,0,none⟩=some (.slice (some ⟨g,Hi,none⟩) l.length c)/\ w7.frozen? ⟨w.heap.size,0,none⟩=false/\ g7≠w.heap.size+1/\ g7≠w.heap.size)/\∀W8,w7.setCell ⟨w.heap.size,0,none⟩ (.slice (some ⟨g7,o7,none⟩) (l.length+1) c7)=W8 ->
     W8.cell? ⟨w.heap.size,0,none⟩=some (.slice (some ⟨g7,o7,none⟩) (l.length+1) c7)/\ W8.cell? ⟨w.heap.size+1,0,none⟩=some (.slice none 0 0)/\ W8.frozen? ⟨w.heap.size+1,0,none⟩=false/\ W8.cell? ⟨w1.heap.size,0,none⟩=some (.int .i64 (pr:Int))/\ W8.cell? ⟨w1.heap.size,1,none⟩=some (.int .i64 (Hc:Int))/\ W8.cell? ⟨w1.heap.size,2,none⟩=some (.int .i64 (pt:Int))/\ OffR W8 C (.slice (some ⟨g7,o7,none⟩) (l.length+1) c7) (l++[(fr,ff,ft)])/\ Below C w1 W8):=hid (by
    intro g7 o7 c7 w7 Gj Ka Hg;have H6:=Hj.out;have gg:W2.grownBy w7 (some g):=(World.grownBy_alloc W2 _ _).trans ((show (W2.alloc (.cells #[.int .i64 fr,.int .i64 ff,.int .i64 ft] 96)).grownBy (W2.alloc (.cells #[.int .i64 fr,.int .i64 ff,.int .i64 ft] 96)).drew (some g) from⟨rfl,rfl,rfl,Nat.le_refl _,fun _ _ _=>rfl⟩).trans Ka);have Hh:(l++[(fr,ff,ft)]).length=l.length+1:=by simp
    have Hk:OffR w7 C (.slice (some ⟨g7,o7,none⟩) (l++[(fr,ff,ft)]).length c7) (l++[(fr,ff,ft)]):=by unfold OffR;rw [Hh,fCells_append];exact Gj
    obtain⟨m1,m2⟩:=spoil_mid gg Hk (by rcases Hg with q|q;exact .inl (by injection q);exact .inr (by omega)) (b3:=w.heap.size) (b4:=w.heap.size+1) (b7:=w1.heap.size) (ii:=ii) (by omega) (by omega) (by omega) Ht He (by omega) (by omega) (by omega) (by omega) Gd (by omega) n0 u0 n1 u1 q0 q1 q2;rw [Hh] at m2;refine⟨m1,fun W8 h8=> ?_⟩;obtain⟨s3,s4,H5,t0,t1,t2,o8,b8⟩:=m2 W8 h8;exact⟨s3,s4,H5,t0,t1,t2,o8,(Hx.out.mono (by omega)).trans b8⟩)
   go_region_law (
    refine step_app_off (w:=(W2.alloc (.cells #[.int .i64 fr,.int .i64 ff,.int .i64 ft] 96)).drew) rfl _ _ 24 rfl C 96 i0 _ 3 24 Tryz.underlying24 Ge Go Gp Gq rfl _ _ _ rfl Gt.out ⟨W2.heap.size,0,none⟩ 1 1 [.int .i64 fr,.int .i64 ff,.int .i64 ft] rfl rfl Hm.out G1.out G2.out G3.out G4.out ?_
    intro g7 o7 c7 w7 Hb Hf Ha
    obtain⟨⟨d3,H8,H1,Gu⟩,Hq⟩:=Hz.out g7 o7 c7 w7 Hb Hf (by rcases Ha with q|q;exact .inl q;exact .inr (by injection q with q;simpa using q)))
   all_goals (
    obtain⟨W8,Hs⟩:∃W8,w7.setCell ⟨w.heap.size,0,none⟩ (.slice (some ⟨g7,o7,none⟩) (l.length+1) c7)=W8:=⟨_,rfl⟩;obtain⟨s3,s4,H5,t0,t1,t2,o8,b8⟩:=Hq W8 Hs;rw [Hs];have Hh:(l++[(fr,ff,ft)]).length=l.length+1:=by simp
    obtain⟨⟨Gv,Gw,Gx⟩,Gy,H2,Gz⟩:=o8.at ii (by omega);have i3:(ii:Int)<((l.length:Nat):Int)+1:=by omega
    rw [<- Hh] at o8;have H0:=hid o8;have Hy:=hid b8;have Hv:=hid Hh;have HD:=hid H1;clear Hb Hf Ha Hh Hq o8 b8 n0 n1 u0 u1 q0 q1 q2 x0 x1 x2 z0 Gr z2 Ho Gt Hm m0 m1 y0 y1 Hd Hz e0 e1 e2 Hs d3 H8;go_wp2_with fail;obtain⟨o1,o2,o3⟩:=spoil_end2 (ii:=ii) H0.out (by have:=Hv.out;omega) s4 HD.out (by omega) (pr:Int) (Hc:Int) (pt:Int);rw [Hv.out] at o1 o2 o3;obtain⟨q1,q2⟩:=Hl.out _ (Hy.out.trans o2);refine zF (v:=.agg #[.slice (some ⟨g7,o7,none⟩) (l.length+1) c7]) (by simp [results,Tryz.results71,go_sem,o3]) ?_;exact⟨_,rfl,by rw [Hp.out];unfold spR;rw [if_neg (by rw [HK.out];decide)];rw [if_neg (by rw [HK.out];decide)];rw [if_neg (by rw [HK.out];decide)];rw [if_neg (by rw [HK.out];decide)];rw [if_neg (by rw [HK.out];decide)];rw [if_neg (by rw [HK.out];decide)];rw [if_pos HK.out];rw [G0.out];exact o1,q1,q2⟩)
  | 7,_=>
   obtain⟨a,ha⟩:∃a:Int,(Hc:Int) - 1=a:=⟨_,rfl⟩;have wa:IntKind.i64.wrap ((Hc:Int) - 1)=a:=by rw [IntKind.wrap_i64];omega
   go_wp2_with fail;obtain⟨o1,o2,o3⟩:=spoil_end Hn.out Hu m1 He (by omega) zz ((pr:Int)) (a) ((pt:Int)) (.cells #[.int .i64 ((pr:Int)),.int .i64 (a),.int .i64 ((pt:Int))] 96);obtain⟨q1,q2⟩:=Hl.out _ o2;refine zF (v:=.agg #[.slice (some ⟨g,Hi,none⟩) l.length c]) (by simp [results,Tryz.results71,go_sem,o3]) ?_;exact⟨_,rfl,by rw [Hp.out];unfold spR;rw [if_neg (by rw [HK.out];decide)];rw [if_neg (by rw [HK.out];decide)];rw [if_neg (by rw [HK.out];decide)];rw [if_neg (by rw [HK.out];decide)];rw [if_neg (by rw [HK.out];decide)];rw [if_neg (by rw [HK.out];decide)];rw [if_neg (by rw [HK.out];decide)];show OffR _ _ _ (l.set ii ((pr:Int),(Hc:Int) - 1,(pt:Int)));rw [ha];exact o1,q1,q2⟩
theorem way_pre {p:List ByteArray}{k:Int}{x:Lf}(h0:0<p.length):wayOf p k <+:Way x↔(k=3/\ p <+:x.p/\ p.length<x.p.length) \/(x.p=p/\ k=kd x.fl):=by
 unfold Way;constructor
 ·intro h;have hl:=h.length_le;rw [wayOf_len,wayOf_len] at hl;by_cases e:p.length=x.p.length
  ·have:=h.eq_of_length (by rw [wayOf_len,wayOf_len];exact e);obtain⟨e1,e2⟩:=wayOf_inj this h0;exact .inr ⟨e1.symm,e2⟩
  ·have Ha:∀i,i<p.length ->(gS p i,if i+1<p.length then 3 else k)=(gS x.p i,if i+1<x.p.length then(3:Int) else kd x.fl):=fun i hi=>by
    have h1:=wayOf_get (k:=k) hi;have h2:=wayOf_get (p:=x.p) (k:=kd x.fl) (i:=i) (by omega);obtain⟨t,ht⟩:=h;rw [<- ht,List.getElem?_append_left (by rw [wayOf_len];exact hi),h1] at h2;injection h2
   refine .inl ⟨?_,?_,by omega⟩
   ·have:=(Prod.mk.inj (Ha (p.length - 1) (by omega))).2;rw [if_neg (by omega),if_pos (by omega)] at this;exact this
   ·rw [List.prefix_iff_eq_take];refine gS_ext (by simp;omega) fun i hi=> ?_;have:=(Prod.mk.inj (Ha i hi)).1;rw [this];simp [gS,List.getD,List.getElem?_take,hi]
 ·rintro(⟨rfl,h1,h2⟩|⟨h1,h2⟩)
  ·rw [<- way_take (k:=kd x.fl) h1 h2];exact List.take_prefix _ _
  ·rw [h1,h2];exact List.prefix_refl _
def gnS (p:List ByteArray)(fl:Bool)(x:Lf):Prop:=x.p=p/\ x.fl=fl
def gnR (p:List ByteArray)(x:Lf):Prop:=p <+:x.p
theorem way_gnS {p:List ByteArray}{fl:Bool}{x:Lf}(h0:0<p.length):wayOf p (kd fl) <+:Way x↔gnS p fl x:=by
 rw [way_pre h0];unfold gnS;constructor
 ·rintro(⟨h,_⟩|⟨h1,h2⟩)
  ·rcases kd_or fl with e|e<;>rw [e] at h<;>cases h
  ·exact⟨h1,(kd_inj h2).symm⟩
 ·rintro⟨h1,h2⟩;exact .inr ⟨h1,by rw [h2]⟩
theorem way_gnR {p:List ByteArray}{x:Lf}(h0:0<p.length):(wayOf p 1 <+:Way x \/wayOf p 2 <+:Way x \/wayOf p 3 <+:Way x)↔gnR p x:=by
 rw [way_pre h0,way_pre h0,way_pre h0];unfold gnR;constructor
 ·rintro((⟨h,_⟩|⟨h1,_⟩)|(⟨h,_⟩|⟨h1,_⟩)|(⟨_,h,_⟩|⟨h1,_⟩))
  ·cases h
  ·rw [h1];exact List.prefix_refl _
  ·cases h
  ·rw [h1];exact List.prefix_refl _
  ·exact h
  ·rw [h1];exact List.prefix_refl _
 ·intro h;by_cases e:p.length<x.p.length
  ·exact .inr (.inr (.inl ⟨rfl,h,e⟩))
  ·have:p=x.p:=h.eq_of_length (by have:=h.length_le;omega);rcases kd_or x.fl with k|k
   ·exact .inl (.inr ⟨this.symm,k.symm⟩)
   ·exact .inr (.inl (.inr ⟨this.symm,k.symm⟩))
theorem dl_out {g:Lf ->Prop}{S:Sx}{P:List Lf}{L:Int ->List (Int×Int)}{ds:List Dt}(h:StOk S.R S.F S.T S.n S.l)(hp:PtO S P)(hs:∀r,Srt (L r))(hi:∀r x,In (L r) x↔(r,x)∈ds)(hd:∀d:Dt,d∈ds↔(∃y,(y∈S.l/\ g y)/\ y.r=d.1/\ y.q=d.2) \/∃y∈P,y.r=d.1/\ y.q=d.2):outF L 8=dlU g S.l P:=by
 obtain⟨h1,h2,_⟩:=outF_ok hs 8 zL;obtain⟨h3,h4⟩:=dlU_ok (g:=g) h hp;refine uniq h1 h3 (fun r x=> ?_);rw [h2,h4,hi,hd (r,x)];constructor
 ·intro e;exact e.2.2
 ·intro e;refine⟨?_,?_,e⟩
  ·rcases e with ⟨y,⟨hy,_⟩,e1,e2⟩|⟨y,hy,e1,e2⟩
   ·have:=has_rok (ok_okTo h) (ok_has h y hy);unfold Rok dtR at this;simp only at this e1;omega
   ·have:=hp.dot y hy;unfold Rok dtR at this;simp only at this e1;omega
  ·rcases e with ⟨y,⟨hy,_⟩,e1,e2⟩|⟨y,hy,e1,e2⟩
   ·have:=has_rok (ok_okTo h) (ok_has h y hy);unfold Rok dtR at this;simp only at this e1;omega
   ·have:=hp.dot y hy;unfold Rok dtR at this;simp only at this e1;omega
theorem srt_one {l l':List (Int×Int)}(h:Srt l)(h':Srt l')(he:∀x,In l x↔In l' x):l=l':=by
 have:=uniq (tag_srt h (Int.le_refl 0) (by omega)) (tag_srt h' (Int.le_refl 0) (by omega)) (fun r x=>by rw [tag_in,tag_in,he]);unfold tag at this;have Ha:∀(a b:List (Int×Int)),a.map (fun p=>((0:Int),p.1,p.2))=b.map (fun p=>((0:Int),p.1,p.2)) ->a=b:=by
  intro a;induction a with
  | nil=>intro b h;cases b with
   | nil=>rfl
   | cons=>cases h
  | cons x a ih=>
   intro b h;cases b with
   | nil=>cases h
   | cons y b=>
    simp only [List.map_cons] at h;injection h with h1 h2;rw [ih b h2];have e1:=congrArg (fun z=>z.2.1) h1;have e2:=congrArg (fun z=>z.2.2) h1;exact congrArg (· ::b) (Prod.ext e1 e2)
 exact Ha _ _ this
theorem dl_Lk {g:Lf ->Prop}{S:Sx}{P:List Lf}{L:Int ->List (Int×Int)}{ds:List Dt}(h:StOk S.R S.F S.T S.n S.l)(hp:PtO S P)(hs:∀r,Srt (L r))(hi:∀r x,In (L r) x↔(r,x)∈ds)(hd:∀d:Dt,d∈ds↔(∃y,(y∈S.l/\ g y)/\ y.r=d.1/\ y.q=d.2) \/∃y∈P,y.r=d.1/\ y.q=d.2):L=Lk (dlS g S.l P).R (dlS g S.l P).F (dlS g S.l P).T (dlS g S.l P).n:=by
 funext r;refine srt_one (hs r) (Lk_srt _ (dl_w h hp).1.1 r).1 (fun x=> ?_);rw [hi,hd (r,x),<- flat_in];have:flat (dlS g S.l P).R (dlS g S.l P).F (dlS g S.l P).T (dlS g S.l P).n=dlU g S.l P:=gR_flat _;rw [this,(dlU_ok (g:=g) h hp).2]
theorem dotOk (r q:Int)(w:World):
  Calls Tryz.prog 72 #[.agg #[.int .i64 r,.int .i64 q]] w fun e w'=>e=.returned (.bool (runOkB r q q))/\ Below w.heap.size w w':=by
 have B0:Below w.heap.size w (w.alloc (.cells #[.int .i64 r,.int .i64 q] 58)):=zO _ _;have HB:=hid B0;clear B0;go_enter Tryz.func72,Tryz.ntmps72;go_wp2_with fail;refine(specRunOk r q q _).mono ?_;rintro e w1 ⟨rfl,b1⟩;have HZ:=hid (keepS HB.out b1);clear b1;go_wp2_with fail;go_ret;exact⟨rfl,HZ.out⟩
def nextOk (R F T:Nat ->Int)(rep:Int)(n:Nat):Bool:=ctxB R F T n && runOkB rep (topK R T rep n+1) (topK R T rep n+1)
theorem topK_bd {R F T:Nat ->Int}{n:Nat}(h:ctxB R F T n=true)(rep:Int):0<=topK R T rep n/\ topK R T rep n<=1000000000:=by
 have:=Lk_inv n (ctxB_iff.1 h).1;rw [this.2.2.1 rep];exact this.2.2.2 rep
theorem topK_i64 {R T:Nat ->Int}(hT:I64 T)(rep:Int)(k:Nat): -9223372036854775808<=topK R T rep k/\ topK R T rep k<=9223372036854775807:=by
 induction k with
 | zero=>simp [topK]
 | succ k ih=>
  simp only [topK];split
  ·exact hT k
  ·exact ih
theorem top_hit {R T:Nat ->Int}{rep:Int}{k:Nat}(h:R k=rep)(h2:topK R T rep k<T k):topK R T rep (k+1)=T k:=by
 show (if R k=rep/\ topK R T rep k<T k then T k else topK R T rep k)=_;rw [if_pos ⟨h,h2⟩]
theorem top_miss {R T:Nat ->Int}{rep:Int}{k:Nat}(h:¬(R k=rep/\ topK R T rep k<T k)):topK R T rep (k+1)=topK R T rep k:=by
 show (if R k=rep/\ topK R T rep k<T k then T k else topK R T rep k)=_;rw [if_neg h]
theorem vI {a b:Int}(h:a=b):Value.int .i64 a=.int .i64 b:=by rw [h]
theorem specNext (a:Option Addr)(n c:Nat)(R F T:Nat ->Int)(rep:Int)(w:World)(hn:n<=1048576)(h:RSeg w a n R F T)(hT:I64 T):
  Calls Tryz.prog 47 #[.agg #[.slice a n c],.int .i64 rep] w fun e w'=>
   (nextOk R F T rep n=true ->e=.returned (.tuple #[.agg #[.int .i64 rep,.int .i64 (topK R T rep n+1)],.bool true]))/\ (nextOk R F T rep n=false ->e=.returned (.tuple #[.agg #[.int .i64 0,.int .i64 0],.bool false]))/\ Below w.heap.size w w':=by
 obtain⟨W0,Hd⟩:∃W0,(w.alloc (.cells #[.slice a n c] 26)).alloc (.cells #[.int .i64 0,.int .i64 0] 58)=W0:=⟨_,rfl⟩;have bW:Below w.heap.size w W0:=by rw [<- Hd];exact below2 _ _ _
 have zW:W0.heap.size=w.heap.size+2:=by rw [<- Hd];simp
 have Hc:W0.cell? ⟨w.heap.size,0,none⟩=some (.slice a n c):=by rw [<- Hd];simp
 have x0:W0.cell? ⟨w.heap.size+1,0,none⟩=some (.int .i64 0):=by rw [<- Hd];simp
 have x1:W0.cell? ⟨w.heap.size+1,1,none⟩=some (.int .i64 0):=by rw [<- Hd];simp
 have f0:W0.frozen? ⟨w.heap.size+1,0,none⟩=false:=by rw [<- Hd];simp
 have f1:W0.frozen? ⟨w.heap.size+1,1,none⟩=false:=by rw [<- Hd];simp
 have h1:=h.below bW;go_enter Tryz.func47,Tryz.ntmps47;go_wp2_with fail;try rw [Hd]
 go_loop [6,7] (fun t i=>∃k:Nat,k<=n/\ i=.int .i64 k/\ t=.int .i64 (topK R T rep k)) (fun _ i=>n - (intOf i).toNat);case atStart=>exact⟨0,Nat.zero_le _,rfl,rfl⟩
 case round=>
  obtain⟨k,hk,rfl,rfl⟩:=hrel;have Hn:=topK_i64 (R:=R) hT rep k;by_cases Hj:k<n
  ·rcases h1 with h1|⟨b,Ht,rfl,hb,hc⟩
   ·omega
   have c0:=(hc k Hj).1;have c2:=(hc k Hj).2.2;clear hc h;by_cases e1:R k=rep
   ·have t1:(R k==rep)=true:=by simp;exact e1
    by_cases e2:topK R T rep k<T k
    ·have HE:=hid (top_hit e1 e2);have H1:=hid e1;clear e1;generalize topK R T rep k=tk at*;go_wp2_with fail;go_round;case rel=>exact⟨k+1,Hj,by go_num,vI HE.out.symm⟩
     case measure=>simp [intOf];omega
    ·have HE:=hid (top_miss (R:=R) (T:=T) (rep:=rep) (k:=k) (fun hh=>e2 hh.2));clear e1;generalize topK R T rep k=tk at*;go_wp2_with fail;go_round;case rel=>exact⟨k+1,Hj,by go_num,vI HE.out.symm⟩
     case measure=>simp [intOf];omega
   ·have t1:(R k==rep)=false:=by simp;exact e1
    have HE:=hid (top_miss (R:=R) (T:=T) (rep:=rep) (k:=k) (fun hh=>e1 hh.1));clear e1;generalize topK R T rep k=tk at*;go_wp2_with fail;go_round;case rel=>exact⟨k+1,Hj,by go_num,vI HE.out.symm⟩
    case measure=>simp [intOf];omega
  ·obtain rfl:k=n:=by omega
   clear h hk;cases hcx:ctxB R F T k with
   | false=>
    have HN:Hid (nextOk R F T rep k=false):=by unfold Hid nextOk;rw [hcx];rfl
    obtain⟨W3,Ha⟩:∃W3,W0.alloc (.cells #[.int .i64 rep,.int .i64 (wrap64 (topK R T rep k+1))] 58)=W3:=⟨_,rfl⟩;have b3:Below W0.heap.size W0 W3:=by rw [<- Ha];exact zO _ _
    have z3:W3.heap.size=w.heap.size+3:=by rw [<- Ha];simp;omega
    have d0:W3.cell? ⟨w.heap.size+2,0,none⟩=some (.int .i64 rep):=by rw [<- Ha,<- zW];simp
    have d1:W3.cell? ⟨w.heap.size+2,1,none⟩=some (.int .i64 (wrap64 (topK R T rep k+1))):=by rw [<- Ha,<- zW];simp
    have He:=bW.trans (b3.mono (by omega));have y0:=(b3.cell (p:=⟨w.heap.size+1,0,none⟩) (show w.heap.size+1<W0.heap.size by omega)).trans x0;have y1:=(b3.cell (p:=⟨w.heap.size+1,1,none⟩) (show w.heap.size+1<W0.heap.size by omega)).trans x1;have g0:=(b3.frozen (p:=⟨w.heap.size+1,0,none⟩) (show w.heap.size+1<W0.heap.size by omega)).trans f0;have g1:=(b3.frozen (p:=⟨w.heap.size+1,1,none⟩) (show w.heap.size+1<W0.heap.size by omega)).trans f1;have Hb:=(b3.cell (p:=⟨w.heap.size,0,none⟩) (show w.heap.size<W0.heap.size by omega)).trans Hc;have h3:=h1.below b3;clear h1 b3 Hd;go_wp2_with fail;try rw [Ha]
    clear Ha Hc Hb x0 x1 f0 f1;refine(specOk a k c R F T _ hn h3).mono ?_;rintro e w4 ⟨rfl,b4⟩;rw [hcx];have z4:=b4.size;have q0:=(b4.cell (p:=⟨w.heap.size+1,0,none⟩) (show w.heap.size+1<W3.heap.size by omega)).trans y0;have q1:=(b4.cell (p:=⟨w.heap.size+1,1,none⟩) (show w.heap.size+1<W3.heap.size by omega)).trans y1;have p0:=(b4.frozen (p:=⟨w.heap.size+1,0,none⟩) (show w.heap.size+1<W3.heap.size by omega)).trans g0;have p1:=(b4.frozen (p:=⟨w.heap.size+1,1,none⟩) (show w.heap.size+1<W3.heap.size by omega)).trans g1;have Hg:=(b4.cell (p:=⟨w.heap.size+2,0,none⟩) (show w.heap.size+2<W3.heap.size by omega)).trans d0;have Hh:=(b4.cell (p:=⟨w.heap.size+2,1,none⟩) (show w.heap.size+2<W3.heap.size by omega)).trans d1;have Hf:=hid (keepS He b4);clear y0 y1 g0 g1 d0 d1 h3 b4 He hcx;go_wp2_with fail;refine zF (v:=.tuple #[.agg #[.int .i64 0,.int .i64 0],.bool false]) (by simp [results,Tryz.results47,go_sem,q0,q1]) ⟨(fun h=>by have:=HN.out.symm.trans h;cases this),(fun _=>rfl),?_⟩;exact(Hf.out.setCell (by simp) _).setCell (by simp) _
   | true=>
    have Hs:=topK_bd hcx rep;cases hdo:runOkB rep (topK R T rep k+1) (topK R T rep k+1) with
    | false=>
     have HN:Hid (nextOk R F T rep k=false):=by unfold Hid nextOk;rw [hcx,hdo];rfl
     clear Hn;generalize Hi:topK R T rep k=tk at*;have HT:=hid Hi;clear Hi;obtain⟨W3,Ha⟩:∃W3,W0.alloc (.cells #[.int .i64 rep,.int .i64 (tk+1)] 58)=W3:=⟨_,rfl⟩;have b3:Below W0.heap.size W0 W3:=by rw [<- Ha];exact zO _ _
     have z3:W3.heap.size=w.heap.size+3:=by rw [<- Ha];simp;omega
     have d0:W3.cell? ⟨w.heap.size+2,0,none⟩=some (.int .i64 rep):=by rw [<- Ha,<- zW];simp
     have d1:W3.cell? ⟨w.heap.size+2,1,none⟩=some (.int .i64 (tk+1)):=by rw [<- Ha,<- zW];simp
     have He:=bW.trans (b3.mono (by omega));have y0:=(b3.cell (p:=⟨w.heap.size+1,0,none⟩) (show w.heap.size+1<W0.heap.size by omega)).trans x0;have y1:=(b3.cell (p:=⟨w.heap.size+1,1,none⟩) (show w.heap.size+1<W0.heap.size by omega)).trans x1;have g0:=(b3.frozen (p:=⟨w.heap.size+1,0,none⟩) (show w.heap.size+1<W0.heap.size by omega)).trans f0;have g1:=(b3.frozen (p:=⟨w.heap.size+1,1,none⟩) (show w.heap.size+1<W0.heap.size by omega)).trans f1;have Hb:=(b3.cell (p:=⟨w.heap.size,0,none⟩) (show w.heap.size<W0.heap.size by omega)).trans Hc;have h3:=h1.below b3;clear h1 b3 Hd;go_wp2_with fail;try rw [Ha]
     clear Ha Hc Hb x0 x1 f0 f1;refine(specOk a k c R F T _ hn h3).mono ?_;rintro e w4 ⟨rfl,b4⟩;rw [hcx];have z4:=b4.size;have q0:=(b4.cell (p:=⟨w.heap.size+1,0,none⟩) (show w.heap.size+1<W3.heap.size by omega)).trans y0;have q1:=(b4.cell (p:=⟨w.heap.size+1,1,none⟩) (show w.heap.size+1<W3.heap.size by omega)).trans y1;have p0:=(b4.frozen (p:=⟨w.heap.size+1,0,none⟩) (show w.heap.size+1<W3.heap.size by omega)).trans g0;have p1:=(b4.frozen (p:=⟨w.heap.size+1,1,none⟩) (show w.heap.size+1<W3.heap.size by omega)).trans g1;have Hg:=(b4.cell (p:=⟨w.heap.size+2,0,none⟩) (show w.heap.size+2<W3.heap.size by omega)).trans d0;have Hh:=(b4.cell (p:=⟨w.heap.size+2,1,none⟩) (show w.heap.size+2<W3.heap.size by omega)).trans d1;have Hf:=hid (keepS He b4);clear y0 y1 g0 g1 d0 d1 h3 b4 He hcx;go_wp2_with fail;refine(dotOk rep (tk+1) _).mono ?_;rintro e w5 ⟨rfl,b5⟩;rw [hdo];have Hl:=(b5.cell (p:=⟨w.heap.size+1,0,none⟩) (show w.heap.size+1<w4.heap.size by omega)).trans q0;have Hm:=(b5.cell (p:=⟨w.heap.size+1,1,none⟩) (show w.heap.size+1<w4.heap.size by omega)).trans q1;have Hq:=(b5.frozen (p:=⟨w.heap.size+1,0,none⟩) (show w.heap.size+1<w4.heap.size by omega)).trans p0;have Hr:=(b5.frozen (p:=⟨w.heap.size+1,1,none⟩) (show w.heap.size+1<w4.heap.size by omega)).trans p1;have Hk:=hid (keepS Hf.out b5);clear q0 q1 p0 p1 b5 hdo Hg Hh;go_wp2_with fail;refine zF (v:=.tuple #[.agg #[.int .i64 0,.int .i64 0],.bool false]) (by simp [results,Tryz.results47,go_sem,Hl,Hm]) ⟨(fun h=>by have:=HN.out.symm.trans h;cases this),(fun _=>rfl),?_⟩;exact(Hk.out.setCell (by simp) _).setCell (by simp) _
    | true=>
     have HN:Hid (nextOk R F T rep k=true):=by unfold Hid nextOk;rw [hcx,hdo];rfl
     clear Hn;generalize Hi:topK R T rep k=tk at*;have HT:=hid Hi;clear Hi;obtain⟨W3,Ha⟩:∃W3,W0.alloc (.cells #[.int .i64 rep,.int .i64 (tk+1)] 58)=W3:=⟨_,rfl⟩;have b3:Below W0.heap.size W0 W3:=by rw [<- Ha];exact zO _ _
     have z3:W3.heap.size=w.heap.size+3:=by rw [<- Ha];simp;omega
     have d0:W3.cell? ⟨w.heap.size+2,0,none⟩=some (.int .i64 rep):=by rw [<- Ha,<- zW];simp
     have d1:W3.cell? ⟨w.heap.size+2,1,none⟩=some (.int .i64 (tk+1)):=by rw [<- Ha,<- zW];simp
     have He:=bW.trans (b3.mono (by omega));have y0:=(b3.cell (p:=⟨w.heap.size+1,0,none⟩) (show w.heap.size+1<W0.heap.size by omega)).trans x0;have y1:=(b3.cell (p:=⟨w.heap.size+1,1,none⟩) (show w.heap.size+1<W0.heap.size by omega)).trans x1;have g0:=(b3.frozen (p:=⟨w.heap.size+1,0,none⟩) (show w.heap.size+1<W0.heap.size by omega)).trans f0;have g1:=(b3.frozen (p:=⟨w.heap.size+1,1,none⟩) (show w.heap.size+1<W0.heap.size by omega)).trans f1;have Hb:=(b3.cell (p:=⟨w.heap.size,0,none⟩) (show w.heap.size<W0.heap.size by omega)).trans Hc;have h3:=h1.below b3;clear h1 b3 Hd;go_wp2_with fail;try rw [Ha]
     clear Ha Hc Hb x0 x1 f0 f1;refine(specOk a k c R F T _ hn h3).mono ?_;rintro e w4 ⟨rfl,b4⟩;rw [hcx];have z4:=b4.size;have q0:=(b4.cell (p:=⟨w.heap.size+1,0,none⟩) (show w.heap.size+1<W3.heap.size by omega)).trans y0;have q1:=(b4.cell (p:=⟨w.heap.size+1,1,none⟩) (show w.heap.size+1<W3.heap.size by omega)).trans y1;have p0:=(b4.frozen (p:=⟨w.heap.size+1,0,none⟩) (show w.heap.size+1<W3.heap.size by omega)).trans g0;have p1:=(b4.frozen (p:=⟨w.heap.size+1,1,none⟩) (show w.heap.size+1<W3.heap.size by omega)).trans g1;have Hg:=(b4.cell (p:=⟨w.heap.size+2,0,none⟩) (show w.heap.size+2<W3.heap.size by omega)).trans d0;have Hh:=(b4.cell (p:=⟨w.heap.size+2,1,none⟩) (show w.heap.size+2<W3.heap.size by omega)).trans d1;have Hf:=hid (keepS He b4);clear y0 y1 g0 g1 d0 d1 h3 b4 He hcx;go_wp2_with fail;refine(dotOk rep (tk+1) _).mono ?_;rintro e w5 ⟨rfl,b5⟩;rw [hdo];have Hl:=(b5.cell (p:=⟨w.heap.size+1,0,none⟩) (show w.heap.size+1<w4.heap.size by omega)).trans q0;have Hm:=(b5.cell (p:=⟨w.heap.size+1,1,none⟩) (show w.heap.size+1<w4.heap.size by omega)).trans q1;have Hq:=(b5.frozen (p:=⟨w.heap.size+1,0,none⟩) (show w.heap.size+1<w4.heap.size by omega)).trans p0;have Hr:=(b5.frozen (p:=⟨w.heap.size+1,1,none⟩) (show w.heap.size+1<w4.heap.size by omega)).trans p1;have Ho:=(b5.cell (p:=⟨w.heap.size+2,0,none⟩) (show w.heap.size+2<w4.heap.size by omega)).trans Hg;have Hp:=(b5.cell (p:=⟨w.heap.size+2,1,none⟩) (show w.heap.size+2<w4.heap.size by omega)).trans Hh;have Hk:=hid (keepS Hf.out b5);clear q0 q1 p0 p1 b5 hdo Hg Hh;go_wp2_with fail;refine zF (v:=.tuple #[.agg #[.int .i64 rep,.int .i64 (tk+1)],.bool true]) (by simp [results,Tryz.results47,go_sem,Hl,Hm]) ⟨(fun _=>by rw [HT.out]),(fun h=>by have:=HN.out.symm.trans h;cases this),?_⟩;exact(Hk.out.setCell (by simp) _).setCell (by simp) _
noncomputable def chF (S D:Sx):Bool:=jnF S D && (decide (D.l.length<=1000) && decide (D.n<=1000))
noncomputable def chX (S D:Sx):Sx:=if chF S D then jnS S D else Sx.mt
noncomputable def chY (S D:Sx):Sx:=if chF S D then D else Sx.mt
noncomputable def chC (S D:Sx):Int:=if chF S D then 0 else 4
theorem ch_t {S D:Sx}(h:chF S D=true):chX S D=jnS S D/\ chY S D=D/\ chC S D=0:=by unfold chX chY chC;rw [if_pos h,if_pos h,if_pos h];exact⟨rfl,rfl,rfl⟩
theorem ch_f {S D:Sx}(h:chF S D=false):chX S D=Sx.mt/\ chY S D=Sx.mt/\ chC S D=4:=by unfold chX chY chC;rw [if_neg (by rw [h];simp),if_neg (by rw [h];simp),if_neg (by rw [h];simp)];exact⟨rfl,rfl,rfl⟩
noncomputable def ocC (S:Sx)(p:List ByteArray)(v:ByteArray):Int:=if stB S=true then(if yes (PthOk p/\ v.size<=200)=true then 0 else 2) else 1
theorem ocC_1 {S:Sx}{p:List ByteArray}{v:ByteArray}(h:stB S=false):ocC S p v=1:=by unfold ocC;rw [if_neg (by rw [h];simp)]
theorem ocC_2 {S:Sx}{p:List ByteArray}{v:ByteArray}(h:stB S=true)(hn:¬(PthOk p/\ v.size<=200)):ocC S p v=2:=by unfold ocC;rw [if_pos h,if_neg (by rw [yes_f hn];simp)]
theorem ocC_0 {S:Sx}{p:List ByteArray}{v:ByteArray}(h:stB S=true)(hn:PthOk p/\ v.size<=200):ocC S p v=0:=by unfold ocC;rw [if_pos h,if_pos (yes_t hn)]
theorem ocC_ok {S:Sx}{p:List ByteArray}{v:ByteArray}(h:ocC S p v=0):stB S=true/\ PthOk p/\ v.size<=200:=by
 cases hb:stB S with
 | false=>rw [ocC_1 hb] at h;cases h
 | true=>
  by_cases hn:PthOk p/\ v.size<=200
  ·exact⟨rfl,hn⟩
  ·rw [ocC_2 hb hn] at h;cases h
noncomputable def rmD (S:Sx)(p:List ByteArray):Sx:=dlS (gnR p) S.l []
noncomputable def rmX (S:Sx)(p:List ByteArray):Sx:=if ocC S p ⟨#[]⟩=0 then chX S (rmD S p) else Sx.mt
noncomputable def rmY (S:Sx)(p:List ByteArray):Sx:=if ocC S p ⟨#[]⟩=0 then chY S (rmD S p) else Sx.mt
noncomputable def rmC (S:Sx)(p:List ByteArray):Int:=if ocC S p ⟨#[]⟩=0 then chC S (rmD S p) else ocC S p ⟨#[]⟩
theorem rm_t {S:Sx}{p:List ByteArray}(h:ocC S p ⟨#[]⟩=0):rmX S p=chX S (rmD S p)/\ rmY S p=chY S (rmD S p)/\ rmC S p=chC S (rmD S p):=by unfold rmX rmY rmC;rw [if_pos h,if_pos h,if_pos h];exact⟨rfl,rfl,rfl⟩
theorem rm_f {S:Sx}{p:List ByteArray}(h:ocC S p ⟨#[]⟩≠0):rmX S p=Sx.mt/\ rmY S p=Sx.mt/\ rmC S p=ocC S p ⟨#[]⟩:=by unfold rmX rmY rmC;rw [if_neg h,if_neg h,if_neg h];exact⟨rfl,rfl,rfl⟩
theorem pth_size {p:List ByteArray}(h:PthOk p):∀i,(gS p i).size<=1048576:=fun i=>by
 by_cases hi:i<p.length
 ·have:=(h.2.2 i hi).2;omega
 ·rw [gS_far (by omega)];simp
theorem topK_ge {R T:Nat ->Int}{rep:Int}:∀{n k:Nat},k<n ->R k=rep ->T k<=topK R T rep n
 | 0,k,h,_=>by omega
 | n+1,k,h,e=>by
  have mono:topK R T rep n<=topK R T rep (n+1):=by
   show _<=(if R n=rep/\ topK R T rep n<T n then T n else topK R T rep n);split<;>omega
  by_cases ek:k=n
  ·subst ek;show _<=(if R k=rep/\ topK R T rep k<T k then T k else topK R T rep k);split
   ·omega
   ·next hn=>exact Int.not_lt.1 (fun hlt=>hn ⟨e,hlt⟩)
  ·exact Int.le_trans (topK_ge (by omega) e) mono
def nxOk (S:Sx)(rep:Int):Prop:=(0<=rep/\ rep<8)/\ topK S.R S.T rep S.n+1<=1000000000
def nxY (S:Sx)(rep:Int)(p:List ByteArray)(fl:Bool)(v:ByteArray):Lf:=⟨p,fl,rep,topK S.R S.T rep S.n+1,v⟩
theorem nx_pto {S:Sx}{rep:Int}{p:List ByteArray}{fl:Bool}{v:ByteArray}(hs:StOk S.R S.F S.T S.n S.l)(hp:PthOk p)(hv:v.size<=200)(hf:fl=true ->emB v=true)(h:nxOk S rep):PtO S [nxY S rep p fl v]:=by
 have hb:=topK_bd hs.1 rep;have h2:=h.2;have h1:=h.1;refine⟨by simp,fun y hy=> ?_,fun y hy=> ?_,fun y hy hx=> ?_⟩
 ·rw [List.mem_singleton.1 hy];exact⟨hp,hv,hf⟩
 ·rw [List.mem_singleton.1 hy];unfold Rok dtR nxY;simp only;omega
 ·rw [List.mem_singleton.1 hy] at hx;obtain⟨k,hk,e1,e2,e3⟩:=jhas_at S.R S.F S.T _ _ _ S.n hx;have:=topK_ge (R:=S.R) (T:=S.T) (rep:=rep) hk (by first|exact e1|exact e1.symm);unfold nxY at e3;simp only at e3;omega
noncomputable def wrD (S:Sx)(rep:Int)(p:List ByteArray)(fl:Bool)(v:ByteArray):Sx:=dlS (gnS p fl) S.l [nxY S rep p fl v]
noncomputable def wrX (S:Sx)(rep:Int)(p:List ByteArray)(fl:Bool)(v:ByteArray):Sx:=if yes (nxOk S rep) then chX S (wrD S rep p fl v) else Sx.mt
noncomputable def wrY (S:Sx)(rep:Int)(p:List ByteArray)(fl:Bool)(v:ByteArray):Sx:=if yes (nxOk S rep) then chY S (wrD S rep p fl v) else Sx.mt
noncomputable def wrC (S:Sx)(rep:Int)(p:List ByteArray)(fl:Bool)(v:ByteArray):Int:=if yes (nxOk S rep) then chC S (wrD S rep p fl v) else 3
section
variable {S : Sx} {rep : Int} {p : List ByteArray} {fl : Bool} {v : ByteArray}
theorem wr_t (h:nxOk S rep):wrX S rep p fl v=chX S (wrD S rep p fl v)/\ wrY S rep p fl v=chY S (wrD S rep p fl v)/\ wrC S rep p fl v=chC S (wrD S rep p fl v):=by unfold wrX wrY wrC;rw [yes_t h];exact⟨rfl,rfl,rfl⟩
theorem wr_f (h:¬nxOk S rep):wrX S rep p fl v=Sx.mt/\ wrY S rep p fl v=Sx.mt/\ wrC S rep p fl v=3:=by unfold wrX wrY wrC;rw [yes_f h];exact⟨rfl,rfl,rfl⟩
end
def hgN (N N1:List Ky ->Option (Nat×Nat))(k:Ky):List Ky ->Option (Nat×Nat)
 | []=>N []
 | y::r=>if y=k then N1 r else N (y::r)
def hgM (M M1:List Ky ->Dt ->Option ByteArray)(k:Ky):List Ky ->Dt ->Option ByteArray
 | []=>M []
 | y::r=>if y=k then M1 r else M (y::r)
def ApN (N N1:List Ky ->Option (Nat×Nat)):Prop:=∀p q x y,N p=some x ->N1 q=some y ->x.1≠y.1/\ x.1≠y.2/\ x.2≠y.1/\ x.2≠y.2
section
variable {w w' : World} {B c : Nat} {N N1 : List Ky -> Option (Nat × Nat)} {M M1 : List Ky -> Dt -> Option ByteArray}
theorem Tre.hang {x0 x1:Nat×Nat}{k:Ky}(h:Tre w B N M c)(h1:Tre w B N1 M1 c)(hN:N []=some x0)(hN1:N1 []=some x1)(hap:ApN N N1)(hg:w.grownBy w' (some x0.1))(hm:MapF w' 114 keyV nodV x0.1 (c+1) (fun y=>if y=k then some x1 else N [y])):Tre w' B (hgN N N1 k) (hgM M M1 k) (c+1):=by
 have Hd:∀p x,N p=some x ->p≠[] ->w'.heap[x.1]? =w.heap[x.1]? :=fun p x hx hp=>hg.block _ (h.lt hx).1 (fun e=>hp ((h.apart p [] x x0 hx hN).2.1 (by injection e)));have Hb:∀p x,N p=some x ->w'.heap[x.2]? =w.heap[x.2]? :=fun p x hx=>hg.block _ (h.lt hx).2 (fun e=>(h.apart [] p x0 x hN hx).1 (by injection e with e;exact e.symm));have Ha:∀p x,N1 p=some x ->w'.heap[x.1]? =w.heap[x.1]? /\ w'.heap[x.2]? =w.heap[x.2]? :=fun p x hx=>by
  have a:=hap [] p x0 x hN hx;exact⟨hg.block _ (h1.lt hx).1 (fun e=>a.1 (by injection e with e;exact e.symm)),hg.block _ (h1.lt hx).2 (fun e=>a.2.1 (by injection e with e;exact e.symm))⟩
 have cs:∀p x,hgN N N1 k p=some x ->(p=[]/\ x=x0) \/(∃r,p=k::r/\ N1 r=some x) \/(∃y r,p=y::r/\ y≠k/\ N (y::r)=some x):=fun p x hx=>by
  cases p with
  | nil=>exact .inl ⟨rfl,by simp only [hgN] at hx;rw [hN] at hx;exact(Option.some.inj hx).symm⟩
  | cons y r=>
   simp only [hgN] at hx;by_cases e:y=k
   ·rw [if_pos e] at hx;exact .inr (.inl ⟨r,by rw [e],hx⟩)
   ·rw [if_neg e] at hx;exact .inr (.inr ⟨y,r,rfl,e,hx⟩)
 refine⟨fun p x hx=> ?_,fun p x hx=> ?_,fun p q x y hx hy=> ?_,fun p x hx=> ?_,fun p hp=> ?_,fun p y hp=> ?_⟩
 ·rcases cs p x hx with ⟨rfl,rfl⟩|⟨r,rfl,h2⟩|⟨y,r,rfl,Hc,h2⟩
  ·refine hm.ext fun y=> ?_;show (if y=k then some x1 else N [y])=hgN N N1 k [y];simp only [hgN];by_cases e:y=k
   ·rw [if_pos e,if_pos e,hN1]
   ·rw [if_neg e,if_neg e]
  ·refine(((h1.kids r x h2).same (Ha r x h2).1).mono (Nat.le_succ _)).ext fun z=> ?_;show N1 (r++[z])=hgN N N1 k (k::(r++[z]));simp [hgN]
  ·refine(((h.kids _ x h2).same (Hd _ x h2 (by simp))).mono (Nat.le_succ _)).ext fun z=> ?_;show N (y::r++[z])=hgN N N1 k (y::(r++[z]));simp [hgN,Hc]
 ·rcases cs p x hx with ⟨rfl,rfl⟩|⟨r,rfl,h2⟩|⟨y,r,rfl,Hc,h2⟩
  ·exact((h.marks [] x hN).same (Hb [] x hN)).mono (Nat.le_succ _)
  ·refine(((h1.marks r x h2).same (Ha r x h2).2).mono (Nat.le_succ _)).ext fun d=> ?_;simp [hgM]
  ·refine(((h.marks _ x h2).same (Hb _ x h2)).mono (Nat.le_succ _)).ext fun d=> ?_;simp [hgM,Hc]
 ·rcases cs p x hx with ⟨rfl,rfl⟩|⟨r,rfl,h2⟩|⟨u,r,rfl,Hc,h2⟩
  ·rcases cs q y hy with ⟨rfl,rfl⟩|⟨s,rfl,g2⟩|⟨v,s,rfl,He,g2⟩
   ·exact h.apart [] [] _ _ hN hN
   ·have a:=hap [] s x y hN g2;exact⟨a.2.1,fun e=>absurd e a.1,fun e=>absurd e a.2.2.2⟩
   ·exact h.apart [] _ _ _ hN g2
  ·rcases cs q y hy with ⟨rfl,rfl⟩|⟨s,rfl,g2⟩|⟨v,s,rfl,He,g2⟩
   ·have a:=hap [] r y x hN h2;exact⟨fun e=>a.2.2.1 e.symm,fun e=>absurd e.symm a.1,fun e=>absurd e.symm a.2.2.2⟩
   ·have a:=h1.apart r s x y h2 g2;exact⟨a.1,fun e=>by rw [a.2.1 e],fun e=>by rw [a.2.2 e]⟩
   ·have a:=hap _ r y x g2 h2;exact⟨fun e=>a.2.2.1 e.symm,fun e=>absurd e.symm a.1,fun e=>absurd e.symm a.2.2.2⟩
  ·rcases cs q y hy with ⟨rfl,rfl⟩|⟨s,rfl,g2⟩|⟨v,s,rfl,He,g2⟩
   ·exact h.apart _ [] _ _ h2 hN
   ·have a:=hap _ s x y h2 g2;exact⟨a.2.1,fun e=>absurd e a.1,fun e=>absurd e a.2.2.2⟩
   ·exact h.apart _ _ _ _ h2 g2
 ·rcases cs p x hx with ⟨rfl,rfl⟩|⟨r,rfl,h2⟩|⟨y,r,rfl,Hc,h2⟩
  ·exact h.lo [] _ hN
  ·exact h1.lo r x h2
  ·exact h.lo _ x h2
 ·cases p with
  | nil=>simp only [hgN] at hp;rw [hN] at hp;cases hp
  | cons y r=>
   simp only [hgN] at hp;by_cases e:y=k
   ·rw [if_pos e] at hp;show hgM M M1 k (y::r)=_;simp only [hgM];rw [if_pos e];exact h1.none' r hp
   ·rw [if_neg e] at hp;show hgM M M1 k (y::r)=_;simp only [hgM];rw [if_neg e];exact h.none' _ hp
 ·cases p with
  | nil=>simp only [hgN] at hp;rw [hN] at hp;cases hp
  | cons z r=>
   simp only [hgN,List.cons_append] at hp ⊢;by_cases e:z=k
   ·rw [if_pos e] at hp ⊢;exact h1.up r y hp
   ·rw [if_neg e] at hp ⊢;exact h.up (z::r) y hp
theorem Tre.new {x0:Nat×Nat}(hk:MapF w 114 (α:=Ky) keyV nodV x0.1 0 (fun _=>none))(hm:MapF w 58 (α:=Dt) dtV mrkV x0.2 0 (fun _=>none))(hne:x0.1≠x0.2)(hB:B<=x0.1/\ B<=x0.2):Tre w B (fun z=>if z=[] then some x0 else none) (fun _ _=>none) 0:=by
 have nil:∀(p:List Ky) (x:Nat×Nat),(if p=[] then some x0 else none)=some x ->p=[]/\ x=x0:=fun p x hx=>by
  by_cases e:p=[]
  ·rw [if_pos e] at hx;exact⟨e,(Option.some.inj hx).symm⟩
  ·rw [if_neg e] at hx;cases hx
 refine⟨fun p x hx=> ?_,fun p x hx=> ?_,fun p q x y hx hy=> ?_,fun p x hx=> ?_,fun p hp=>rfl,fun p y hp=>by rw [if_neg (by simp)]⟩
 ·obtain⟨rfl,rfl⟩:=nil p x hx;exact hk.ext fun y=>by simp
 ·obtain⟨rfl,rfl⟩:=nil p x hx;exact hm.ext fun d=>rfl
 ·obtain⟨rfl,rfl⟩:=nil p x hx;obtain⟨rfl,rfl⟩:=nil q y hy;exact⟨hne,fun _=>rfl,fun _=>rfl⟩
 ·obtain⟨rfl,rfl⟩:=nil p x hx;exact hB
end
noncomputable def mJ (J:List Lf)(z:List Ky)(K:Ky ->Prop):List Ky ->Dt ->Option ByteArray
 | []=>Mk J J.length z
 | y::r=>if yes (K y)=true then Mk J J.length (z++y::r) else fun _=>none
def Ah (J:List Lf)(z:List Ky):Prop:=∃x∈J,z <+:Way x
structure JT (w:World)(B:Nat)(J:List Lf)(z:List Ky)(K:Ky ->Prop)(N:List Ky ->Option (Nat×Nat))(c:Nat)(x0:Nat×Nat):Prop where
 tre:Tre w B N (mJ J z K) c
 root:N []=some x0
 there:∀y r,(N (y::r)).isSome=true↔K y/\ Ah J (z++y::r)
structure JF (w:World)(B:Nat)(J:List Lf)(z:List Ky)(N:List Ky ->Option (Nat×Nat))(c:Nat)(x0:Nat×Nat):Prop where
 tre:Tre w B N (fun r=>Mk J J.length (z++r)) c
 root:N []=some x0
 there:∀y r,(N (y::r)).isSome=true↔Ah J (z++y::r)
theorem JT.full {w:World}{B:Nat}{J:List Lf}{z:List Ky}{K:Ky ->Prop}{N:List Ky ->Option (Nat×Nat)}{c:Nat}{x0:Nat×Nat}(h:JT w B J z K N c x0)(hK:∀y,Ah J (z++[y]) ->K y):JF w B J z N c x0:=by
 have up:∀y r,Ah J (z++y::r) ->Ah J (z++[y]):=fun y r ⟨x,hx,hp⟩=>⟨x,hx,List.IsPrefix.trans (by rw [show z++y::r=(z++[y])++r by simp];exact List.prefix_append _ _) hp⟩;have em:mJ J z K=fun r=>Mk J J.length (z++r):=by
  funext r;cases r with
  | nil=>simp [mJ]
  | cons y r=>
   simp only [mJ];by_cases e:K y
   ·rw [if_pos (yes_t e)]
   ·rw [if_neg (by rw [yes_f e];simp)];funext d;cases hv:Mk J J.length (z++y::r) d with
    | none=>rfl
    | some v=>
     obtain⟨j,hj,h2,_⟩:=Mk_ne.1 (show Mk J J.length (z++y::r) d≠none by rw [hv];simp);exact absurd (hK y (up y r ⟨gL J j,gL_mem.2 ⟨j,hj,rfl⟩,by rw [h2];exact List.prefix_refl _⟩)) e
 exact⟨by rw [<- em];exact h.tre,h.root,fun y r=>(h.there y r).trans ⟨fun g=>g.2,fun g=>⟨hK y (up y r g),g⟩⟩⟩
theorem JT.hang {w w':World}{B:Nat}{J:List Lf}{z:List Ky}{K:Ky ->Prop}{N N1:List Ky ->Option (Nat×Nat)}{c:Nat}{x0 x1:Nat×Nat}{y:Ky}(h:JT w B J z K N c x0)(h1:JF w B J (z++[y]) N1 c x1)(hy:¬K y)(ha:Ah J (z++[y]))(hap:ApN N N1)(hg:w.grownBy w' (some x0.1))(hm:MapF w' 114 keyV nodV x0.1 (c+1) (fun u=>if u=y then some x1 else N [u])):
  JT w' B J z (fun u=>K u \/u=y) (hgN N N1 y) (c+1) x0:=by
 have ht:=h.tre.hang h1.tre h.root h1.root hap hg hm;have em:hgM (mJ J z K) (fun r=>Mk J J.length ((z++[y])++r)) y=mJ J z (fun u=>K u \/u=y):=by
  funext r;cases r with
  | nil=>rfl
  | cons u r=>
   simp only [hgM,mJ];by_cases e:u=y
   ·rw [if_pos e,if_pos (yes_t (.inr e)),e];simp
   ·rw [if_neg e];by_cases e2:K u
    ·rw [if_pos (yes_t e2),if_pos (yes_t (.inl e2))]
    ·rw [if_neg (by rw [yes_f e2];simp),if_neg (by rw [yes_f (fun hh=>hh.elim e2 e)];simp)]
 rw [em] at ht;refine⟨ht,h.root,fun u r=> ?_⟩;simp only [hgN];by_cases e:u=y
 ·rw [if_pos e];cases r with
  | nil=>rw [h1.root,e];exact⟨fun _=>⟨.inr rfl,ha⟩,fun _=>rfl⟩
  | cons v r=>
   rw [h1.there v r,e];rw [show z++[y]++v::r=z++y::v::r by simp];exact⟨fun g=>⟨.inr rfl,g⟩,fun g=>g.2⟩
 ·rw [if_neg e,h.there u r];exact⟨fun g=>⟨.inl g.1,g.2⟩,fun g=>⟨g.1.resolve_right e,g.2⟩⟩
theorem JT.skip {w:World}{B:Nat}{J:List Lf}{z:List Ky}{K:Ky ->Prop}{N:List Ky ->Option (Nat×Nat)}{c:Nat}{x0:Nat×Nat}{y:Ky}(h:JT w B J z K N c x0)(hy:¬K y)(ha:¬Ah J (z++[y])):JT w B J z (fun u=>K u \/u=y) N c x0:=by
 have up:∀r,¬Ah J (z++y::r):=fun r ⟨x,hx,hp⟩=>ha ⟨x,hx,List.IsPrefix.trans (by rw [show z++y::r=(z++[y])++r by simp];exact List.prefix_append _ _) hp⟩;have em:mJ J z K=mJ J z (fun u=>K u \/u=y):=by
  funext r;cases r with
  | nil=>rfl
  | cons u r=>
   simp only [mJ];by_cases e2:K u
   ·rw [if_pos (yes_t e2),if_pos (yes_t (.inl e2))]
   ·rw [if_neg (by rw [yes_f e2];simp)];by_cases e:u=y
    ·rw [if_pos (yes_t (.inr e))];funext d;cases hv:Mk J J.length (z++u::r) d with
     | none=>rfl
     | some v=>
      obtain⟨j,hj,h2,_⟩:=Mk_ne.1 (show Mk J J.length (z++u::r) d≠none by rw [hv];simp);exact absurd ⟨gL J j,gL_mem.2 ⟨j,hj,rfl⟩,by rw [h2,e];exact List.prefix_refl _⟩ (up r)
    ·rw [if_neg (by rw [yes_f (fun hh=>hh.elim e2 e)];simp)]
 refine⟨by rw [<- em];exact h.tre,h.root,fun u r=> ?_⟩;rw [h.there u r];constructor
 ·exact fun g=>⟨.inl g.1,g.2⟩
 ·rintro⟨g1|g1,g2⟩
  ·exact⟨g1,g2⟩
  ·rw [g1] at g2;exact absurd g2 (up r)
theorem JF.bears {w:World}{B:Nat}{J:List Lf}{z:List Ky}{N:List Ky ->Option (Nat×Nat)}{c:Nat}{x0:Nat×Nat}(h:JF w B J z N c x0):Ah J z↔(∃y,N [y]≠none) \/∃d,Mk J J.length z d≠none:=by
 constructor
 ·rintro⟨x,hx,hp⟩;obtain⟨s,hs⟩:=hp;obtain⟨j,hj,e⟩:=gL_mem.1 hx;cases s with
  | nil=>exact .inr ⟨(x.r,x.q),Mk_ne.2 ⟨j,hj,by rw [e,<- hs];simp,by rw [e]⟩⟩
  | cons y s=>
   refine .inl ⟨y,fun hn=> ?_⟩;have:=(h.there y []).2 ⟨x,hx,by rw [<- hs,show z++y::s=(z++[y])++s by simp];exact List.prefix_append _ _⟩;rw [hn] at this;cases this
 ·rintro(⟨y,hy⟩|⟨d,hd⟩)
  ·have h1:(N [y]).isSome=true:=by
    cases hv:N [y] with
    | none=>exact absurd hv hy
    | some v=>rfl
   obtain⟨x,hx,hp⟩:=(h.there y []).1 h1;exact⟨x,hx,List.IsPrefix.trans (List.prefix_append _ _) hp⟩
  ·obtain⟨j,hj,h2,_⟩:=Mk_ne.1 hd;exact⟨gL J j,gL_mem.2 ⟨j,hj,rfl⟩,by rw [h2];exact List.prefix_refl _⟩
noncomputable def kmF (fa fb:Dt ->Option ByteArray)(hb:Dt ->Bool)(f:Dt ->Option ByteArray):Dt ->Option ByteArray:=fun d=>
 match fa d with
 | some m=>if yes (hb d=false \/fb d=some m)=true then some m else f d
 | none=>f d
theorem kmF_some {fa fb:Dt ->Option ByteArray}{hb:Dt ->Bool}{f:Dt ->Option ByteArray}{d:Dt}{v:ByteArray}:kmF fa fb hb f d=some v↔(fa d=some v/\ (hb d=false \/fb d=some v)) \/((∀m,fa d=some m ->¬(hb d=false \/fb d=some m))/\ f d=some v):=by
 unfold kmF;cases hf:fa d with
 | none=>
  constructor
  ·intro h;exact .inr ⟨fun m hm=>(by cases hm),h⟩
  ·rintro(⟨h,_⟩|⟨_,h⟩)
   ·cases h
   ·exact h
 | some m=>
  dsimp only;by_cases e:hb d=false \/fb d=some m
  ·rw [if_pos (yes_t e)];constructor
   ·intro h;cases h;exact .inl ⟨rfl,e⟩
   ·rintro(⟨h,_⟩|⟨h,_⟩)
    ·exact h
    ·exact absurd e (h m rfl)
  ·rw [if_neg (by rw [yes_f e];simp)];constructor
   ·intro h;exact .inr ⟨fun m' hm=>by cases hm;exact e,h⟩
   ·rintro(⟨h,h2⟩|⟨_,h⟩)
    ·cases h;exact absurd h2 e
    ·exact h
section
variable {R F T : Nat -> Int} {n : Nat} {la : List Lf} {R' F' T' : Nat -> Int} {n' : Nat} {lb : List Lf}
theorem mark_known (h:StW R F T n la){z:List Ky}{d:Dt}{v:ByteArray}(hv:Mk la la.length z d=some v):hasK R F T d.1 d.2 d.2 n=true:=by
 obtain⟨j,hj,_,h3⟩:=Mk_ne.1 (show Mk la la.length z d≠none by rw [hv];simp);have:=(h.2.2.1 j hj).2.1;have e1:(gL la j).r=d.1:=congrArg Prod.fst h3;have e2:(gL la j).q=d.2:=congrArg Prod.snd h3;rw [e1,e2] at this;exact this
theorem kmF_jn (h:StW R F T n la)(h':StW R' F' T' n' lb)(z:List Ky):
  kmF (Mk lb lb.length z) (Mk la la.length z) (fun d=>hasK R F T d.1 d.2 d.2 n) (kmF (Mk la la.length z) (Mk lb lb.length z) (fun d=>hasK R' F' T' d.1 d.2 d.2 n') (fun _=>none))=Mk (jn R F T n la R' F' T' n' lb) (jn R F T n la R' F' T' n' lb).length z:=by
 funext d;have Ha:∀v,kmF (Mk lb lb.length z) (Mk la la.length z) (fun d=>hasK R F T d.1 d.2 d.2 n) (kmF (Mk la la.length z) (Mk lb lb.length z) (fun d=>hasK R' F' T' d.1 d.2 d.2 n') (fun _=>none)) d=some v↔Mk (jn R F T n la R' F' T' n' lb) (jn R F T n la R' F' T' n' lb).length z d=some v:=fun v=>by
  rw [kmF_some,kmF_some,jn_mark h h'];constructor
  ·rintro(⟨g1,g2|g2⟩|⟨_,⟨g1,g2|g2⟩|⟨_,g⟩⟩)
   ·exact .inr ⟨g1,g2⟩
   ·exact .inl ⟨g2,.inl g1⟩
   ·exact .inl ⟨g1,.inr g2⟩
   ·exact .inl ⟨g1,.inl g2⟩
   ·cases g
  ·rintro(⟨g1,g2|g2⟩|⟨g1,g2⟩)
   ·exact .inl ⟨g2,.inr g1⟩
   ·refine .inr ⟨fun m hm=> ?_,.inl ⟨g1,.inl g2⟩⟩;have:=mark_known h' hm;rw [this] at g2;cases g2
   ·exact .inl ⟨g1,.inl g2⟩
 cases hv:Mk (jn R F T n la R' F' T' n' lb) (jn R F T n la R' F' T' n' lb).length z d with
 | some v=>exact(Ha v).2 hv
 | none=>
  cases hk:kmF (Mk lb lb.length z) (Mk la la.length z) (fun d=>hasK R F T d.1 d.2 d.2 n) (kmF (Mk la la.length z) (Mk lb lb.length z) (fun d=>hasK R' F' T' d.1 d.2 d.2 n') (fun _=>none)) d with
  | none=>rfl
  | some v=>have:=(Ha v).1 hk;rw [hv] at this;cases this
end
theorem JT.start {w:World}{B:Nat}{J:List Lf}{z:List Ky}{x0:Nat×Nat}{c:Nat}(hk:MapF w 114 (α:=Ky) keyV nodV x0.1 0 (fun _=>none))(hm:MapF w 58 (α:=Dt) dtV mrkV x0.2 c (Mk J J.length z))(hne:x0.1≠x0.2)(hB:B<=x0.1/\ B<=x0.2):JT w B J z (fun _=>False) (fun r=>if r=[] then some x0 else none) c x0:=by
 have nil:∀(p:List Ky) (x:Nat×Nat),(if p=[] then some x0 else none)=some x ->p=[]/\ x=x0:=fun p x hx=>by
  by_cases e:p=[]
  ·rw [if_pos e] at hx;exact⟨e,(Option.some.inj hx).symm⟩
  ·rw [if_neg e] at hx;cases hx
 refine⟨⟨fun p x hx=> ?_,fun p x hx=> ?_,fun p q x y hx hy=> ?_,fun p x hx=> ?_,fun p hp=> ?_,fun p y hp=>by rw [if_neg (by simp)]⟩,if_pos rfl,fun y r=> ?_⟩
 ·obtain⟨rfl,rfl⟩:=nil p x hx;exact(hk.mono (Nat.zero_le _)).ext fun y=>by simp
 ·obtain⟨rfl,rfl⟩:=nil p x hx;exact hm
 ·obtain⟨rfl,rfl⟩:=nil p x hx;obtain⟨rfl,rfl⟩:=nil q y hy;exact⟨hne,fun _=>rfl,fun _=>rfl⟩
 ·obtain⟨rfl,rfl⟩:=nil p x hx;exact hB
 ·cases p with
  | nil=>simp at hp
  | cons y r=>simp only [mJ];rw [if_neg (by rw [yes_f (fun h=>h)];simp)]
 ·rw [if_neg (by simp)];exact⟨fun h=>(by cases h),fun h=>h.1.elim⟩
end Go.Proofs.YtfidfeilljlbiaaGreat
