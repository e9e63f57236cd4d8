import Derived.Test.YtfidfeilljlbiaaGreatFrg18
import Derived.Test.YtfidfeilljlbiaaGreatFrg14
import Derived.Test.YtfidfeilljlbiaaGreatFrg10
import Derived.Test.YtfidfeilljlbiaaGreatFrg09
import Derived.Test.YtfidfeilljlbiaaGreatFrg07
import Derived.RangeFuncRecord
set_option linter.unusedVariables false
set_option linter.unusedSimpArgs false
set_option maxRecDepth 100000
set_option maxHeartbeats 40000000
namespace Go.Proofs.YtfidfeilljlbiaaGreat
open Go.ChangeShapes Go.WideShapes Go.ChangeAt Go.RowKit
theorem nxS_in {g:Lf ->Prop}{S:Sx}{P:List Lf}{z:Lf}:z∈(nxS g S P).l↔(z∈S.l/\¬g z) \/z∈P:=by
 show z∈nxL g S.l P↔_;unfold nxL;rw [nxL_mem (l:=S.l),stL_mem]
theorem ch_in {S:Sx}{g:Lf ->Prop}{P:List Lf}(h:Vd S)(hp:PtO S P)(hc:chC S (dlS g S.l P)=0):Vd (chX S (dlS g S.l P))/\∀z,z∈(chX S (dlS g S.l P)).l↔(z∈S.l/\¬g z) \/z∈P:=by
 refine⟨(dr_ch h hp hc).1.vd,fun z=> ?_⟩;cases hf:chF S (dlS g S.l P) with
 | false=>exact absurd ((ch_f hf).2.2.symm.trans hc) (by decide)
 | true=>rw [(ch_t hf).1,chg_s h hp];exact nxS_in
theorem se_in {S:Sx}{rep:Int}{p:List ByteArray}{fl on:Bool}{v:ByteArray}(hfv:fl=true ->emB v=true)(hc:seC S rep p fl on v=0):(Vd S/\ PthOk p/\ Vd (seX S rep p fl on v))/\∀z,z∈(seX S rep p fl on v).l↔(z∈S.l/\¬gnS p fl z) \/z∈seP S rep p fl on v:=by
 by_cases h0:ocC S p v=0
 ·obtain⟨hs,hp,hv⟩:=ocC_ok h0;have hs:=stB_t hs;by_cases h1:seOk S rep on
  ·obtain⟨e1,e2,e3⟩:=se_t (p:=p) (fl:=fl) (v:=v) h0 h1;rw [e3] at hc;rw [e1];obtain⟨a,b⟩:=ch_in hs (se_pto hs hp hv hfv h1) hc;exact⟨⟨hs,hp,a⟩,b⟩
  ·rw [(se_3 (fl:=fl) h0 h1).2.2] at hc;exact absurd hc (by decide)
 ·rw [(se_n (rep:=rep) (fl:=fl) (on:=on) h0).2.2] at hc;exact absurd hc h0
theorem rm_in {S:Sx}{p:List ByteArray}(hc:rmC S p=0):(PthOk p/\ Vd (rmX S p))/\∀z,z∈(rmX S p).l↔z∈S.l/\¬p <+:z.p:=by
 by_cases h0:ocC S p ⟨#[]⟩=0
 ·obtain⟨hs,hp,hv⟩:=ocC_ok h0;have hs:=stB_t hs;obtain⟨e1,e2,e3⟩:=rm_t h0;rw [e3] at hc;rw [e1];obtain⟨a,b⟩:=ch_in hs (PtO.nil S) hc;exact⟨⟨hp,a⟩,fun z=>(b z).trans (by simp [gnR])⟩
 ·rw [(rm_f h0).2.2] at hc;exact absurd hc h0
theorem rV_in {l:List Lf}{p:List ByteArray}{s:ByteArray}:s∈rV l p l.length↔∃z∈l,z.fl=false/\ z.p=p/\ z.v=s:=by
 rw [rV_mem];exact⟨fun⟨j,hj,h⟩=>⟨_,gL_mem.2 ⟨j,hj,rfl⟩,h⟩,fun⟨z,hz,h⟩=>by obtain⟨j,hj,e⟩:=gL_mem.1 hz;exact⟨j,hj,by rw [e];exact h⟩⟩
theorem flag_in {l:List Lf}{p:List ByteArray}:FlagOn l p l.length↔∃z∈l,z.fl=true/\ z.p=p:=
 ⟨fun⟨j,hj,h⟩=>⟨_,gL_mem.2 ⟨j,hj,rfl⟩,h⟩,fun⟨z,hz,h⟩=>by obtain⟨j,hj,e⟩:=gL_mem.1 hz;exact⟨j,hj,by rw [e];exact h⟩⟩
theorem once_one {vs ts:List ByteArray}{v:ByteArray}(h:OnceOf vs ts)(hv:∀s,s∈vs↔s=v):ts=[v]:=by
 have hm:∀s,s∈ts↔s=v:=fun s=>(h.2 s).trans (hv s);match ts,h.1,hm with
 | [],_,hm=>exact absurd ((hm v).2 rfl) (by simp)
 | [a],_,hm=>rw [(hm a).1 (by simp)]
 | a::b::r,hp,hm=>
  have e1:=(hm a).1 (by simp);have e2:=(hm b).1 (by simp);have:=(List.pairwise_cons.1 hp).1 b (by simp);rw [e1,e2,cmpS_z.2 rfl] at this;exact absurd this (by omega)
theorem once_none {vs ts:List ByteArray}(h:OnceOf vs ts)(hv:∀s,¬s∈vs):ts=[]:=by
 match ts,h with
 | [],_=>rfl
 | a::r,h=>exact absurd ((h.2 a).1 (by simp)) (hv a)
section
variable {S : Sx} {rep : Int} {p : List ByteArray} {v : ByteArray}
theorem wr_reg (hc:seC S rep p false true v=0){ts:List ByteArray}(h:OnceOf (rV (seX S rep p false true v).l p (seX S rep p false true v).l.length) ts):ts=[v]:=by
 obtain⟨_,Ha⟩:=se_in (fun h=>by cases h) hc;refine once_one h (fun s=> ?_);rw [rV_in];constructor
 ·rintro⟨z,hz,h1,h2,h3⟩;rcases (Ha z).1 hz with ⟨_,hn⟩|hz
  ·exact absurd ⟨h2,h1⟩ hn
  ·have e:z=nxY S rep p false v:=by simpa [seP] using hz
   rw [<- h3,e];rfl
 ·rintro rfl;exact⟨nxY S rep p false s,(Ha _).2 (.inr (by simp [seP])),rfl,rfl,rfl⟩
theorem wr_flag (hc:seC S rep p false true v=0):RfOk (seX S rep p false true v).R (seX S rep p false true v).F (seX S rep p false true v).T (seX S rep p false true v).n (seX S rep p false true v).l p↔RfOk S.R S.F S.T S.n S.l p:=by
 obtain⟨⟨vs,hp,vx⟩,Ha⟩:=se_in (fun h=>by cases h) hc;unfold RfOk;rw [flag_in,flag_in];constructor
 ·rintro⟨_,_,z,hz,h1,h2⟩;rcases (Ha z).1 hz with ⟨hz,_⟩|hz
  ·exact⟨vs,hp,z,hz,h1,h2⟩
  ·have e:z=nxY S rep p false v:=by simpa [seP] using hz
   rw [e] at h1;cases h1
 ·rintro⟨_,_,z,hz,h1,h2⟩;exact⟨vx,hp,z,(Ha z).2 (.inl ⟨hz,fun h=>by rw [h.2] at h1;cases h1⟩),h1,h2⟩
theorem fl_flag {on:Bool}(hc:seC S rep p true on ⟨#[]⟩=0):RfOk (seX S rep p true on ⟨#[]⟩).R (seX S rep p true on ⟨#[]⟩).F (seX S rep p true on ⟨#[]⟩).T (seX S rep p true on ⟨#[]⟩).n (seX S rep p true on ⟨#[]⟩).l p↔on=true:=by
 obtain⟨⟨vs,hp,vx⟩,Ha⟩:=se_in (fun _=>by simp [emB]) hc;unfold RfOk;rw [flag_in];constructor
 ·rintro⟨_,_,z,hz,h1,h2⟩;rcases (Ha z).1 hz with ⟨_,hn⟩|hz
  ·exact absurd ⟨h2,h1⟩ hn
  ·cases on with
   | false=>simp [seP] at hz
   | true=>rfl
 ·rintro rfl;exact⟨vx,hp,nxY S rep p true ⟨#[]⟩,(Ha _).2 (.inr (by simp [seP])),rfl,rfl⟩
theorem rm_reg (hc:rmC S p=0){ts:List ByteArray}(h:OnceOf (rV (rmX S p).l p (rmX S p).l.length) ts):ts=[]:=by
 obtain⟨_,Ha⟩:=rm_in hc;refine once_none h (fun s hs=> ?_);obtain⟨z,hz,_,h2,_⟩:=rV_in.1 hs;exact((Ha z).1 hz).2 (by rw [h2];exact List.prefix_refl _)
theorem rm_flag (hc:rmC S p=0):¬RfOk (rmX S p).R (rmX S p).F (rmX S p).T (rmX S p).n (rmX S p).l p:=by
 obtain⟨_,Ha⟩:=rm_in hc;rintro⟨_,_,h⟩;obtain⟨z,hz,_,h2⟩:=flag_in.1 h;exact((Ha z).1 hz).2 (by rw [h2];exact List.prefix_refl _)
theorem rm_keys (hc:rmC S p=0):kS (rmX S p).l p (rmX S p).l.length=[]:=by
 obtain⟨_,Ha⟩:=rm_in hc;have Hb:∀k,k<=(rmX S p).l.length ->kS (rmX S p).l p k=[]:=by
  intro k;induction k with
  | zero=>intro _;rfl
  | succ k ih=>
   intro hk;have hn:nx p (gL (rmX S p).l k)=none:=by
    unfold nx;rw [yes_f (fun h=>((Ha _).1 (gL_mem.2 ⟨k,by omega,rfl⟩)).2 h.1)];rfl
   rw [kS_none hn];exact ih (by omega)
 exact Hb _ zL
end
open Go.Maps Go.Sort Go.Lib Go.Shelf
def bs (x:List UInt8):ByteArray:=⟨x.toArray⟩
theorem bs_list (x:List UInt8):(bs x).toList=x:=by rw [ByteArray.toList_eq];simp [bs]
theorem bs_inj {x y:List UInt8}(h:bs x=bs y):x=y:=by rw [<- bs_list x,<- bs_list y,h]
theorem bs_of (s:ByteArray):bs s.data.toList=s:=by simp [bs]
theorem less_lt:∀(x y:List UInt8),Op.bytesLess x y=decide (x<y)
 | [],[]=>by simp [Op.bytesLess]
 | _::_,[]=>by simp [Op.bytesLess]
 | [],_::_=>by simp [Op.bytesLess]
 | a::x,b::y=>by
  rw [Op.bytesLess,less_lt x y];simp only [List.cons_lt_cons_iff];by_cases h1:a<b<;>by_cases h2:a=b<;>by_cases h3:x<y<;>simp [h1,h2,h3]
def cmpB (x y:List UInt8):Int:=cmpS (bs x) (bs y)
theorem CmpT.bytes:CmpT cmpB:=CmpT.str.comap bs fun x y h=>bs_inj h
theorem le_cmp {x y:List UInt8}:decide (x<=y)=true↔cmpB x y<=0:=by
 have h1:x<=y↔¬y<x:=Iff.rfl;rw [decide_eq_true_eq,h1];have h2:cmpB y x<0↔y<x:=by
  unfold cmpB;rw [cmpS_neg,bs_list,bs_list,less_lt,decide_eq_true_eq]
 rw [<- h2];have h3:=CmpT.bytes.neg y x;omega
theorem le_tr {x y z:List UInt8}(h:cmpB x y<=0)(h':cmpB y z<=0):cmpB x z<=0:=by
 by_cases e:cmpB x y=0
 ·rw [(CmpT.bytes.z x y).1 e];exact h'
 ·by_cases e2:cmpB y z=0
  ·rw [<- (CmpT.bytes.z y z).1 e2];exact h
  ·have:=CmpT.bytes.tr x y z (by omega) (by omega);omega
theorem sorted_merge (ss:List (List UInt8)):(ss.mergeSort fun x y=>decide (x<=y)).Pairwise (fun x y=>cmpB x y<=0):=by
 have:=List.pairwise_mergeSort (le:=fun x y:List UInt8=>decide (x<=y)) (fun x y z h1 h2=>by rw [le_cmp] at*;exact le_tr h1 h2) (fun x y=>by
  rw [Bool.or_eq_true,le_cmp,le_cmp];have:=CmpT.bytes.neg x y;have:=CmpT.bytes.neg y x;omega) ss
 exact this.imp fun h=>le_cmp.1 h
theorem compactUp_ok {d:Array (List UInt8)}(hs:∀i j,i<j ->j<d.size ->cmpB d[i]! d[j]! <=0):∀m,m<=d.size ->(compactUpTo d m).Pairwise (fun x y=>cmpB x y<0)/\∀x,x∈compactUpTo d m↔∃j,j<m/\ d[j]! =x
 | 0,_=>⟨by simp [compactUpTo],fun x=>by simp [compactUpTo]⟩
 | m+1,hm=>by
  obtain⟨Hc,Ha⟩:=compactUp_ok hs m (by omega);rw [compactUpTo_succ];have Hd:∀x,(∃j,j<m+1/\ d[j]! =x)↔x∈compactUpTo d m \/d[m]! =x:=fun x=>by
   rw [Ha];constructor
   ·rintro⟨j,hj,e⟩;by_cases ej:j=m
    ·subst ej;exact .inr e
    ·exact .inl ⟨j,by omega,e⟩
   ·rintro(⟨j,hj,e⟩|e)
    ·exact⟨j,by omega,e⟩
    ·exact⟨m,by omega,e⟩
  by_cases hk:keeps d m=true
  ·rw [if_pos hk];refine⟨List.pairwise_append.2 ⟨Hc,List.pairwise_singleton _ _,fun x hx y hy=> ?_⟩,fun x=> ?_⟩
   ·rw [List.mem_singleton] at hy;subst hy;obtain⟨j,hj,rfl⟩:=(Ha x).1 hx;have h0:m≠0:=by omega
    have He:d[m]! ≠d[m - 1]! :=by
     have:=hk;simp only [keeps,decide_eq_true_eq] at this;rcases this with h|h
     ·omega
     ·exact h
    have h1:cmpB d[m - 1]! d[m]! <0:=by
     have a1:=hs (m - 1) m (by omega) (by omega);have a2:cmpB d[m - 1]! d[m]! ≠0:=fun e=>He ((CmpT.bytes.z _ _).1 e).symm;omega
    by_cases ej:j=m - 1
    ·subst ej;exact h1
    ·have a3:=hs j (m - 1) (by omega) (by omega);by_cases e0:cmpB d[j]! d[m - 1]! =0
     ·rw [(CmpT.bytes.z _ _).1 e0];exact h1
     ·exact CmpT.bytes.tr _ _ _ (by omega) h1
   ·rw [Hd,List.mem_append,List.mem_singleton];exact⟨fun h=>h.imp id Eq.symm,fun h=>h.imp id Eq.symm⟩
  ·rw [if_neg hk];simp only [List.append_nil];refine⟨Hc,fun x=> ?_⟩;rw [Hd];refine⟨.inl,fun h=>h.elim id fun e=> ?_⟩;have Hb:¬(m=0 \/d[m]! ≠d[m - 1]!):=by simpa [keeps] using hk
   have h0:m≠0:=fun e=>Hb (.inl e);have h1:d[m]! =d[m - 1]! :=by
    by_cases e:d[m]! =d[m - 1]!
    ·exact e
    ·exact absurd (.inr e) Hb
   exact(Ha x).2 ⟨m - 1,by omega,by rw [<- h1];exact e⟩
theorem compact_once (vs:List ByteArray):OnceOf vs ((compact ((vs.map fun s=>s.data.toList).mergeSort fun x y=>decide (x<=y))).map bs):=by
 have Hb:=sorted_merge (vs.map fun s=>s.data.toList);obtain⟨zs,hz⟩:∃zs,(vs.map fun s=>s.data.toList).mergeSort (fun x y=>decide (x<=y))=zs:=⟨_,rfl⟩;have hp:zs.Perm (vs.map fun s=>s.data.toList):=by rw [<- hz];exact List.mergeSort_perm _ _
 rw [hz] at Hb ⊢;have Ha:∀i j,i<j ->j<zs.toArray.size ->cmpB zs.toArray[i]! zs.toArray[j]! <=0:=fun i j hij hj=>by
  have Hc:j<zs.length:=by simpa using hj
  rw [getElem!_pos _ i (by simp;omega),getElem!_pos _ j hj];simpa using List.pairwise_iff_getElem.1 Hb i j (by omega) Hc hij
 obtain⟨h1,h2⟩:=compactUp_ok Ha zs.length (by simp);refine⟨?_,fun s=> ?_⟩
 ·show ((compactUpTo zs.toArray zs.length).map bs).Pairwise _;rw [List.pairwise_map];exact h1
 ·show s∈(compactUpTo zs.toArray zs.length).map bs↔_;rw [List.mem_map];constructor
  ·rintro⟨x,hx,rfl⟩;obtain⟨j,hj,e⟩:=(h2 x).1 hx;have hm:x∈zs:=by rw [<- e,getElem!_pos _ j (by simpa using hj)];simp
   obtain⟨t,ht,et⟩:=List.mem_map.1 (hp.mem_iff.1 hm);rw [<- et,bs_of];exact ht
  ·intro hs;have hm:s.data.toList∈zs:=hp.mem_iff.2 (List.mem_map.2 ⟨s,hs,rfl⟩);obtain⟨j,hj,e⟩:=List.getElem_of_mem hm;refine⟨s.data.toList,(h2 _).2 ⟨j,hj,?_⟩,bs_of s⟩;rw [getElem!_pos _ j (by simpa using hj)];simpa using e
end Go.Proofs.YtfidfeilljlbiaaGreat
