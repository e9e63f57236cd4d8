import Derived.Test.YtpfmeafmepgimaaGreatFkg25
set_option linter.unusedVariables false
set_option linter.unusedSimpArgs false
set_option maxRecDepth 100000
set_option maxHeartbeats 40000000
namespace Go.Proofs.YtpfmeafmepgimaaGreat
open Go.ChangeShapes Go.WideShapes Go.ChangeAt Go.RowKit
noncomputable def kmF (fa fb:Dt ->Option ByteArray)(hb:Dt ->Bool)(f:Dt ->Option ByteArray):Dt ->Option ByteArray:=fun d=>
 match fa d with
 | some m=>if yes (hb d=false \/fb d=some m)=true then some m else f d
 | none=>f d
theorem kmF_some {fa fb:Dt ->Option ByteArray}{hb:Dt ->Bool}{f:Dt ->Option ByteArray}{d:Dt}{v:ByteArray}:kmF fa fb hb f d=some v↔(fa d=some v/\ (hb d=false \/fb d=some v)) \/((∀m,fa d=some m ->¬(hb d=false \/fb d=some m))/\ f d=some v):=by
 unfold kmF;cases hf:fa d with
 | none=>
  constructor
  ·intro h;exact .inr ⟨fun m hm=>(by cases hm),h⟩
  ·rintro(⟨h,_⟩|⟨_,h⟩)
   ·cases h
   ·exact h
 | some m=>
  dsimp only;by_cases e:hb d=false \/fb d=some m
  ·rw [if_pos (yes_t e)];constructor
   ·intro h;cases h;exact .inl ⟨rfl,e⟩
   ·rintro(⟨h,_⟩|⟨h,_⟩)
    ·exact h
    ·exact absurd e (h m rfl)
  ·rw [if_neg (by rw [yes_f e];simp)];constructor
   ·intro h;exact .inr ⟨fun m' hm=>by cases hm;exact e,h⟩
   ·rintro(⟨h,h2⟩|⟨_,h⟩)
    ·cases h;exact absurd h2 e
    ·exact h
section
variable {R F T : Nat -> Int} {n : Nat} {la : List Lf} {R' F' T' : Nat -> Int} {n' : Nat} {lb : List Lf}
theorem mark_known (h:StW R F T n la){z:List Ky}{d:Dt}{v:ByteArray}(hv:Mk la la.length z d=some v):hasK R F T d.1 d.2 d.2 n=true:=by
 obtain⟨j,hj,_,h3⟩:=Mk_ne.1 (show Mk la la.length z d≠none by rw [hv];simp);have:=(h.2.2.1 j hj).2.1;have e1:(gL la j).r=d.1:=congrArg Prod.fst h3;have e2:(gL la j).q=d.2:=congrArg Prod.snd h3;rw [e1,e2] at this;exact this
theorem kmF_jn (h:StW R F T n la)(h':StW R' F' T' n' lb)(z:List Ky):
  kmF (Mk lb lb.length z) (Mk la la.length z) (fun d=>hasK R F T d.1 d.2 d.2 n) (kmF (Mk la la.length z) (Mk lb lb.length z) (fun d=>hasK R' F' T' d.1 d.2 d.2 n') (fun _=>none))=Mk (jn R F T n la R' F' T' n' lb) (jn R F T n la R' F' T' n' lb).length z:=by
 funext d;have key:∀v,kmF (Mk lb lb.length z) (Mk la la.length z) (fun d=>hasK R F T d.1 d.2 d.2 n) (kmF (Mk la la.length z) (Mk lb lb.length z) (fun d=>hasK R' F' T' d.1 d.2 d.2 n') (fun _=>none)) d=some v↔Mk (jn R F T n la R' F' T' n' lb) (jn R F T n la R' F' T' n' lb).length z d=some v:=fun v=>by
  rw [kmF_some,kmF_some,jn_mark h h'];constructor
  ·rintro(⟨g1,g2|g2⟩|⟨_,⟨g1,g2|g2⟩|⟨_,g⟩⟩)
   ·exact .inr ⟨g1,g2⟩
   ·exact .inl ⟨g2,.inl g1⟩
   ·exact .inl ⟨g1,.inr g2⟩
   ·exact .inl ⟨g1,.inl g2⟩
   ·cases g
  ·rintro(⟨g1,g2|g2⟩|⟨g1,g2⟩)
   ·exact .inl ⟨g2,.inr g1⟩
   ·refine .inr ⟨fun m hm=> ?_,.inl ⟨g1,.inl g2⟩⟩;have:=mark_known h' hm;rw [this] at g2;cases g2
   ·exact .inl ⟨g1,.inl g2⟩
 cases hv:Mk (jn R F T n la R' F' T' n' lb) (jn R F T n la R' F' T' n' lb).length z d with
 | some v=>exact(key v).2 hv
 | none=>
  cases hk:kmF (Mk lb lb.length z) (Mk la la.length z) (fun d=>hasK R F T d.1 d.2 d.2 n) (kmF (Mk la la.length z) (Mk lb lb.length z) (fun d=>hasK R' F' T' d.1 d.2 d.2 n') (fun _=>none)) d with
  | none=>rfl
  | some v=>have:=(key v).1 hk;rw [hv] at this;cases this
end
theorem JT.start {w:World}{B:Nat}{J:List Lf}{z:List Ky}{x0:Nat×Nat}{c:Nat}(hk:MapF w 102 (α:=Ky) keyV nodV x0.1 0 (fun _=>none))(hm:MapF w 63 (α:=Dt) dtV mrkV x0.2 c (Mk J J.length z))(hne:x0.1≠x0.2)(hB:B<=x0.1/\ B<=x0.2):JT w B J z (fun _=>False) (fun r=>if r=[] then some x0 else none) c x0:=by
 have nil:∀(p:List Ky) (x:Nat×Nat),(if p=[] then some x0 else none)=some x ->p=[]/\ x=x0:=fun p x hx=>by
  by_cases e:p=[]
  ·rw [if_pos e] at hx;exact⟨e,(Option.some.inj hx).symm⟩
  ·rw [if_neg e] at hx;cases hx
 refine⟨⟨fun p x hx=> ?_,fun p x hx=> ?_,fun p q x y hx hy=> ?_,fun p x hx=> ?_,fun p hp=> ?_,fun p y hp=>by rw [if_neg (by simp)]⟩,if_pos rfl,fun y r=> ?_⟩
 ·obtain⟨rfl,rfl⟩:=nil p x hx;exact(hk.mono (Nat.zero_le _)).ext fun y=>by simp
 ·obtain⟨rfl,rfl⟩:=nil p x hx;exact hm
 ·obtain⟨rfl,rfl⟩:=nil p x hx;obtain⟨rfl,rfl⟩:=nil q y hy;exact⟨hne,fun _=>rfl,fun _=>rfl⟩
 ·obtain⟨rfl,rfl⟩:=nil p x hx;exact hB
 ·cases p with
  | nil=>simp at hp
  | cons y r=>simp only [mJ];rw [if_neg (by rw [yes_f (fun h=>h)];simp)]
 ·rw [if_neg (by simp)];exact⟨fun h=>(by cases h),fun h=>h.1.elim⟩
noncomputable def kmS (fa fb:Dt ->Option ByteArray)(hb:Dt ->Bool)(f:Dt ->Option ByteArray)(ds:List Dt):Dt ->Option ByteArray:=fun d=>if yes (d∈ds)=true then kmF fa fb hb f d else f d
section
variable {fa fb : Dt -> Option ByteArray} {hb : Dt -> Bool} {f : Dt -> Option ByteArray} {ds : List Dt} {d : Dt} {v : ByteArray}
theorem kmS_start:kmS fa fb hb f []=f:=by
 funext x;unfold kmS;rw [if_neg (by rw [yes_f (by simp)];simp)]
theorem kmS_keep (hd:fa d=some v)(hk:hb d=false \/fb d=some v):kmS fa fb hb f (ds++[d])=updF (kmS fa fb hb f ds) d (some v):=by
 funext x;unfold kmS updF;by_cases e:x=d
 ·subst e;rw [if_pos (yes_t (by simp))];have:kmF fa fb hb f x=some v:=kmF_some.2 (.inl ⟨hd,hk⟩);rw [this];simp
 ·rw [if_neg e];dsimp only;by_cases e2:x∈ds
  ·rw [if_pos (yes_t (by simp [e2])),if_pos (yes_t e2)]
  ·rw [if_neg (by rw [yes_f (by simp [e,e2])];simp),if_neg (by rw [yes_f e2];simp)]
theorem kmS_drop (hd:fa d=some v)(hn:d ∉ ds)(hk:¬(hb d=false \/fb d=some v)):kmS fa fb hb f (ds++[d])=kmS fa fb hb f ds:=by
 funext x;unfold kmS;by_cases e:x=d
 ·subst e;rw [if_pos (yes_t (by simp)),if_neg (by rw [yes_f hn];simp)];unfold kmF;rw [hd];dsimp only;rw [if_neg (by rw [yes_f hk];simp)]
 ·by_cases e2:x∈ds
  ·rw [if_pos (yes_t (by simp [e2])),if_pos (yes_t e2)]
  ·rw [if_neg (by rw [yes_f (by simp [e,e2])];simp),if_neg (by rw [yes_f e2];simp)]
theorem kmS_done (hk:KeysF fa ds):kmS fa fb hb f ds=kmF fa fb hb f:=by
 funext x;unfold kmS;by_cases e:x∈ds
 ·rw [if_pos (yes_t e)]
 ·rw [if_neg (by rw [yes_f e];simp)];have:fa x=none:=by
   cases hv:fa x with
   | none=>rfl
   | some v=>exact absurd ((hk.2 x).2 (by rw [hv];simp)) e
  unfold kmF;rw [this]
end
noncomputable def cW (J:List Lf)(z:List Ky):Nat:=(J.filter (fun x=>yes (z <+:Way x))).length
noncomputable def mW (J:List Lf)(z:List Ky):Nat:=(J.filter (fun x=>yes (Way x=z))).length
theorem sum_add (f:Ky ->Nat)(y:Ky):∀ks:List Ky,ks.Nodup ->y∈ks ->(ks.map fun u=>f u+if u=y then 1 else 0).sum=(ks.map f).sum+1
 | [],_,h=>by cases h
 | a::r,hn,h=>by
  have hn':=List.nodup_cons.1 hn;simp only [List.map_cons,List.sum_cons];by_cases e:a=y
  ·have hz:(r.map fun u=>f u+if u=y then 1 else 0)=r.map f:=List.map_congr_left fun u hu=>by
    have:u≠y:=fun e2=>hn'.1 (by rw [e,<- e2];exact hu);rw [if_neg this];rfl
   rw [hz,if_pos e];omega
  ·have hy:y∈r:=by
    rcases List.mem_cons.1 h with h|h
    ·exact absurd h.symm e
    ·exact h
   rw [sum_add f y r hn'.2 hy,if_neg e];omega
theorem sum_same (f g:Ky ->Nat)(ks:List Ky)(h:∀u∈ks,f u=g u):(ks.map f).sum=(ks.map g).sum:=by
 rw [List.map_congr_left h]
theorem cW_sum (z:List Ky)(ks:List Ky)(hn:ks.Nodup):∀J:List Lf,(∀x∈J,∀y,z++[y] <+:Way x ->y∈ks) ->cW J z=mW J z+(ks.map fun y=>cW J (z++[y])).sum
 | [],_=>by
  have:(ks.map fun y=>cW [] (z++[y])).sum=0:=by
   have z0:∀ks:List Ky,(ks.map fun y=>cW [] (z++[y])).sum=0:=fun ks=>by
    induction ks with
    | nil=>rfl
    | cons a r ih=>simp only [List.map_cons,List.sum_cons,ih];rfl
   exact z0 ks
  rw [this];rfl
 | x::J,h=>by
  have ih:=cW_sum z ks hn J (fun u hu=>h u (List.mem_cons_of_mem _ hu));have step:∀(P:Lf ->Bool),((x::J).filter P).length=(J.filter P).length+if P x=true then 1 else 0:=fun P=>by
   cases hp:P x with
   | true=>simp [hp]
   | false=>simp [hp]
  have c1:cW (x::J) z=cW J z+if yes (z <+:Way x)=true then 1 else 0:=step _;have c2:mW (x::J) z=mW J z+if yes (Way x=z)=true then 1 else 0:=step _;have c3:∀y,cW (x::J) (z++[y])=cW J (z++[y])+if yes (z++[y] <+:Way x)=true then 1 else 0:=fun y=>step _;by_cases hp:z <+:Way x
  ·obtain⟨s,hs⟩:=hp;cases s with
   | nil=>
    have ez:Way x=z:=by rw [<- hs];simp
    have no:∀y,¬z++[y] <+:Way x:=fun y hh=>by
     have:=hh.length_le;rw [ez] at this;simp at this;omega
    rw [c1,c2,if_pos (yes_t (by rw [ez];exact List.prefix_refl _)),if_pos (yes_t ez),ih,sum_same (fun y=>cW (x::J) (z++[y])) (fun y=>cW J (z++[y])) ks (fun y _=>by rw [c3 y,if_neg (by rw [yes_f (no y)];simp)];rfl)];omega
   | cons y s=>
    have hy:z++[y] <+:Way x:=by rw [<- hs,show z++y::s=(z++[y])++s by simp];exact List.prefix_append _ _
    have ne:Way x≠z:=fun e=>by
     have:=congrArg List.length (hs.trans e);simp at this
    have only:∀u,z++[u] <+:Way x↔u=y:=fun u=>by
     constructor
     ·intro hu;obtain⟨t,ht⟩:=hu;rw [<- hs] at ht;have:[u]++t=y::s:=List.append_cancel_left (by rw [<- List.append_assoc];exact ht);injection this
     ·intro e;rw [e];exact hy
    rw [c1,c2,if_pos (yes_t ⟨y::s,hs⟩),if_neg (by rw [yes_f ne];simp),ih];have e1:(ks.map fun u=>cW (x::J) (z++[u])).sum=(ks.map fun u=>cW J (z++[u])+if u=y then 1 else 0).sum:=sum_same _ _ ks (fun u _=>by
     rw [c3 u];by_cases e:u=y
     ·rw [if_pos e,if_pos (yes_t ((only u).2 e))]
     ·rw [if_neg e,if_neg (by rw [yes_f (fun hh=>e ((only u).1 hh))];simp)])
    rw [e1,sum_add (fun u=>cW J (z++[u])) y ks hn (h x (List.mem_cons_self) y hy)];omega
  ·have ne:Way x≠z:=fun e=>hp (by rw [e];exact List.prefix_refl _);have no:∀y,¬z++[y] <+:Way x:=fun y hh=>hp (List.IsPrefix.trans (List.prefix_append _ _) hh);rw [c1,c2,if_neg (by rw [yes_f hp];simp),if_neg (by rw [yes_f ne];simp),ih,sum_same (fun y=>cW (x::J) (z++[y])) (fun y=>cW J (z++[y])) ks (fun y _=>by rw [c3 y,if_neg (by rw [yes_f (no y)];simp)];rfl)];omega
theorem cW_all (J:List Lf):cW J []=J.length:=by
 unfold cW;rw [List.filter_eq_self.2 (fun x _=>yes_t List.nil_prefix)]
end Go.Proofs.YtpfmeafmepgimaaGreat
namespace Go.Proofs.YtpfmeafmepgimaaGreat
open Go.ChangeShapes Go.WideShapes Go.ChangeAt Go.RowKit Go.Maps
section
variable {α β : Type} {w : World} {t : TypeId} {kv : α -> Value} {vo : Option β -> Value} {b c : Nat} {f : α -> Option β} {D : DataW Value}
theorem keys_of {es:List (Lit×DataW Value)}(hp:es.Pairwise (fun p q=>p.1≠q.1))(hc:∀p∈es,∃x,keyOf Tryz.prog t (kv x)=some p.1):∃xs:List α,xs.length=es.length/\ xs.Nodup/\ (∀x,x∈xs ->∃p∈es,keyOf Tryz.prog t (kv x)=some p.1)/\∀p∈es,∃x∈xs,keyOf Tryz.prog t (kv x)=some p.1:=by
 induction es with
 | nil=>exact⟨[],rfl,List.nodup_nil,fun x hx=>(by cases hx),fun p hp=>(by cases hp)⟩
 | cons p r ih=>
  have hp':=List.pairwise_cons.1 hp;obtain⟨xs,h1,h2,h3,h4⟩:=ih hp'.2 (fun q hq=>hc q (List.mem_cons_of_mem _ hq));obtain⟨x,hx⟩:=hc p (List.mem_cons_self);refine⟨x::xs,by simp [h1],List.nodup_cons.2 ⟨fun hm=> ?_,h2⟩,fun y hy=> ?_,fun q hq=> ?_⟩
  ·obtain⟨q,hq,e⟩:=h3 x hm;rw [hx] at e;exact hp'.1 q hq (Option.some.inj e)
  ·rcases List.mem_cons.1 hy with e|e
   ·rw [e];exact⟨p,List.mem_cons_self,hx⟩
   ·obtain⟨q,hq,e2⟩:=h3 y e;exact⟨q,List.mem_cons_of_mem _ hq,e2⟩
  ·rcases List.mem_cons.1 hq with e|e
   ·rw [e];exact⟨x,List.mem_cons_self,hx⟩
   ·obtain⟨y,hy,e2⟩:=h4 q e;exact⟨y,List.mem_cons_of_mem _ hy,e2⟩
theorem FM.size (h:FM w t kv vo b c f D)(K:Keyed Tryz.prog t)(hi:∀x y,kv x=kv y ->x=y){ks:List α}(hk:KeysF f ks):Maps.size D=ks.length:=by
 obtain⟨es,rfl,hp,hkl⟩:=h.own.entries K;have has':∀p∈es,has (DataW.map es) p.1=true:=fun p hpm=>by
  rw [has_eq];exact List.any_eq_true.2 ⟨p,hpm,WideAt.sameKey_self (hkl p hpm)⟩
 obtain⟨xs,h1,h2,h3,h4⟩:=keys_of (t:=t) (kv:=kv) hp (fun p hpm=>h.cov p.1 (has' p hpm));have e1:∀x,x∈xs ->x∈ks:=fun x hx=>by
  obtain⟨p,hpm,e⟩:=h3 x hx;refine(hk.2 x).2 fun hn=> ?_;have:=(h.at' x p.1 e).1;rw [has' p hpm,hn] at this;cases this
 have sz:Maps.size (DataW.map es)=es.length:=by simp [Maps.size]
 rw [sz,<- h1];have e2:∀x,x∈ks ->x∈xs:=fun x hx=>by
  obtain⟨kl,hkl'⟩:=h.ok x ((hk.2 x).1 hx);have hh:=(h.at' x kl hkl').1;have hs:(f x).isSome=true:=by
   cases hv:f x with
   | none=>exact absurd hv ((hk.2 x).1 hx)
   | some v=>rfl
  rw [hs,has_eq] at hh;obtain⟨p,hpm,hsk⟩:=List.any_eq_true.1 hh;have hpe:p.1=kl:=by
   first
    | exact WideAt.sameKey_eq hsk
    | exact(WideAt.sameKey_eq hsk).symm
  obtain⟨y,hy,ey⟩:=h4 p hpm;rw [hpe] at ey;have:=hi _ _ (K.inj hkl' ey);rw [this];exact hy
 exact((List.perm_ext_iff_of_nodup h2 hk.1).2 (fun x=>⟨e1 x,e2 x⟩)).length_eq
end
theorem dis_pair {J:List Lf}(hd:Dis J J.length):J.Pairwise (fun x y=>((x.r,x.q):Dt)≠(y.r,y.q)):=by
 refine List.pairwise_iff_getElem.2 fun i j hi hj hij e=> ?_;have h1:=hd j hj i hij;have e1:gL J i=J[i]:=by simp [gL,List.getD,hi]
 have e2:gL J j=J[j]:=by simp [gL,List.getD,hj]
 rw [e1,e2] at h1;exact h1 ⟨congrArg Prod.fst e,congrArg Prod.snd e⟩
theorem marks_keys {J:List Lf}(hd:Dis J J.length)(z:List Ky):KeysF (Mk J J.length z) ((J.filter (fun x=>yes (Way x=z))).map fun x=>((x.r,x.q):Dt)):=by
 refine⟨?_,fun d=> ?_⟩
 ·rw [List.Nodup,List.pairwise_map];exact(dis_pair hd).sublist List.filter_sublist
 ·rw [List.mem_map];constructor
  ·rintro⟨x,hx,e⟩;have hx':=List.mem_filter.1 hx;obtain⟨j,hj,ej⟩:=gL_mem.1 hx'.1;have hw:Way x=z:=by
    refine Classical.byContradiction fun hn=> ?_;have:=hx'.2;rw [yes_f hn] at this;cases this
   exact Mk_ne.2 ⟨j,hj,by rw [ej];exact hw,by rw [ej];exact e⟩
  ·intro h;obtain⟨j,hj,h2,h3⟩:=Mk_ne.1 h;exact⟨gL J j,List.mem_filter.2 ⟨gL_mem.2 ⟨j,hj,rfl⟩,yes_t h2⟩,h3⟩
theorem marks_len {J:List Lf}(hd:Dis J J.length){w:World}{z:List Ky}{b c:Nat}{D:DataW Value}(h:FM w 63 dtV mrkV b c (Mk J J.length z) D):Maps.size D=mW J z:=by
 rw [h.size dotKeyed (fun _ _=>dtV_inj) (marks_keys hd z),List.length_map];rfl
end Go.Proofs.YtpfmeafmepgimaaGreat
