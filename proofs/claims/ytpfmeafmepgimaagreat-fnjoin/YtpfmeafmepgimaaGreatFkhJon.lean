import Derived.Test.YtpfmeafmepgimaaGreatFkg33
set_option linter.unusedVariables false
set_option linter.unusedSimpArgs false
set_option maxRecDepth 100000
set_option maxHeartbeats 40000000
namespace Go.Proofs.YtpfmeafmepgimaaGreat
open Go.ChangeShapes Go.WideShapes Go.ChangeAt Go.RowKit Go.Maps
theorem cW_le (J:List Lf)(z:List Ky):cW J z<=J.length:=List.length_filter_le _ _
theorem mW_le (J:List Lf)(z:List Ky):mW J z<=J.length:=List.length_filter_le _ _
theorem sum_cW (J:List Lf)(z:List Ky):∀ds:List Ky,(ds.map fun y=>cW J (z++[y])).sum<=ds.length*J.length
 | []=>Nat.zero_le _
 | y::r=>by
  have h1:=sum_cW J z r;have h2:=cW_le J (z++[y]);simp only [List.map_cons,List.sum_cons,List.length_cons,Nat.add_mul,Nat.one_mul];omega
structure TJ (w:World)(B:Nat)(J:List Lf)(N:List Ky ->Option (Nat×Nat))(c:Nat):Prop where
 tre:Tre w B N (fun r=>Mk J J.length r) c
 there:∀z y,(N (z++[y])).isSome=true↔Ah J (z++[y])
 dis:Dis J J.length
theorem JF.tj {w:World}{B:Nat}{J:List Lf}{N:List Ky ->Option (Nat×Nat)}{c:Nat}{x0:Nat×Nat}(h:JF w B J [] N c x0)(hd:Dis J J.length):TJ w B J N c:=
 ⟨by simpa using h.tre,fun z y=>by
  cases z with
  | nil=>simpa using h.there y []
  | cons u r=>simpa using h.there u (r++[y]),hd⟩
theorem TJ.below {w w':World}{B:Nat}{J:List Lf}{N:List Ky ->Option (Nat×Nat)}{c:Nat}(h:TJ w B J N c)(hb:Below w.heap.size w w'):TJ w' B J N c:=⟨h.tre.below hb,h.there,h.dis⟩
theorem TJ.deep {w:World}{B:Nat}{J:List Lf}{N:List Ky ->Option (Nat×Nat)}{c:Nat}(h:TJ w B J N c)(h8:∀x∈J,(Way x).length<=8):∀p,N p≠none ->p.length<=8:=fun p hp=>by
 by_cases e:p=[]
 ·rw [e];simp
 ·obtain⟨z,y,rfl⟩:∃z y,p=z++[y]:=⟨p.dropLast,p.getLast e,(List.dropLast_concat_getLast e).symm⟩;have h1:(N (z++[y])).isSome=true:=by
   cases hv:N (z++[y]) with
   | none=>exact absurd hv hp
   | some v=>rfl
  obtain⟨x,hx,hpre⟩:=(h.there z y).1 h1;exact Nat.le_trans hpre.length_le (h8 x hx)
theorem countStep {v0:World}{B c:Nat}{J:List Lf}{N:List Ky ->Option (Nat×Nat)}(H:TJ v0 B J N c)(hc:c<=1048576)(hJ:J.length<=1048576)(z:List Ky)(x:Nat×Nat)(hx:N z=some x)
  (hIH:∀y x1,N (z++[y])=some x1 ->∀w,Below v0.heap.size v0 w ->Calls Tryz.prog 42 #[.agg #[.map (some x1.1),.map (some x1.2)]] w fun e w'=>e=.returned (.int .i64 (cW J (z++[y])))/\ Below w.heap.size w w')
  (w:World) (hw:Below v0.heap.size v0 w):
  Calls Tryz.prog 42 #[.agg #[.map (some x.1),.map (some x.2)]] w fun e w'=>e=.returned (.int .i64 (cW J z))/\ Below w.heap.size w w':=by
 have HT:=hid (H.below hw);have HV:=hid hw;have HX:=hid hx;have HI:=hid hIH;obtain⟨W,hW⟩:∃W,w.alloc (.cells #[.map (some x.1),.map (some x.2)] 45)=W:=⟨_,rfl⟩;have b0:Below w.heap.size w W:=by rw [<- hW];exact(Below.refl _ _).alloc (Nat.le_refl _) _
 have X0:Bx2 W w.heap.size (.map (some x.1)) (.map (some x.2)):=by rw [<- hW];exact Bx2.made _ _ _ _
 have hmk:=(HT.out.tre.below b0).marks z x hx;obtain⟨D,hD⟩:=hmk;obtain⟨m,hm⟩:∃m,mW J z=m:=⟨_,rfl⟩;have hln:∀ty,(Builtin.len_ #[43] ty #[.map (some x.2)]).run Tryz.prog W=.ok (.int .i64 (m:Nat)) W:=fun ty=>by rw [<- hm,<- marks_len H.dis hD];exact hD.own.len Tryz.underlying43 ty
 have hm2:m<=1048576:=by rw [<- hm];exact Nat.le_trans (mW_le J z) hJ
 have HM:=hid hm;have HKS:=hid ((HT.out.tre.below b0).kids z x hx);have HB0:=hid b0;have x0:=X0.c0;have x1:=X0.c1;have HJL:=hid (And.intro hc hJ);have HTH:=hid H.there;clear H hc hx hIH hw b0 X0 hD hm hJ;go_enter Tryz.func42,Tryz.ntmps42;go_wp2_with (at_range;refine wpList_range_O _ rfl _ 42 rfl 102 45 keyKeyed Tryz.underlying42 keyV nodV (some x.1) c (fun y=>N (z++[y])) rfl HKS.out ?_;intro w0 cnt0 hrg0 hg0 hs0);have HG1:Hid (Below W.heap.size W w0):=hid ⟨hg0.os,hg0.tape,hg0.output,hg0.size,fun k hk=>hg0.block k hk (by simp)⟩;clear hg0 hs0 hln x0 x1 hW;try go_frame
 go_loopw [3] (fun t wr=>∃(ds:List Ky) (cnt T:Nat),t=.int .i64 T/\ Rng wr 102 keyV nodV (some x.1) W.heap.size c (fun y=>N (z++[y])) ds cnt/\ Hid (T=m+(ds.map fun y=>cW J (z++[y])).sum)/\ Hid (Below W.heap.size W wr)) (fun t wr=>wr.rangeLeft x.1 W.heap.size);case atStart=>exact⟨[],_,m,rfl,hrg0,hid (by simp),HG1⟩
 case round=>
  clear hrg0 HG1;obtain⟨ds,cnt,T,rfl,hrg,HTT,HGR⟩:=hrel;have HRG0:=hid hrg;go_wp2_with (at_next;refine wpList_next_O _ rfl _ rfl 102 keyKeyed keyV (fun _ _=>keyV_inj) (fun key kl hk=>keyOf_key hk) nodV (some x.1) W.heap.size c (fun y=>N (z++[y])) ds cnt rfl hrg ?_ ?_)
  ·intro hk;have HE:Hid (T=cW J z):=hid (by
    rw [HTT.out,cW_sum z ds hk.1 J (fun u hu y hp=>(hk.2 y).2 (fun hn=>by
     have:=(HTH.out z y).2 ⟨u,hu,hp⟩;rw [show N (z++[y])=none from hn] at this;cases this)),HM.out])
   clear hk hrg;go_wp2_with fail;go_ret;exact⟨by have h:=HE.out;subst h;rfl,keepS HB0.out HGR.out⟩
  ·intro xs xk yv1 yv2 w5 cnt2 hfx hnx kl hkl hrg2 hlt2 hg2 hs2 hen;have HKY:=hid (fun w1 (b1:Below v0.heap.size v0 w1)=>HI.out (xs,xk) (yv1,yv2) hfx w1 b1);obtain⟨n,hn⟩:∃n,cW J (z++[(xs,xk)])=n:=⟨_,rfl⟩;rw [hn] at HKY;have k1:n<=1048576:=by rw [<- hn];exact Nat.le_trans (cW_le _ _) HJL.out.2
   have k2:T<=1099512676352:=by
    have h1:=sum_cW J z ds;have h2:=HRG0.out.len;have h3:=HJL.out;have h4:ds.length*J.length<=1048576*1048576:=Nat.mul_le_mul (by omega) (by omega);rw [HTT.out];omega
   have HT2:Hid (T+n=m+((ds++[(xs,xk)]).map fun y=>cW J (z++[y])).sum):=hid (by rw [HTT.out];simp [hn];omega);have HML:Hid (∀w9,Rng w9 102 keyV nodV (some x.1) W.heap.size c (fun y=>N (z++[y])) (ds++[(xs,xk)]) cnt2 ->w9.rangeLeft x.1 W.heap.size<wr.rangeLeft x.1 W.heap.size):=hid (fun w9 h9=>by
    rw [h9.left_eq,HRG0.out.left_eq];exact hlt2)
   have HB5:Hid (Below W.heap.size W w5):=hid (HGR.out.grown hg2 HGR.out.size (fun k e=>by cases e;exact Nat.le_refl _));have HR5:=hid hrg2;obtain⟨w6,hw6⟩:∃w6,w5.alloc (.cells #[.map (some yv1),.map (some yv2)] 45)=w6:=⟨_,rfl⟩;have b6:Below w5.heap.size w5 w6:=by rw [<- hw6];exact(Below.refl _ _).alloc (Nat.le_refl _) _
   have K6:Bx2 w6 w5.heap.size (.map (some yv1)) (.map (some yv2)):=by rw [<- hw6];exact Bx2.made _ _ _ _
   have HB6:=hid (HB5.out.trans (b6.mono HB5.out.size));have HV6:Hid (Below v0.heap.size v0 w6):=hid (HV.out.trans ((keepS HB0.out HB6.out).mono HV.out.size));have HR6:=hid (HR5.out.same (fun b e=>b6.block b (HR5.out.mlt b e)) (b6.block _ HR5.out.lt));have c0:=K6.c0;have c1:=K6.c1;clear hfx hnx hkl hrg hrg2 hlt2 hg2 hs2 b6 K6 hn;dsimp only [keyV,nodV] at hen ⊢;go_wp2_with fail;refine(HKY.out _ HV6.out).mono ?_;rintro e w7 ⟨rfl,b7⟩;have HB7:=hid (HB6.out.trans (b7.mono HB6.out.size));have HR7:=hid (HR6.out.same (fun b e=>b7.block b (HR6.out.mlt b e)) (b7.block _ HR6.out.lt));clear b7 c0 c1 hen hw6;go_wp2_with fail;go_roundw;case rel=>exact⟨_,_,T+n,by go_num,HR7.out,HT2,HB7⟩
   case measure=>exact HML.out w7 HR7.out
theorem countC {v0:World}{B c:Nat}{J:List Lf}{N:List Ky ->Option (Nat×Nat)}(H:TJ v0 B J N c)(hc:c<=1048576)(hJ:J.length<=1048576)(h8:∀x∈J,(Way x).length<=8):
  ∀d z x,z.length+d=8 ->N z=some x ->∀w,Below v0.heap.size v0 w ->Calls Tryz.prog 42 #[.agg #[.map (some x.1),.map (some x.2)]] w fun e w'=>e=.returned (.int .i64 (cW J z))/\ Below w.heap.size w w'
 | 0,z,x,hz,hx,w,hw=>countStep H hc hJ z x hx (fun y x1 h1=>absurd (H.deep h8 (z++[y]) (by rw [h1];simp)) (by simp;omega)) w hw
 | d+1,z,x,hz,hx,w,hw=>countStep H hc hJ z x hx (fun y x1 h1=>countC H hc hJ h8 d (z++[y]) x1 (by simp;omega) h1) w hw
end Go.Proofs.YtpfmeafmepgimaaGreat
