import Derived.Test.YtpfmeafmepgimaaGreatFkg08
import Derived.Test.YtpfmeafmepgimaaGreatFkg01
set_option linter.unusedVariables false
set_option linter.unusedSimpArgs false
set_option maxRecDepth 100000
set_option maxHeartbeats 40000000
namespace Go.Proofs.YtpfmeafmepgimaaGreat
open Go.ChangeShapes Go.WideShapes Go.ChangeAt Go.RowKit Go.Maps Go.Sort
theorem row_iter {w:World}{B b r n c:Nat}{e:TypeId}{s:Nat}{v:Value}{m:Nat}{xs:List Value}{D:DataW Value}{left:Lit ->Bool}(h:w.ownsRow B e s v m xs)(hm:w.ranges Tryz.prog 3 rawR b r n D left c):v.ownBlock=none \/v.ownBlock≠some r:=by
 obtain⟨_,h2⟩:=h;rcases h2 with ⟨rfl,_⟩|⟨g,cap,cur,rfl,_,hg,_⟩
 ·exact .inl rfl
 ·refine .inr (fun e=> ?_);obtain⟨es,clock,since,seen,c0,_,_,_,_,hb,_⟩:=hm;have e:g=r:=by simpa [Value.ownBlock] using e
  rw [e,hb] at hg;cases hg
theorem In_ne {l:List (Int×Int)}{x:Int}(h:In l x):l≠[]:=fun e=>by rw [e] at h;exact In_nil h
theorem Srt.inh {l:List (Int×Int)}(h:Srt l)(hne:l≠[]):∃x,In l x:=by
 cases l with
 | nil=>exact absurd rfl hne
 | cons p t=>exact⟨p.1,p,List.mem_cons_self,Int.le_refl _,(h.2 p List.mem_cons_self).2.1⟩
structure UInv (La Lb L:Int ->List (Int×Int))(left:Int ->Bool):Prop where
 s:∀r,Srt (L r)
 done:∀r,left r=false ->∀x,In (L r) x↔(In (La r) x \/In (Lb r) x)
 todo:∀r,left r=true ->L r=La r
 len:∀r,(L r).length<=(La r).length+(Lb r).length
theorem unionM2 {w:World}{ba na bb nb:Nat}{Da Db:DataW Value}{Ga Gb:Int ->Value}{La Lb:Int ->List (Int×Int)}(ha:GrpAt w ba na Da Ga La)(hb:GrpAt w bb nb Db Gb Lb)
  (hsa:∀r,Srt (La r)) (hsb:∀r,Srt (Lb r)) (hla:∀r,(La r).length<=2000) (hlb:∀r,(Lb r).length<=2000) (hza:Maps.size Da<=2000) (hzb:Maps.size Db<=2000):
  Calls Tryz.prog 41 #[.map (some ba),.map (some bb)] w fun e w'=>∃bd n D G L,e=.returned (.map (some bd))/\ n<=4000/\ GrpR w' bd n D G L/\ UInv La Lb L (fun _=>false)/\ Below w.heap.size w w':=by
 have hba:=ha.own.lt;have hbb:=hb.own.lt;have HA:=hid ha;have HBG:=hid hb;have HSA:=hid hsa;have HSB:=hid hsb;have HLA:=hid hla;have HLB:=hid hlb;have hmm:=@run_makeMap Tryz.prog;clear ha hb hsa hsb hla hlb;obtain⟨W1,hW1⟩:∃W1,w.alloc (.map #[] 0)=W1:=⟨_,rfl⟩;have HB1:Hid (Below w.heap.size w W1):=by rw [<- hW1];exact hid ((Below.refl _ _).alloc (Nat.le_refl _) _)
 have HM1:Hid (W1.ownsMap Tryz.prog 3 rawR w.heap.size 0 (.map [])):=by rw [<- hW1];exact hid (World.ownsMap_made w _ _ _)
 have HZ1:Hid (W1.heap.size=w.heap.size+1):=by rw [<- hW1];exact hid (by simp)
 go_enter Tryz.func41,Tryz.ntmps41;go_wp2_with fail;try rw [hW1]
 refine(copyM w.heap.size ba 0 na (.map []) Da W1 HM1.out (HA.out.below HB1.out).own (by omega) (by unfold maxLen;omega)).mono ?_;rintro e w2 ⟨rfl,⟨D2,hD2,hM2⟩,hg2⟩;have B2:Below w.heap.size w w2:=HB1.out.grown hg2 (by have:=HZ1.out;omega) (fun k hk=>by injection hk with hk;omega);have hown:=(HBG.out.below B2).own;have z2:w.heap.size<w2.heap.size:=by have:=hg2.size;have:=HZ1.out;omega
 have HU0:Hid (UInv La Lb La (fun r=>Maps.has Db (kI r))):=by
  refine hid ⟨HSA.out,fun r hr x=> ?_,fun _ _=>rfl,fun r=>by omega⟩;have hr:Maps.has Db (kI r)=false:=hr;rw [HBG.out.has' r] at hr;have:Lb r=[]:=by simpa using hr
  rw [this];simp [In]
 have HAT:Hid (∀r,D2.atKey (kI r) (.held (.slice none 0 0))=.held (Ga r)):=by
  refine hid (fun r=> ?_);rw [hM2.2,<- HA.out.at' r];cases e:Maps.has Da (kI r) with
  | true=>rfl
  | false=>
   rw [atKey_of_not_has e];rfl
 have HHS:Hid (∀r,Maps.has D2 (kI r)= !(La r).isEmpty):=by
  refine hid (fun r=> ?_);rw [hM2.1,HA.out.has' r];have:Maps.has (.map []:DataW Value) (kI r)=false:=rfl;rw [this];simp
 have HD2:=hid hD2;have HB2:=hid B2;clear hD2 hM2 hg2 HM1 hW1 hmm;go_wp2_with (at_range;refine wpList_range_own _ rfl _ 47 rfl 3 109 (int_keyed Tryz.underlying3) Tryz.underlying47 rawR bb nb Db rfl hown ?_;intro w0 hrg0 hg0 hs0);go_frame;have b0:Below w.heap.size w w0:=HB2.out.grown hg0 (by omega) (fun _ h=>by cases h);go_loopw [6] (fun _ wr=>∃(left:Lit ->Bool) (cnt:Nat) (Dx:DataW Value) (Gx:Int ->Value) (Lx:Int ->List (Int×Int)),wr.ranges Tryz.prog 3 rawR bb w2.heap.size nb Db left cnt/\ cnt<=Maps.size Db/\ Hid (GrpR wr w.heap.size (Maps.size Da+(Maps.size Db - cnt)) Dx Gx Lx)/\ Hid (UInv La Lb Lx (fun r=>left (kI r)))/\ Hid (Below w.heap.size w wr))
  (fun _ wr=>wr.rangeLeft bb w2.heap.size)
 case atStart=>
  refine⟨_,_,D2,Ga,La,hrg0,Nat.le_refl _,hid ⟨(HD2.out.kept hg0 (by simp)).mono (by omega),HAT.out,HHS.out,fun r=>row_zero (((HA.out.below HB2.out).rows r).kept hg0 ?_)⟩,HU0,hid b0⟩;cases e:(Ga r).ownBlock with
  | none=>exact .inl rfl
  | some g=>exact .inr (by simp)
 case round=>
  clear hrg0 hg0 hs0 b0 hown HU0 HAT HHS HD2 HB2;obtain⟨left,cnt,Dx,Gx,Lx,hrg,hcs,hgx,hux,hbel⟩:=hrel;go_wp2_with (at_next;refine wpList_next_raw _ rfl _ rfl 3 (int_keyed Tryz.underlying3) Tryz.underlying3 bb w2.heap.size nb _ _ _ rfl hrg ?_ ?_)
  ·intro hl0;have HU:Hid (UInv La Lb Lx (fun _=>false)):=by
    have e:(fun r=>left (kI r))=fun _=>false:=funext fun r=>hl0 (kI r);have:=hux.out;rw [e] at this;exact hid this
   clear hl0 hrg;go_wp2_with fail;go_ret;exact⟨w.heap.size,_,Dx,Gx,Lx,rfl,by omega,hgx.out,HU.out,hbel.out⟩
  ·intro x va vn vc w1 cnt1 hwx hlx hat hrg1 hlt hg1 hs1 hen;have hG:Gb x=.slice va vn vc:=by
    have h1:=HBG.out.at' x;rw [hat] at h1;injection h1 with h1;exact h1.symm
   have hLb:Lb x≠[]:=by
    have h1:=has_true_of_atKey hat;rw [HBG.out.has' x] at h1;intro e;rw [e] at h1;cases h1
   have B1:Below w.heap.size w w1:=hbel.out.grown hg1 hbel.out.size (fun k hk=>by injection hk with hk;omega);have hrb:=(HBG.out.below B1).rows x;have hra:=(HA.out.below B1).rows x;have hlk:=(HA.out.below B1).look x hwx;obtain⟨xb,cb,e1,ssb,hcb1,hcb2⟩:=row_slice hrb;obtain⟨xa,ca,e2,ssa,hca1,hca2⟩:=row_slice hra;rw [hG] at e1;injection e1 with e1 e3 e4;subst e1 e3 e4;rw [e2] at hlk;have g1:GrpR w1 w.heap.size (Maps.size Da+(Maps.size Db - cnt)) Dx Gx Lx:=⟨hgx.out.own.kept hg1 (fun e=>by injection e with e;omega),hgx.out.at',hgx.out.has',fun r=>(hgx.out.rows r).kept hg1 (row_iter (hgx.out.rows r) hrg)⟩;have HC:=hid (mergeSpans xa ca va vc (La x) (Lb x) w1 ssa ssb hca1 hca2 hcb1 hcb2 (HSA.out x) (HSB.out x) (HLA.out x) (HLB.out x));have HG1:=hid g1;have HB1:=hid B1;have HRG1:=hid hrg1;have HLE:=hid hrg.left_eq;have HLX:=hid hlx;have HNE:=hid hLb;have zz1:=B1.size;clear hrg hG hat hlx hg1 hs1 hrb hra e2 ssa ssb g1 B1 hrg1 hLb;go_wp2_with fail;refine HC.out.mono ?_;rintro e w3 ⟨v,l,rfl,hsr,hb3,hs3,hin3,hl3⟩;have hrg3:=HRG1.out.kept (row:=none) ⟨hb3.os,hb3.tape,hb3.output,hb3.size,fun k hk _=>hb3.block k hk⟩ (by simp) (by simp);have hkey:keyOf Tryz.prog 3 (.int .i64 x)=some (kI x):=keyOf_int_mk Tryz.underlying3 hwx;have hrv:rawR v=some (.held v,[]):=rawR_own hsr;have hm3:w3.ownsMap Tryz.prog 3 rawR w.heap.size (Maps.size Da+(Maps.size Db - cnt)) Dx:=HG1.out.own.kept (row:=none) ⟨hb3.os,hb3.tape,hb3.output,hb3.size,fun k hk _=>hb3.block k hk⟩ (by simp);have HR3:Hid (∀r,w3.ownsRow 0 121 2 (Gx r) (Lx r).length (spanCells (Lx r))):=hid fun r=>row_below (HG1.out.rows r) hb3;have HV3:Hid (w3.ownsRow 0 121 2 v l.length (spanCells l)):=hid (row_zero hsr);have HB3:=hid (keepS HB1.out hb3);have HS3:=hid (And.intro hs3 (And.intro hin3 hl3));have HRG3:=hid hrg3;clear hsr hb3 hs3 hin3 hl3 hrg3 HB1 HC hlk HRG1;go_wp2_with (at_mapUpdate;refine wpList_mapUpdate_own _ rfl _ _ _ 47 rfl 3 109 (int_keyed Tryz.underlying3) Tryz.underlying47 rawR w.heap.size _ _ rfl hm3 (by unfold maxLen;omega) _ _ _ rfl rfl hkey (.held v) [] hrv ?_;intro w4 hm4 hg4;go_frame);have hrg4:=HRG3.out.kept hg4 (fun e=>by injection e with e;omega) (fun e=>by injection e with e;omega);have hlne:l≠[]:=by
    obtain⟨y,hy⟩:=(HSB.out x).inh HNE.out;exact In_ne ((HS3.out.2.1 y).2 (.inr hy))
   go_roundw;case rel=>
    refine⟨_,cnt1,_,upd Gx x v,upd Lx x l,hrg4,by omega,hid ⟨hm4.mono (by omega),fun r=> ?_,fun r=> ?_,fun r=> ?_⟩,hid ⟨fun r=> ?_,fun r hr=> ?_,fun r hr=> ?_,fun r=> ?_⟩,hid (HB3.out.grown hg4 (by have:=HB3.out.size;omega) (fun k hk=>by injection hk with hk;omega))⟩
    ·by_cases e:r=x
     ·subst e;rw [upd_same,atKey_put_same HG1.out.own.isMap (show WideAt.IsKeyLit (kI r) from trivial)]
     ·rw [upd_other Gx v e,atKey_put_other (kI_ne e)];exact HG1.out.at' r
    ·by_cases e:r=x
     ·subst e;rw [upd_same,has_put_same HG1.out.own.isMap (show WideAt.IsKeyLit (kI r) from trivial)];cases l with
      | nil=>exact absurd rfl hlne
      | cons _ _=>rfl
     ·rw [upd_other Lx l e,has_put_other (kI_ne e)];exact HG1.out.has' r
    ·by_cases e:r=x
     ·subst e;rw [upd_same,upd_same];exact HV3.out.kept hg4 (row_map HV3.out hm3)
     ·rw [upd_other Gx v e,upd_other Lx l e];exact(HR3.out r).kept hg4 (row_map (HR3.out r) hm3)
    ·by_cases e:r=x
     ·subst e;rw [upd_same];exact HS3.out.1
     ·rw [upd_other Lx l e];exact hux.out.s r
    ·by_cases e:r=x
     ·subst e;rw [upd_same];exact HS3.out.2.1
     ·rw [upd_other Lx l e];exact hux.out.done r (by rw [sameKey_kI] at hr;simpa [e] using hr)
    ·by_cases e:r=x
     ·subst e;rw [sameKey_kI] at hr;simp at hr
     ·rw [upd_other Lx l e];exact hux.out.todo r (by rw [sameKey_kI] at hr;simpa [e] using hr)
    ·by_cases e:r=x
     ·subst e;rw [upd_same];exact HS3.out.2.2
     ·rw [upd_other Lx l e];exact hux.out.len r
   case measure=>rw [hrg4.left_eq,HLE.out];exact hlt
def SK (f:Int ->Nat):Nat ->Nat
 | 0=>0
 | k+1=>SK f k+f (k:Int)
theorem SK_zero {f:Int ->Nat}(h:∀r,f r=0):∀k,SK f k=0
 | 0=>rfl
 | k+1=>by simp only [SK];rw [SK_zero h k,h]
theorem SK_same {f f':Int ->Nat}{x:Int}(ho:∀r,r≠x ->f' r=f r):∀k:Nat,((k:Int)<=x \/x<0) ->SK f' k=SK f k
 | 0,_=>rfl
 | k+1,h=>by simp only [SK];rw [SK_same ho k (by omega),ho k (by omega)]
theorem SK_upd {f f':Int ->Nat}{x:Int}(ho:∀r,r≠x ->f' r=f r)(h0:0<=x):∀k:Nat,x<k ->SK f' k+f x=SK f k+f' x
 | 0,h=>by omega
 | k+1,h=>by
  simp only [SK];by_cases e:x=(k:Int)
  ·rw [SK_same ho k (by omega),<- e];omega
  ·have:=SK_upd ho h0 k (by omega);rw [ho k (fun h=>e h.symm)];omega
theorem SK_const {f:Int ->Nat}{c:Nat}(h:∀r,f r<=c):∀k,SK f k<=c*k
 | 0=>Nat.le_refl _
 | k+1=>by have:=SK_const h k;have:=h (k:Int);simp only [SK];rw [Nat.mul_succ];omega
theorem outF_len (L:Int ->List (Int×Int)):∀k,(outF L k).length=SK (fun r=>(L r).length) k
 | 0=>rfl
 | k+1=>by
  by_cases e:(L (k:Int)).isEmpty=true
  ·rw [outF_succ_n e,outF_len L k];have:L (k:Int)=[]:=by simpa using e
   simp [SK,this]
  ·rw [outF_succ_y (by simpa using e),List.length_append,outF_len L k];simp [SK,tag]
theorem countM2 {w:World}{bm n:Nat}{D:DataW Value}{G:Int ->Value}{L:Int ->List (Int×Int)}(h:GrpR w bm n D G L)(hL:∀r,L r≠[] ->0<=r/\ r<8)(hl:∀r,(L r).length<=4000):
  Calls Tryz.prog 43 #[.map (some bm)] w fun e w'=>e=.returned (.int .i64 (((outF L 8).length:Nat):Int))/\ Below w.heap.size w w':=by
 have hbm:=h.own.lt;have hown:=h.own;have HG:=hid h;have HL:=hid hL;have HLL:=hid hl;have HLN:=hid (outF_len L 8);clear h hL hl;obtain⟨tot,htot⟩:∃t,(outF L 8).length=t:=⟨_,rfl⟩;rw [htot] at HLN ⊢;clear htot;go_enter Tryz.func43,Tryz.ntmps43;go_wp2_with (at_range;refine wpList_range_own _ rfl _ 47 rfl 3 109 (int_keyed Tryz.underlying3) Tryz.underlying47 rawR bm n D rfl hown ?_;intro w0 hrg0 hg0 hs0);go_frame;have b0:Below w.heap.size w w0:=(Below.refl _ _).grown hg0 (Nat.le_refl _) (fun _ h=>by cases h);go_loopw [3] (fun v wr=>∃(left:Lit ->Bool) (cnt acc:Nat),v=.int .i64 (acc:Int)/\ wr.ranges Tryz.prog 3 rawR bm w.heap.size n D left cnt/\ Hid (acc=SK (fun r=>if left (kI r) then 0 else(L r).length) 8)/\ Hid (Below w.heap.size w wr))
  (fun _ wr=>wr.rangeLeft bm w.heap.size)
 case atStart=>
  refine⟨_,_,0,rfl,hrg0,hid ?_,hid b0⟩;rw [SK_zero (fun r=> ?_)];cases e:Maps.has D (kI r) with
  | true=>rfl
  | false=>
   rw [HG.out.has' r] at e;have:L r=[]:=by simpa using e
   simp [this]
 case round=>
  clear hrg0 hg0 hs0 b0 hown;obtain⟨left,cnt,acc,rfl,hrg,hacc,hbel⟩:=hrel;have hal:acc<=32000:=by
   rw [hacc.out];have:=SK_const (f:=fun r=>if left (kI r) then 0 else(L r).length) (c:=4000) (fun r=>by have:=HLL.out r;show (if _ then _ else _)<=_;split<;>omega) 8;omega
  go_wp2_with (at_next;refine wpList_next_raw _ rfl _ rfl 3 (int_keyed Tryz.underlying3) Tryz.underlying3 bm w.heap.size n _ _ _ rfl hrg ?_ ?_)
  ·intro hl0;have HE:Hid (acc=tot):=by
    have h1:=hacc.out;rw [show (fun r=>if left (kI r) then 0 else(L r).length)=fun r=>(L r).length from funext fun r=>by rw [hl0 (kI r)];rfl] at h1;exact hid (h1.trans HLN.out.symm)
   clear hl0 hrg;go_wp2_with fail;go_ret;exact⟨ret_int (by rw [HE.out]),hbel.out⟩
  ·intro x va vn vc w1 cnt1 hwx hlx hat hrg1 hlt hg1 hs1 hen;have hG:G x=.slice va vn vc:=by
    have h1:=HG.out.at' x;rw [hat] at h1;injection h1 with h1;exact h1.symm
   obtain⟨a',c',e',_⟩:=row_slice (HG.out.rows x);rw [hG] at e';injection e' with ea en ec;subst ea ec;have hx:0<=x/\ x<8:=by
    have h1:=has_true_of_atKey hat;rw [HG.out.has' x] at h1;exact HL.out x (fun e=>by rw [e] at h1;cases h1)
   have hvl:vn<=4000:=by rw [en];exact HLL.out x
   have HSUM:Hid (acc+vn=SK (fun r=>if (left (kI r) && !(kI r).sameKey (kI x)) then 0 else(L r).length) 8):=by
    obtain⟨F0,hF0⟩:∃F0:Int ->Nat,F0=fun r=>if left (kI r) then 0 else(L r).length:=⟨_,rfl⟩;obtain⟨F1,hF1⟩:∃F1:Int ->Nat,F1=fun r=>if (left (kI r) && !(kI r).sameKey (kI x)) then 0 else(L r).length:=⟨_,rfl⟩;have h1:=SK_upd (f:=F0) (f':=F1) (x:=x) (fun r hr=>by rw [hF0,hF1];show (if _ then _ else _)=(if _ then _ else _);rw [sameKey_kI];simp [hr]) hx.1 8 hx.2;have h2:F0 x=0:=by rw [hF0];show (if _ then _ else _)=_;rw [hlx];rfl
    have h3:F1 x=(L x).length:=by rw [hF1];show (if _ then _ else _)=_;rw [sameKey_kI];simp
    have h4:=hacc.out;rw [<- hF0] at h4;rw [<- hF1];exact hid (by omega)
   have B1:Hid (Below w.heap.size w w1):=hid (hbel.out.grown hg1 hbel.out.size (fun k hk=>by injection hk with hk;omega));have HLE:=hid hrg.left_eq;have HR1:=hid hrg1;have HLT:=hid hlt;clear hrg hg1 hs1 hat hG en hlx hrg1 hlt;go_wp2_with fail;go_roundw;case rel=>exact⟨_,cnt1,acc+vn,by go_num,HR1.out,HSUM,B1⟩
   case measure=>rw [HR1.out.left_eq,HLE.out];exact HLT.out
def fCells (l:List Rn):List Value:=l.flatMap fun p=>[.int .i64 p.1,.int .i64 p.2.1,.int .i64 p.2.2]
theorem fCells_snoc (l:List Rn)(p:Rn):fCells (l++[p])=fCells l++[.int .i64 p.1,.int .i64 p.2.1,.int .i64 p.2.2]:=by simp [fCells]
def FR (w:World)(B:Nat)(v:Value)(l:List Rn):Prop:=w.ownsRow B 87 3 v l.length (fCells l)
theorem GrpR.look {w:World}{bm n:Nat}{D:DataW Value}{G:Int ->Value}{L:Int ->List (Int×Int)}(h:GrpR w bm n D G L)(r:Int)(hr:(Lit.int .i64 r).wf=true):
  (Instr.lookup 47 (.map (some bm)) (.int .i64 r) false).run Tryz.prog w=.ok (G r) w:=by
 obtain⟨v,ps,hrun,hv⟩:=h.own.lookup (int_keyed Tryz.underlying3) Tryz.underlying47 (zeroSpans w) (zd:=.held (.slice none 0 0)) (zp:=[]) rfl (keyOf_int_mk Tryz.underlying3 hr);have:=h.at' r;obtain⟨hd,_⟩:=rawR_inv hv;unfold kI at this;rw [this] at hd;have e:v=G r:=by injection hd with hd;exact hd.symm
 rw [hrun,e]
theorem keysR_perm {w:World}{bm n:Nat}{D:DataW Value}{G:Int ->Value}{L:Int ->List (Int×Int)}(h:GrpR w bm n D G L)(hL:∀r,L r≠[] ->0<=r/\ r<8):(KS L 8).Perm (intKeys D)/\ Maps.size D=(KS L 8).length:=by
 obtain⟨es,hD,hpw,_⟩:=h.own.entries (int_keyed Tryz.underlying3);obtain⟨es',hD',hko⟩:=h.own.keysOf;obtain rfl:es=es':=by rw [hD] at hD';simpa using hD'
 have key:(KS L 8).Perm (intKeys D):=by
  have hh:=h.has';rw [hD] at hh ⊢;refine perm_intKeys hpw (fun p hp=>by obtain⟨v,hv⟩:=hko p hp;obtain⟨x,_,hx,_⟩:=Maps.keyOf_i64 Tryz.underlying3 hv;exact⟨x,hx⟩) ((KS_lt L 8).imp (fun h=>by omega)) (fun x=> ?_);have:=hh x;unfold kI at this;rw [this,KS_mem];constructor
  ·rintro⟨_,_,c⟩;rw [c];rfl
  ·intro c;have c':(L x).isEmpty=false:=by simpa using c
   have:=hL x (by intro e;rw [e] at c';cases c');exact⟨this.1,this.2,c'⟩
 refine⟨key,?_⟩;rw [key.length_eq,hD];simp [Maps.size_eq,intKeys]
def outK (L:Int ->List (Int×Int))(ks:List Int):Nat ->List Rn
 | 0=>[]
 | k+1=>outK L ks k++tag (ks.getD k 0) (L (ks.getD k 0))
theorem outK_flat (L:Int ->List (Int×Int))(ks:List Int):∀k,k<=ks.length ->outK L ks k=(ks.take k).flatMap fun r=>tag r (L r)
 | 0,_=>by simp [outK]
 | k+1,h=>by
  have e:ks.take (k+1)=ks.take k++[ks.getD k 0]:=by
   rw [List.take_add_one];simp [List.getD,show k<ks.length by omega]
  rw [e,List.flatMap_append,<- outK_flat L ks k (by omega)];simp [outK]
theorem outK_len {L:Int ->List (Int×Int)}(hL:∀r,(L r).length<=4000)(ks:List Int):∀k,(outK L ks k).length<=4000*k
 | 0=>by simp [outK]
 | k+1=>by
  have:=outK_len hL ks k;have:=hL (ks.getD k 0);simp only [outK,List.length_append,tag,List.length_map];omega
theorem tag_take {r:Int}{l:List (Int×Int)}{t:Nat}(h:t<l.length):(tag r l).take (t+1)=(tag r l).take t++[(r,sF l t,sT l t)]:=by
 rw [List.take_add_one];simp [tag,sF,sT,List.getD,h]
theorem contextM2 {w:World}{bm n:Nat}{D:DataW Value}{G:Int ->Value}{L:Int ->List (Int×Int)}(h:GrpR w bm n D G L)(hL:∀r,L r≠[] ->0<=r/\ r<8)(hl:∀r,(L r).length<=4000):
  Calls Tryz.prog 45 #[.map (some bm)] w fun e w'=>∃v,e=.returned (.agg #[v])/\ FR w' w.heap.size v (outF L 8)/\ Below w.heap.size w w':=by
 obtain⟨i0,hi,hz0,hz1,hz2⟩:=info_parts Tryz.infoRun;have hbm:=h.own.lt;obtain⟨kp,hsz⟩:=keysR_perm h hL;obtain⟨ks,hks⟩:∃ks,KS L 8=ks:=⟨_,rfl⟩;have HOF:Hid (outF L 8=outK L ks ks.length):=by
  refine hid ?_;rw [outK_flat L ks _ (Nat.le_refl _),List.take_length,<- hks];rfl
 have hkl:ks.length<=8:=by rw [<- hks];exact KS_len L 8
 have HMem:Hid (∀x∈ks,0<=x/\ x<8/\ L x≠[]):=fun x hx=>by
  rw [<- hks] at hx;have:=(KS_mem L 8 x).1 hx;exact⟨this.1,by omega,fun e=>by rw [e] at this;simp at this⟩
 have HSo:Hid (∀ss:List Int,ss.Perm (intKeys D) ->ss.mergeSort (fun x y=>decide (x<=y))=ks/\ ss.length=ks.length):=fun ss hs=>by rw [<- hks];exact⟨KS_sorted kp hs,by rw [hs.length_eq,<- kp.length_eq]⟩
 rw [hks] at hsz;clear hks kp hL;have HG:=hid h;have HLL:=hid hl;have HGlt:Hid (∀r g,(G r).ownBlock=some g ->g<w.heap.size):=fun r g hg=>((h.rows r).lt g hg).2;clear h hl;obtain⟨W0,hW0⟩:∃W0,(w.alloc (.cells #[.slice none 0 0] 26)).alloc (.cells #[.slice none 0 0] 26)=W0:=⟨_,rfl⟩;have HB0:Hid (Below w.heap.size w W0):=by rw [<- hW0];exact hid (below2 _ _ _)
 have HZ0:Hid (W0.heap.size=w.heap.size+2):=by rw [<- hW0];exact hid (by simp)
 have c2:W0.cell? ⟨w.heap.size,0,none⟩=some (.slice none 0 0):=by rw [<- hW0];simp
 have c3:W0.cell? ⟨w.heap.size+1,0,none⟩=some (.slice none 0 0):=by rw [<- hW0];simp
 have f2:W0.frozen? ⟨w.heap.size,0,none⟩=false:=by rw [<- hW0];simp
 have f3:W0.frozen? ⟨w.heap.size+1,0,none⟩=false:=by rw [<- hW0];simp
 have HGR0:=hid (HG.out.below HB0.out);go_enter Tryz.func45,Tryz.ntmps45;go_wp2_with fail;try rw [hW0]
 refine(keysC (some bm) W0).mono ?_;rintro e w3 ⟨rfl,rfl⟩;go_wp2_with fail;refine(sortedC bm n D rawR W0 HGR0.out.own (by rw [hsz];unfold maxLen;omega) (by rw [hsz];omega)).mono ?_;rintro e w4 ⟨v4,ss,rfl,hperm,hrow,hb4⟩;obtain⟨hS1,hS2⟩:=HSo.out ss hperm;rw [hS1,hS2] at hrow;have z4:w.heap.size+2<=w4.heap.size:=by have:=hb4.size;have:=HZ0.out;omega
 have d2:=(hb4.cell (p:=⟨w.heap.size,0,none⟩) (by have:=HZ0.out;show w.heap.size<_;omega)).trans c2;have d3:=(hb4.cell (p:=⟨w.heap.size+1,0,none⟩) (by have:=HZ0.out;show w.heap.size+1<_;omega)).trans c3;have k2:=((bcell hb4).2 w.heap.size 0 (by have:=HZ0.out;omega)).trans f2;have k3:=((bcell hb4).2 (w.heap.size+1) 0 (by have:=HZ0.out;omega)).trans f3;have HB4:=hid (keepS HB0.out hb4);have HG4:=hid (HG.out.below HB4.out);clear hperm hS1 hS2 HSo hb4 hW0 c2 c3 HGR0 f2 f3;have hkc:Hid (ks.length=0 \/∃g cap,v4=.slice (some ⟨g,0,none⟩) ks.length cap/\ g<w4.heap.size/\ w.heap.size+2<=g/\ ks.length<=cap/\ cap<=9223372036854775807/\∀i,i<ks.length ->w4.cell? ⟨g,i,none⟩=some (.int .i64 (ks.getD i 0))):=by
  refine hid ?_;have hr:=hrow;rcases hrow.2 with ⟨_,e0⟩|⟨g,cap,cur,rfl,hbg,hg,hnc,hcm,hcs,htake⟩
  ·exact .inl e0
  ·have:=HZ0.out;unfold maxLen at hcm;exact .inr ⟨g,cap,rfl,(hr.lt g rfl).2,by omega,hnc,by omega,row_ints hr rfl⟩
 obtain⟨x4,cp4,e4⟩:∃x c,v4=.slice x ks.length c:=by
  rcases hrow.2 with ⟨rfl,e0⟩|⟨g,cap,cur,rfl,_⟩
  ·exact⟨none,0,by rw [e0]⟩
  ·exact⟨_,_,rfl⟩
 subst e4;clear hrow;go_wp2_with fail;go_loopw [12] (fun iv wr=>∃(k:Nat) (v:Value),k<=ks.length/\ iv=.int .i64 k/\ wr.cell? ⟨w.heap.size+1,0,none⟩=some v/\ wr.cell? ⟨w.heap.size,0,none⟩=some (.slice none 0 0)/\ wr.frozen? ⟨w.heap.size,0,none⟩=false/\ wr.frozen? ⟨w.heap.size+1,0,none⟩=false/\ Hid (FR wr w4.heap.size v (outK L ks k))/\ Hid (w4.grownBy wr (some (w.heap.size+1)))) (fun iv _=>ks.length - (intOf iv).toNat);case atStart=>exact⟨0,_,Nat.zero_le _,rfl,d3,d2,k2,k3,hid (World.ownsRow_nil _ _ _ _),hid ⟨rfl,rfl,rfl,Nat.le_refl _,fun _ _ _=>rfl⟩⟩
 case round=>
  clear d2 d3 k2 k3;obtain⟨k,v,hk,rfl,e3,e2,j2,j3,hfr,hgr⟩:=hrel;by_cases hlt:k<ks.length
  ·have hcell:∃g,x4=some ⟨g,0,none⟩/\ ks.length<=cp4/\ cp4<=9223372036854775807/\ wr.cell? ⟨g,k,none⟩=some (.int .i64 (ks.getD k 0)):=by
    rcases hkc.out with h|⟨g,cap,e,hg,hg2,q1,q2,hc⟩
    ·omega
    ·injection e with e1 e2 e3;subst e1 e3;have hgn:some g≠some (w.heap.size+1):=fun e=>by injection e with e;omega
     exact⟨g,rfl,q1,q2,hgr.out.cell (hc k hlt) hgn⟩
   obtain⟨g,rfl,hq1,hq2,hck⟩:=hcell;have hmem:=HMem.out (ks.getD k 0) (by simp [List.getD,hlt]);have HOK1:Hid (outK L ks (k+1)=outK L ks k++tag (ks.getD k 0) (L (ks.getD k 0))):=hid rfl;have hol:=outK_len HLL.out ks k;obtain⟨x,hx⟩:∃x,ks.getD k 0=x:=⟨_,rfl⟩;rw [hx] at hmem hck HOK1;have hwx:(Lit.int .i64 x).wf=true:=wfI (by omega) (by omega);have gw:GrpR wr bm n D G L:=HG4.out.gr hgr.out (fun e=>by injection e with e;omega) (fun r g hg e=>by injection e with e;have:=HGlt.out r g hg;omega);have hlk:=gw.look x hwx;obtain⟨xs,cs,eG,hss,hcs1,hcs2⟩:=row_slice (HG4.out.rows x);rw [eG] at hlk;have hlen:=HLL.out x;obtain⟨m,hm⟩:∃m,(L x).length=m:=⟨_,rfl⟩;have HSS:=hid hss;have HXS:Hid (∀a,xs=some a ->a.block<w.heap.size):=hid fun a ha=>by
    have:=HGlt.out x a.block (by rw [eG,ha];rfl);exact this
   rw [hm] at hlk hcs1 hlen HSS;have HM:=hid hm;have HX:=hid hx;clear gw eG hss hm hx hmem hwx;go_wp2_with fail;go_loopw [20] (fun iv wr2=>∃(t:Nat) (v2:Value),t<=m/\ iv=.int .i64 t/\ wr2.cell? ⟨w.heap.size+1,0,none⟩=some v2/\ wr2.cell? ⟨w.heap.size,0,none⟩=some (.slice none 0 0)/\ wr2.frozen? ⟨w.heap.size,0,none⟩=false/\ wr2.frozen? ⟨w.heap.size+1,0,none⟩=false/\ Hid (FR wr2 w4.heap.size v2 (outK L ks k++(tag x (L x)).take t))/\ Hid (w4.grownBy wr2 (some (w.heap.size+1)))) (fun iv _=>m - (intOf iv).toNat);case atStart=>exact⟨0,v,Nat.zero_le _,rfl,e3,e2,j2,j3,hid (by simpa using hfr.out),hgr⟩
   case round=>
    clear e3 e2 hlk hfr hck j2 j3;obtain⟨t,v2,ht,rfl,e3,e2,j2,j3,hfr2,hgr2⟩:=hrel;have zr:=hgr2.out.size;have hl2:(outK L ks k++(tag x (L x)).take t).length<=4000*k+4000:=by simp only [List.length_append,List.length_take];omega
    obtain⟨fl,hfl⟩:∃fl,outK L ks k++(tag x (L x)).take t=fl:=⟨_,rfl⟩;rw [hfl] at hfr2 hl2;have HFL:=hid hfl;clear hfl;by_cases htl:t<m
    ·have hcell:∃gs off,xs=some ⟨gs,off,none⟩/\ wr.cell? ⟨gs,off+t*2,none⟩=some (.int .i64 (sF (L x) t))/\ wr.cell? ⟨gs,off+t*2+1,none⟩=some (.int .i64 (sT (L x) t)):=by
      rcases HSS.out with h|⟨gs,off,e,hg,hc⟩
      ·omega
      ·have h1:=HXS.out _ e;have hgn:some gs≠some (w.heap.size+1):=fun e=>by injection e with e;have h1:gs<w.heap.size:=h1;omega
       exact⟨gs,off,e,hgr2.out.cell (hc t htl).1 hgn,hgr2.out.cell (hc t htl).2 hgn⟩
     obtain⟨gs,off,rfl,s0,s1⟩:=hcell;have HTK:=hid (tag_take (r:=x) (l:=L x) (t:=t) (by have:=HM.out;omega));obtain⟨qf,hqf⟩:∃q,sF (L x) t=q:=⟨_,rfl⟩;obtain⟨qt,hqt⟩:∃q,sT (L x) t=q:=⟨_,rfl⟩;rw [hqf] at s0 HTK;rw [hqt] at s1 HTK;clear hqf hqt;obtain⟨W5,hW5⟩:∃W5,wr.alloc (.cells #[.int .i64 qf,.int .i64 qt] 121)=W5:=⟨_,rfl⟩;have b5:Below wr.heap.size wr W5:=by rw [<- hW5];exact(Below.refl _ _).alloc (Nat.le_refl _) _
     have r0:W5.cell? ⟨wr.heap.size,0,none⟩=some (.int .i64 qf):=by rw [<- hW5];simp
     have r1:W5.cell? ⟨wr.heap.size,1,none⟩=some (.int .i64 qt):=by rw [<- hW5];simp
     have e35:=(b5.cell (p:=⟨w.heap.size+1,0,none⟩) (show w.heap.size+1<wr.heap.size by omega)).trans e3;have HF5:Hid (FR W5 w4.heap.size v2 fl):=by rw [<- hW5];exact World.ownsRow.alloc hfr2.out _
     have HG5:Hid (w4.grownBy W5 (some (w.heap.size+1))):=by rw [<- hW5];exact hid (hgr2.out.andThen (World.grownBy_alloc wr _ none) (fun j hj=>by cases hj))
     have HE25:=hid ((b5.cell (p:=⟨w.heap.size,0,none⟩) (show w.heap.size<wr.heap.size by omega)).trans e2);have HJ25:=hid (((bcell b5).2 w.heap.size 0 (by omega)).trans j2);have HJ35:=hid (((bcell b5).2 (w.heap.size+1) 0 (by omega)).trans j3);have z5:=b5.size;have hv2:Hid (∀g,v2.ownBlock=some g ->w4.heap.size<=g):=hid fun g hg=>(World.ownsRow.lt hfr2.out g hg).1;clear b5 hfr2 hgr2 e2 j2 j3;go_wp2_with (at_builtin;(try rw [hW5]);refine wpList_app_at rfl _ _ 24 rfl w4.heap.size 87 i0 _ 3 24 Tryz.underlying24 hi hz0 hz1 hz2 rfl (by decide) _ _ _ rfl (World.ownsRow.alloc HF5.out _) ⟨W5.heap.size,0,none⟩ 1 1 [.int .i64 x,.int .i64 qf,.int .i64 qt] rfl rfl ?c1 ?c2 ?c3 ?c4 ?c5 ?_);case c1=>exact cell_three_new _ _ _ _ _
     case c2=>intro u hu;simp at hu;rcases hu with rfl|rfl|rfl<;>rfl
     case c3=>unfold maxLen;omega
     case c4=>omega
     case c5=>simp;omega
     intro v7 w7 hown7 hgr7 hloc7;obtain⟨y7,n7,c7,rfl⟩:=row_form hown7;obtain⟨v7,hv7⟩:∃v7,v7=Value.slice y7 n7 c7:=⟨_,rfl⟩;rw [<- hv7] at hown7 hloc7;have hbn:some (w.heap.size+1)≠v2.ownBlock:=fun e=>by have:=hv2.out _ e.symm;omega
     have hbn2:some w.heap.size≠v2.ownBlock:=fun e=>by have:=hv2.out _ e.symm;omega
     have b6:Below W5.heap.size W5 (W5.alloc (.cells #[.int .i64 x,.int .i64 qf,.int .i64 qt] 87)):=(Below.refl _ _).alloc (Nat.le_refl _) _;have e37:=hgr7.cell ((b6.cell (p:=⟨w.heap.size+1,0,none⟩) (show w.heap.size+1<W5.heap.size by omega)).trans e35) hbn;have e27:=hgr7.cell ((b6.cell (p:=⟨w.heap.size,0,none⟩) (show w.heap.size<W5.heap.size by omega)).trans HE25.out) hbn2;have z7:=hgr7.size;have z6:=b6.size;have j37:w7.frozen? ⟨w.heap.size+1,0,none⟩=false:=(World.frozen?_of_block (hgr7.block (w.heap.size+1) (by omega) hbn)).trans (((bcell b6).2 (w.heap.size+1) 0 (by omega)).trans HJ35.out);have j27:w7.frozen? ⟨w.heap.size,0,none⟩=false:=(World.frozen?_of_block (hgr7.block w.heap.size (by omega) hbn2)).trans (((bcell b6).2 w.heap.size 0 (by omega)).trans HJ25.out);have HF7:Hid (FR w7 w4.heap.size v7 (outK L ks k++(tag x (L x)).take (t+1))):=by
      rw [HTK.out,<- List.append_assoc,HFL.out];unfold FR;rw [fCells_snoc,List.length_append];exact hid hown7
     have HG7:Hid (w4.grownBy w7 (some (w.heap.size+1))):=hid ((HG5.out.andThen (World.grownBy_alloc W5 _ none) (fun j hj=>by cases hj)).andThen hgr7 (fun j hj=> .inl (hv2.out j hj)));have HF8:Hid (FR (w7.setCell ⟨w.heap.size+1,0,none⟩ v7) w4.heap.size v7 (outK L ks k++(tag x (L x)).take (t+1))):=by
      refine hid ?_;refine World.ownsRow.kept HF7.out (grownSet w7 ⟨w.heap.size+1,0,none⟩ v7) ?_;cases e:v7.ownBlock with
      | none=>exact .inl rfl
      | some g=>exact .inr (fun e2=>by have:=(World.ownsRow.lt HF7.out g e).1;injection e2 with e2;have e2:g=w.heap.size+1:=e2;omega)
     have HG8:Hid (w4.grownBy (w7.setCell ⟨w.heap.size+1,0,none⟩ v7) (some (w.heap.size+1))):=hid (HG7.out.andThen (grownSet w7 ⟨w.heap.size+1,0,none⟩ v7) (fun j hj=> .inr hj));have k38:=World.cell?_setCell_same w7 ⟨w.heap.size+1,0,none⟩ v7 e37;have k28:(w7.setCell ⟨w.heap.size+1,0,none⟩ v7).cell? ⟨w.heap.size,0,none⟩=some (.slice none 0 0):=(World.cell?_setCell_far w7 ⟨w.heap.size+1,0,none⟩ ⟨w.heap.size,0,none⟩ v7 (by show w.heap.size+1≠w.heap.size;omega)).trans e27;have HK:=hid (And.intro k38 k28);subst hv7;clear hown7 hgr7 hloc7 e35 r0 r1 s0 s1 b6 e3 hW5 k38 k28 e27 HF7 HG7;go_wp2_with fail;go_roundw;case rel=>exact⟨t+1,_,htl,by go_num,HK.out.1,HK.out.2,by simpa using j27,by simpa using j37,HF8,HG8⟩
     case measure=>simp [intOf];omega
    ·obtain rfl:t=m:=by omega
     have HF2:Hid (FR wr w4.heap.size v2 (outK L ks (k+1))):=by
      rw [HOK1.out];have h1:=hfr2.out;rw [<- HFL.out,List.take_of_length_le (by simp only [tag,List.length_map];have:=HM.out;omega)] at h1;exact hid h1
     clear hfr2;go_wp2_with fail;go_roundw;case rel=>exact⟨k+1,v2,hlt,by go_num,e3,e2,j2,j3,HF2,hgr2⟩
     case measure=>simp [intOf];omega
  ·obtain rfl:k=ks.length:=by omega
   obtain⟨yv,nv,cv,rfl⟩:=row_form hfr.out;have HF:Hid (FR (wr.setCell ⟨w.heap.size,0,none⟩ (.slice yv nv cv)) w.heap.size (.slice yv nv cv) (outF L 8)):=by
    rw [HOF.out];have h1:=hfr.out;have h2:FR wr w.heap.size (.slice yv nv cv) (outK L ks ks.length):=by
     obtain⟨q1,q2⟩:=h1;refine⟨q1,q2.imp id ?_⟩;rintro⟨g,cap,cur,e,hg,r⟩;exact⟨g,cap,cur,e,by omega,r⟩
    refine hid (World.ownsRow.kept h2 (grownSet wr ⟨w.heap.size,0,none⟩ (.slice yv nv cv)) ?_);cases e:(Value.slice yv nv cv).ownBlock with
    | none=>exact .inl rfl
    | some g=>exact .inr (fun e2=>by have:=(World.ownsRow.lt h1 g e).1;injection e2 with e2;have e2:g=w.heap.size:=e2;omega)
   have HB:Hid (Below w.heap.size w (wr.setCell ⟨w.heap.size,0,none⟩ (.slice yv nv cv))):=hid ((HB4.out.grown hgr.out (by omega) (fun k hk=>by injection hk with hk;omega)).setCell (p:=⟨w.heap.size,0,none⟩) (Nat.le_refl _) (.slice yv nv cv));have k2:=World.cell?_setCell_same wr ⟨w.heap.size,0,none⟩ (.slice yv nv cv) e2;clear hfr;go_wp2_with fail;refine bodyPost_ret (v:=.agg #[.slice yv nv cv]) (by simp [results,Tryz.results45,go_sem,k2]) rfl ⟨_,rfl,HF.out,HB.out⟩
end Go.Proofs.YtpfmeafmepgimaaGreat
namespace Go.Proofs.YtpfmeafmepgimaaGreat
open Go.ChangeShapes Go.WideShapes Go.ChangeAt Go.RowKit
def mk3 (k0 c:Nat)(i:Nat):Int:=((k0+3*i+c:Nat):Int)
end Go.Proofs.YtpfmeafmepgimaaGreat
