import Derived.Test.YtpfmeafmepgimaaGreatFkg07
import Derived.Test.YtpfmeafmepgimaaGreatFkg09
import Derived.Test.YtpfmeafmepgimaaGreatFkg10
import Derived.Test.YtpfmeafmepgimaaGreatFkg32
import Derived.Test.YtpfmeafmepgimaaGreatFkg27
set_option linter.unusedVariables false
set_option linter.unusedSimpArgs false
set_option maxRecDepth 100000
set_option maxHeartbeats 40000000
namespace Go.Proofs.YtpfmeafmepgimaaGreat
open Go.ChangeShapes Go.WideShapes Go.ChangeAt Go.RowKit Go.Maps Go.Sort
theorem wp_appB {w:World}{o:Oper}{a:Act}{K:Act ->World ->Prop}{Q:Exit ->Act ->World ->Prop}(s x:Operand)
  (ho:o.op=.call {callee:=.builtin .append,args:=#[s,x],argTypes:=#[22,22]})
  (B B':Nat) (b v:Value) (zs ys:List Int) (hs:a.eval s=b) (hown:Own w B b zs) (hx:a.eval x=v) (hv:Own w B' v ys) (hvn:v.ownBlock≠none) (hbn:b.ownBlock≠none) (hl:zs.length+ys.length<=1000000000) (hB:B<=w.heap.size)
  (h:∀v' w',Own w' B v' (zs++ys) ->Gr w w' b v' ->v'.ownBlock≠none ->K (a.put o.dst v') w'):o.wp Tryz.prog a w K Q:=by
 obtain⟨i0,hi,hz0,hz1,hz2⟩:=info_parts Tryz.infoByte;have hv':=hv;obtain⟨hv1,hv2⟩:=hv;rcases hv2 with ⟨rfl,_⟩|⟨g,cap,cur,rfl,hbg,hg,hn,hm,r⟩
 ·exact absurd rfl hvn
 refine wp_app_at s x 22 ho B 5 i0 (.int .u8 0) 1 1 Tryz.underlying22 hi hz0 hz1 hz2 rfl (by decide) b zs.length _ hs hown ⟨g,0,none⟩ ys.length cap (ys.map (Value.int .u8)) hx (by simp) (World.ownsRow.cells hv' rfl) (ints_oneCell .u8 _) (by unfold maxLen;omega) (by omega) hB ?_;intro v' w' h1 h2 h3;refine h v' w' ?_ (Gr.app h2 h3) ?_
 ·unfold Own;rw [List.length_append,List.map_append];exact h1
 ·rcases h3 with h3|h3
  ·rw [h3];exact hbn
  ·rw [h3];simp
theorem wpList_appB {w:World}{ops:Array Oper}{rest:List Oper}{o:Oper}{a:Act}{Q:Exit ->Act ->World ->Prop}(hgd:o.guard=none)(s x:Operand)
  (ho:o.op=.call {callee:=.builtin .append,args:=#[s,x],argTypes:=#[22,22]})
  (B B':Nat) (b v:Value) (zs ys:List Int) (hs:a.eval s=b) (hown:Own w B b zs) (hx:a.eval x=v) (hv:Own w B' v ys) (hvn:v.ownBlock≠none) (hbn:b.ownBlock≠none) (hl:zs.length+ys.length<=1000000000) (hB:B<=w.heap.size)
  (h:∀v' w',Own w' B v' (zs++ys) ->Gr w w' b v' ->v'.ownBlock≠none ->wpList Tryz.prog ops Q rest (a.put o.dst v') w'):wpList Tryz.prog ops Q (o::rest) a w:=
 wpList_plain hgd fun _ hK=>wp_appB s x ho B B' b v zs ys hs hown hx hv hvn hbn hl hB fun v' w' h2 h3 h4=>hK _ _ (h v' w' h2 h3 h4)
theorem Own.some {w:World}{B:Nat}{v:Value}{zs:List Int}(h:Own w B v zs)(hz:0<zs.length):v.ownBlock≠none:=by
 obtain⟨h1,h2⟩:=h;rcases h2 with ⟨_,h2⟩|⟨g,cap,cur,rfl,_⟩
 ·omega
 ·simp [Value.ownBlock]
def bodyF (L:Int ->List (Int×Int))(k:Nat):List Int:=(KS L k).flatMap (repB L)
theorem putK_flat (L:Int ->List (Int×Int))(ks:List Int):∀k,k<=ks.length ->putK L ks k=(ks.take k).flatMap (repB L)
 | 0,_=>by simp [putK]
 | k+1,h=>by
  have e:ks.take (k+1)=ks.take k++[ks.getD k 0]:=by
   rw [List.take_add_one];simp [List.getD,show k<ks.length by omega]
  rw [e,List.flatMap_append,<- putK_flat L ks k (by omega)];simp [putK]
theorem putB_eq (L:Int ->List (Int×Int)):putB L=uvF 9 (KS L 8).length++bodyF L 8:=by
 unfold putB bodyF;rw [putK_flat L _ _ (Nat.le_refl _),List.take_length]
theorem KS_yes {L:Int ->List (Int×Int)}{k:Nat}(h:L (k:Int)≠[]):KS L (k+1)=KS L k++[(k:Int)]:=by
 have:(L (k:Int)).isEmpty=false:=by cases e:L (k:Int) with|nil=>exact absurd e h|cons _ _=>rfl
 simp [KS,this]
theorem KS_no {L:Int ->List (Int×Int)}{k:Nat}(h:L (k:Int)=[]):KS L (k+1)=KS L k:=by simp [KS,h]
theorem bodyF_yes {L:Int ->List (Int×Int)}{k:Nat}(h:L (k:Int)≠[]):bodyF L (k+1)=bodyF L k++(uvF 9 k++(uvF 9 (L (k:Int)).length++spK (L (k:Int)) (L (k:Int)).length)):=by
 unfold bodyF;rw [KS_yes h,List.flatMap_append];simp [repB,grpB]
theorem bodyF_no {L:Int ->List (Int×Int)}{k:Nat}(h:L (k:Int)=[]):bodyF L (k+1)=bodyF L k:=by
 unfold bodyF;rw [KS_no h]
theorem bodyF_len {L:Int ->List (Int×Int)}(hL:∀r,(L r).length<=1000):∀k,(bodyF L k).length<=30000*k
 | 0=>by simp [bodyF,KS]
 | k+1=>by
  have:=bodyF_len hL k;by_cases h:L (k:Int)=[]
  ·rw [bodyF_no h];omega
  ·have h1:=(uvF_len 9 k).1;have h2:=(uvF_len 9 (L (k:Int)).length).1;have h3:=spK_len (L (k:Int)) (L (k:Int)).length;have h4:=hL (k:Int);rw [bodyF_yes h];simp only [List.length_append];omega
def lastK (l:List (Int×Int))(j:Nat):Int:=loK l j - 2
theorem run_at {w:World}{B n cap g:Nat}{r:Int}{l:List (Int×Int)}(h:w.ownsRow B 87 3 (.slice (some ⟨g,0,none⟩) n cap) n (runCells r l))(hl:l.length=n):
  ∀i,i<n ->w.cell? ⟨g,i*3+1,none⟩=some (.int .i64 (sF l i))/\ w.cell? ⟨g,i*3+2,none⟩=some (.int .i64 (sT l i)):=by
 intro i hi;have key:∀(l:List (Int×Int)) (i:Nat),i<l.length ->(runCells r l)[i*3+1]? =some (.int .i64 (l.getD i (0,0)).1)/\ (runCells r l)[i*3+2]? =some (.int .i64 (l.getD i (0,0)).2):=by
  intro l;induction l with
  | nil=>intro i hi;simp at hi
  | cons a l ih=>
   intro i hi;cases i with
   | zero=>simp [runCells]
   | succ i=>
    have:=ih i (by simpa using hi);have e:runCells r (a::l)=.int .i64 r::.int .i64 a.1::.int .i64 a.2::runCells r l:=by simp [runCells]
    rw [e,show (i+1)*3+1=i*3+1+1+1+1 from by omega,show (i+1)*3+2=i*3+2+1+1+1 from by omega];simpa using this
 rw [h.cellAt _ (by omega),h.cellAt _ (by omega)];exact key l i (by omega)
theorem specPut (a:Option Addr)(n c:Nat)(R F T:Nat ->Int)(w:World)(hn:n<=1048576)(h:RSeg w a n R F T)(hok:ctxB R F T n=true):
  Calls Tryz.prog 94 #[.agg #[.slice a n c]] w fun e w'=>∃v,e=.returned (.tuple #[v,.bool true])/\ Own w' w.heap.size v (putB (Lk R F T n))/\ Below w.heap.size w w':=by
 have hokT:=ctxB_iff.1 hok;have hn1:=hokT.2;have B0:Below w.heap.size w (w.alloc (.cells #[.slice a n c] 26)):=(Below.refl _ _).alloc (Nat.le_refl _) _;obtain⟨L,hLL⟩:∃L,Lk R F T n=L:=⟨_,rfl⟩;have HLen:Hid (∀r,(L r).length<=1000):=fun r=>by rw [<- hLL];exact Nat.le_trans (Lk_len R F T n r) hn1
 have HSrt:Hid (∀r,Srt (L r)):=fun r=>by rw [<- hLL];exact(Lk_srt n hokT.1 r).1
 have HOF:Hid (∀(rep:Int) (w:World),RSeg w a n R F T ->Calls Tryz.prog 116 #[.agg #[.slice a n c],.int .i64 rep] w fun e w'=>∃v,e=.returned v/\ w'.ownsRow w.heap.size 87 3 v (L rep).length (runCells rep (L rep))/\ Below w.heap.size w w'):=fun rep w h=>by rw [<- hLL];exact specOf a n c R F T rep w hn h
 rw [hLL];clear hokT hLL;go_enter Tryz.func94,Tryz.ntmps94;go_wp2_with fail;refine(specOk a n c R F T _ hn (h.below B0)).mono ?_;rintro e w1 ⟨rfl,b1⟩;rw [hok];have hbox:w1.cell? ⟨w.heap.size,0,none⟩=some (.slice a n c):=by rw [(bcell b1).1 _ _ (by simp)];simp
 have z1:w.heap.size+1<=w1.heap.size:=by have:=b1.size;simp at this;omega
 have HB1:=hid (keepS B0 b1);have HW:=hid h;clear b1 B0 hok h;go_wp2_with fail;go_loopw [4,5,6] (fun cv b' i wr=>∃(k:Nat) (zs:List Int),k<=8/\ i=.int .i64 k/\ cv=.int .i64 ((KS L k).length:Nat)/\ Hid (Own wr (w.heap.size+1) b' zs)/\ Hid (zs=bodyF L k)/\ Hid (Below w.heap.size w wr)/\ Hid (b'.ownBlock≠none)/\ wr.cell? ⟨w.heap.size,0,none⟩=some (.slice a n c)/\ w.heap.size+1<=wr.heap.size) (fun _ _ i _=>8 - (intOf i).toNat);case atStart=>
  refine⟨0,[],by omega,rfl,rfl,?_,hid rfl,hid (HB1.out.alloc (by omega) _),hid (by simp [Value.ownBlock]),?_,by simp;omega⟩
  ·have:=World.ownsRow_lit (base:=w.heap.size+1) (e:=5) (size:=1) w1 #[] 0 (by omega) (by unfold maxLen;omega) rfl;exact hid (by simpa [Own] using this)
  ·rw [Below.cell (B:=w1.heap.size) ((Below.refl _ _).alloc (Nat.le_refl _) _) (show w.heap.size<w1.heap.size by omega)];exact hbox
 case round=>
  obtain⟨k,zs,hk,rfl,rfl,hown,hzs,hbel,hsome,hbx,hsz⟩:=hrel;by_cases hlt:k<8
  ·have hkl:=KS_len L k;have hseg:=HW.out.below hbel.out;have HSG:=hid hseg;clear hseg;go_wp2_with fail;refine(HOF.out (k:Int) wr HSG.out).mono ?_;rintro e w2 ⟨v2,rfl,hr2,hb2⟩;obtain⟨l,hl⟩:∃l,L (k:Int)=l:=⟨_,rfl⟩;have hll:l.length<=1000:=by rw [<- hl];exact HLen.out _
   have HAT:Hid (∀j,j<l.length ->1<=loK l j/\ loK l j<=sF l j/\ sF l j<=sT l j/\ sT l j<=1000000000):=fun j hj=>srt_at (by rw [<- hl];exact HSrt.out _) hj;have HO2:Hid (Own w2 (w.heap.size+1) u5 zs):=hown.out.kept hb2 (fun k hk=>(World.ownsRow.lt hown.out k hk).2);have HB2:Hid (Below w.heap.size w w2):=hbel.out.trans (hb2.mono (by omega));have hbx2:w2.cell? ⟨w.heap.size,0,none⟩=some (.slice a n c):=by rw [Below.cell hb2 (show w.heap.size<wr.heap.size by omega)];exact hbx
   have z2:=hb2.size;have hzl:zs.length<=30000*k:=by rw [hzs.out];exact bodyF_len HLen.out k
   have HU5:Hid (∀g,u5.ownBlock=some g ->g<wr.heap.size):=fun g hg=>(World.ownsRow.lt hown.out g hg).2;rw [hl] at hr2;clear hb2 hown hbel HSG;by_cases hnil:l=[]
   ·subst hnil;have HKS:=hid (KS_no hl);have HBF:=hid (bodyF_no hl);clear hl;rcases hr2.2 with ⟨rfl,_⟩|⟨g,cap,cur,rfl,_⟩
    ·clear hr2;go_wp2_with fail;go_roundw;case rel=>exact⟨k+1,zs,hlt,by go_num,by rw [HKS.out],HO2,hid (by rw [HBF.out,hzs.out]),HB2,hsome,hbx2,by omega⟩
     case measure=>simp [intOf];omega
    ·clear hr2;go_wp2_with fail;go_roundw;case rel=>exact⟨k+1,zs,hlt,by go_num,by rw [HKS.out],HO2,hid (by rw [HBF.out,hzs.out]),HB2,hsome,hbx2,by omega⟩
     case measure=>simp [intOf];omega
   ·have hl0:0<l.length:=List.length_pos_iff.2 hnil;have HKS:=hid (KS_yes (L:=L) (k:=k) (by rw [hl];exact hnil));have hbf:=bodyF_yes (L:=L) (k:=k) (by rw [hl];exact hnil);rw [hl] at hbf;have HBF:=hid hbf;rcases hr2.2 with ⟨_,e0⟩|⟨g,cap,cur,rfl,hbg,_,hnc,hcm,_,_⟩
    ·omega
    have HC:=hid (run_at hr2 rfl);have hgz:g<w2.heap.size:=(hr2.lt g rfl).2;unfold maxLen at hcm;have hgu:some g≠u5.ownBlock:=fun e=>by have:=HU5.out g e.symm;omega
    have hwu:some w.heap.size≠u5.ownBlock:=fun e=>by have:=(World.ownsRow.lt HO2.out _ e.symm).1;omega
    have l3:=uvF_len 9 k;have l4:=uvF_len 9 l.length;have e00:((l.length:Int)==0)=false:=by simp;omega
    clear hr2 hl hbf hnil;go_wp2_with fail;refine(specPut1 k w2 (by omega)).mono ?_;rintro e w3 ⟨v3,rfl,ho3,hb3,hz3⟩;have HO3:=hid (HO2.out.kept hb3 (fun k hk=>(World.ownsRow.lt HO2.out k hk).2));have HV3:=hid ho3;have HN3:=hid (ho3.some (by omega));have HG3:Hid (Gr w2 w3 u5 u5):=Gr.of_below hb3;clear ho3 hb3;go_wp2_with (at_builtin;refine wpList_appB rfl _ _ rfl (w.heap.size+1) w2.heap.size u5 v3 zs (uvF 9 k) rfl HO3.out rfl HV3.out HN3.out hsome.out ?c1 ?c2 ?_);case c1=>omega
    case c2=>omega
    intro v4 w4 ho4 hg4 hn4;have HG4:=hid (HG3.out.trans hg4);have HO4:=hid ho4;have HN4:=hid hn4;have z4:=hg4.g.size;clear ho4 hg4 hn4 HO3 HV3 HN3 HG3;go_wp2_with fail;refine(specPut1 l.length w4 (by omega)).mono ?_;rintro e w5 ⟨v5,rfl,ho5,hb5,hz5⟩;have HO5:=hid (HO4.out.kept hb5 (fun k hk=>(World.ownsRow.lt HO4.out k hk).2));have HV5:=hid ho5;have HN5:=hid (ho5.some (by omega));have HG5:Hid (Gr w4 w5 v4 v4):=Gr.of_below hb5;clear ho5 hb5;go_wp2_with (at_builtin;refine wpList_appB rfl _ _ rfl (w.heap.size+1) w4.heap.size v4 v5 (zs++uvF 9 k) (uvF 9 l.length) rfl HO5.out rfl HV5.out HN5.out HN4.out ?d1 ?d2 ?_);case d1=>simp;omega
    case d2=>omega
    intro v6 w6 ho6 hg6 hn6;have HG6:=hid (HG4.out.trans (HG5.out.trans hg6));have HO6:=hid ho6;have HN6:=hid hn6;have z6:=hg6.g.size;clear ho6 hg6 hn6 HO5 HV5 HN5 HG5 HO4 HG4 HN4;go_wp2_with fail;go_loopw [5,8,9] (fun b' la i wr'=>∃(j:Nat) (zs':List Int),j<=l.length/\ i=.int .i64 j/\ la=.int .i64 (lastK l j)/\ Hid (Own wr' (w.heap.size+1) b' zs')/\ Hid (zs'=zs++uvF 9 k++uvF 9 l.length++spK l j)/\ Hid (Gr w2 wr' u5 b')/\ Hid (b'.ownBlock≠none)/\ w2.heap.size<=wr'.heap.size) (fun _ _ i _=>l.length - (intOf i).toNat);case atStart=>exact⟨0,_,Nat.zero_le _,rfl,rfl,HO6,hid (by simp [spK]),HG6,HN6,by omega⟩
    case round=>
     obtain⟨j,zs',hj,rfl,rfl,hownj,hzsj,hgrj,hsomej,hszj⟩:=hrel;have hzlj:zs'.length<=240000+20+20*j:=by
      rw [hzsj.out];have:=spK_len l j;simp only [List.length_append];omega
     by_cases hlj:j<l.length
     ·obtain⟨q1,q2,q3,q4⟩:=HAT.out j hlj;have hcF:=hgrj.out.g.cell (HC.out j hlj).1 hgu;have hcT:=hgrj.out.g.cell (HC.out j hlj).2 hgu;have hlk:lastK l j=loK l j - 2:=rfl;obtain⟨s1,es1⟩:∃s1:Int,sF l j - lastK l j=s1:=⟨_,rfl⟩;obtain⟨m1,em1⟩:∃m:Nat,sF l j - loK l j=(m:Int):=⟨(sF l j - loK l j).toNat,by omega⟩;obtain⟨m2,em2⟩:∃m:Nat,sT l j - sF l j=(m:Int):=⟨(sT l j - sF l j).toNat,by omega⟩;have x1:IntKind.i64.wrap (sF l j - lastK l j)=s1:=by rw [es1];exact wrapIn _ (by omega) (by omega)
      have x2:IntKind.i64.wrap (s1 - 2)=(m1:Int):=by rw [show s1 - 2=(m1:Int) by omega];exact wrapIn _ (by omega) (by omega)
      have x3:IntKind.i64.wrap (sT l j - sF l j)=(m2:Int):=by rw [em2];exact wrapIn _ (by omega) (by omega)
      have HSP:Hid (spK l (j+1)=spK l j++(uvF 9 m1++uvF 9 m2)):=by show spK l j++_=_;rw [em1,em2];rfl
      have HLA:Hid (sT l j=lastK l (j+1)):=by show sT l j=loK l (j+1) - 2;show sT l j=sT l j+2 - 2;omega
      have y1:m1<=1000000000:=by omega
      have y2:m2<=1000000000:=by omega
      have y3:=uvF_len 9 m1;have y4:=uvF_len 9 m2;have hne5:some g≠u5.ownBlock:=fun e=>by
       rcases hgrj.out.l with h|⟨i,h,hi⟩
       ·exact hgu (e.trans h)
       ·rw [h] at e;injection e with e;omega
      clear em1 em2 es1 hlk;go_wp2_with fail;refine(specPut1 m1 wr (by omega)).mono ?_;rintro e w7 ⟨v7,rfl,ho7,hb7,hz7⟩;have HO7:=hid (hownj.out.kept hb7 (fun k hk=>(World.ownsRow.lt hownj.out k hk).2));have HV7:=hid ho7;have HN7:=hid (ho7.some (by omega));have HG7:Hid (Gr wr w7 u5 u5):=Gr.of_below hb7;clear ho7 hb7;go_wp2_with (at_builtin;refine wpList_appB rfl _ _ rfl (w.heap.size+1) wr.heap.size u5 v7 zs' (uvF 9 m1) rfl HO7.out rfl HV7.out HN7.out hsomej.out ?f1 ?f2 ?_);case f1=>omega
      case f2=>omega
      intro v8 w8 ho8 hg8 hn8;have hgs8:=HG7.out.trans hg8;have hcF8:=hgs8.g.cell hcF hne5;have hcT8:=hgs8.g.cell hcT hne5;have hne8:some g≠v8.ownBlock:=fun e=>by
       rcases hgs8.l with h|⟨i,h,hi⟩
       ·exact hne5 (e.trans h)
       ·rw [h] at e;injection e with e;omega
      have HG8:=hid (hgrj.out.trans hgs8);have HO8:=hid ho8;have HN8:=hid hn8;have z8:=hg8.g.size;clear ho8 hg8 hn8 HO7 HV7 HN7 HG7 hgs8 hcF hcT x1 x2;go_wp2_with fail;refine wp_region_held_drew (S:=fun w'=>w'.cell? ⟨g,j*3+1,none⟩=some (.int .i64 (sF l j))/\ w'.cell? ⟨g,j*3+2,none⟩=some (.int .i64 (sT l j))) (by kernel_rfl) ⟨hcF8,hcT8⟩ (fun hHeld=> ?_);refine tZ 0 53 ?_;refine tZ 1 54 ?_;refine tZ 2 55 ?_;refine tZ 3 56 ?_;refine tZ 4 57 ?_;refine tZ 5 58 ?_;refine tZ 6 59 ?_;refine tZ 7 60 ?_;refine tZ 8 61 ?_;refine tZ 9 62 ?_;refine tZ 10 63 ?_;refine tZ 11 64 ?_;refine cZ 12 ?_;intro K hK;go_simp;refine(specPut1 m2 _ (by omega)).mono ?_;rintro e w9 ⟨v9,rfl,ho9,hb9,hz9⟩;have hb9':Below w8.heap.size w8 w9:=(Below.refl _ w8).drew.trans hb9;have HO9:=hid (HO8.out.kept hb9' (fun k hk=>(World.ownsRow.lt HO8.out k hk).2));have HV9:=hid ho9;have HN9:=hid (ho9.some (by omega));have HG9:Hid (Gr w8 w9 v8 v8):=Gr.of_below hb9';have hcF9:=HG9.out.g.cell hcF8 hne8;have hcT9:=HG9.out.g.cell hcT8 hne8;have z9:=hb9'.size;clear ho9 hb9 hb9';refine hK.out _ _ ⟨hcF9,hcT9⟩ (fun hHeld=> ?_);clear hK K;try simp only [Act.put,sZa,sZb,sZc]
      refine cZ 13 ?_;intro K hK;rw [if_pos (by rfl)];refine wp_appB _ _ (by rfl) (w.heap.size+1) w8.heap.size v8 v9 (zs'++uvF 9 m1) (uvF 9 m2) (by rfl) HO9.out (by rfl) HV9.out HN9.out HN8.out (by simp;omega) (by omega) ?_;intro v10 w10 ho10 hg10 hn10;have hcF10:=hg10.g.cell hcF9 hne8;have hcT10:=hg10.g.cell hcT9 hne8;have HG10:=hid (HG8.out.trans (HG9.out.trans hg10));have HO10:=hid ho10;have HN10:=hid hn10;have z10:=hg10.g.size;clear ho10 hg10 hn10;refine hK.out _ _ ⟨hcF10,hcT10⟩ (fun hHeld=> ?_);clear hK K;try simp only [Act.put,sZa,sZb,sZc]
      refine tZ 14 5 ?_;refine wpAnyH_done (by kernel_rfl) ?_ _;clear hHeld hcF8 hcT8 hcF9 hcT9 HO9 HV9 HN9 HG9 HO8 HN8 HG8;go_wp2_with fail;go_roundw;case rel=>exact⟨j+1,_,hlj,by go_num,by rw [HLA.out],HO10,hid (by rw [HSP.out,hzsj.out];simp),HG10,HN10,by omega⟩
      case measure=>simp [intOf];omega
     ·obtain rfl:j=l.length:=by omega
      go_wp2_with fail;go_roundw;case rel=>
       refine⟨k+1,zs',hlt,by go_num,?_,hownj,hid ?_,hid ?_,hsomej,hgrj.out.g.cell hbx2 hwu,by omega⟩
       ·rw [HKS.out];simp
       ·rw [HBF.out,hzsj.out,hzs.out];simp
       ·exact HB2.out.trans (hgrj.out.below (by omega) (fun g hg=>by have:=(World.ownsRow.lt HO2.out g hg).1;omega))
      case measure=>simp [intOf];omega
  ·obtain rfl:k=8:=by omega
   have hzl:zs.length<=30000*8:=by rw [hzs.out];exact bodyF_len HLen.out 8
   have hkl:=KS_len L 8;have l3:=uvF_len 9 (KS L 8).length;have HPB:=hid (putB_eq L);go_wp2_with fail;refine(specPut1 (KS L 8).length wr (by omega)).mono ?_;rintro e w3 ⟨v3,rfl,ho3,hb3,hz3⟩;have HO3:=hid (hown.out.kept hb3 (fun k hk=>(World.ownsRow.lt hown.out k hk).2));have HV3:=hid ho3;have HN3:=hid (ho3.some (by omega));have HB3:=hid (hbel.out.trans (hb3.mono (by omega)));have hlow:Hid (∀g,v3.ownBlock=some g ->wr.heap.size<=g):=fun g hg=>(World.ownsRow.lt ho3 g hg).1;clear ho3 hb3;go_wp2_with (at_builtin;refine wpList_appB rfl _ _ rfl wr.heap.size (w.heap.size+1) v3 u5 (uvF 9 (KS L 8).length) zs rfl HV3.out rfl HO3.out hsome.out HN3.out ?g1 ?g2 ?_);case g1=>omega
   case g2=>omega
   intro v4 w4 ho4 hg4 hn4;have HG4:=hid hg4;have HO4:=hid ho4;clear ho4 hg4 hn4 HO3 HV3;go_wp2_with fail;go_ret2;refine⟨v4,rfl,?_,HB3.out.trans (HG4.out.below (by omega) (fun g hg=>by have:=hlow.out g hg;omega))⟩;rw [HPB.out,<- hzs.out];exact HO4.out.weak (by omega)
def putZ (R F T:Nat ->Int)(n:Nat):List Int:=if ctxB R F T n then putB (Lk R F T n) else []
theorem putZ_len (R F T:Nat ->Int)(n:Nat):(putZ R F T n).length<=1000000:=by
 unfold putZ;split
 ·rename_i h;have hok:=ctxB_iff.1 h;rw [putB_eq];have h1:=(uvF_len 9 (KS (Lk R F T n) 8).length).1;have h2:=bodyF_len (L:=Lk R F T n) (fun r=>Nat.le_trans (Lk_len R F T n r) hok.2) 8;simp only [List.length_append];omega
 ·simp
theorem Own.any {w:World}{B:Nat}{v:Value}{zs:List Int}(h:Own w B v zs):∃a cap,v=.slice a zs.length cap/\ Seg w a zs.length (fun i=>zs.getD i 0):=by
 by_cases hz:zs=[]
 ·subst hz;obtain⟨_,h2⟩:=h;rcases h2 with ⟨rfl,_⟩|⟨g,cap,cur,rfl,_⟩
  ·exact⟨none,0,rfl,.inl rfl⟩
  ·exact⟨_,cap,rfl,.inl rfl⟩
 ·obtain⟨g,cap,rfl,_,_,_,_,_,s⟩:=h.shape hz;exact⟨_,cap,rfl,s⟩
end Go.Proofs.YtpfmeafmepgimaaGreat
namespace Go.Proofs.YtpfmeafmepgimaaGreat
open Go.ChangeShapes Go.WideShapes Go.ChangeAt Go.RowKit
theorem has_at (R F T:Nat ->Int)(r f t:Int):∀n,hasK R F T r f t n=true ->∃k,k<n/\ R k=r/\ F k<=f/\ t<=T k
 | 0,h=>by simp [hasK] at h
 | n+1,h=>by
  simp only [hasK,Bool.or_eq_true,decide_eq_true_eq] at h;rcases h with h|h
  ·obtain⟨k,hk,r⟩:=has_at R F T r f t n h;exact⟨k,by omega,r⟩
  ·exact⟨n,by omega,h⟩
theorem StOk.lvB {R F T:Nat ->Int}{n:Nat}{l:List Lf}(h:StOk R F T n l):LvB l:=by
 obtain⟨h1,h2,h3,h4⟩:=h;have hok:=(ctxB_iff.1 h1).1;have key:∀i,i<l.length ->(0<=(gL l i).r/\ (gL l i).r<8)/\ (0<=(gL l i).q/\ (gL l i).q<=1000000000):=fun i hi=>by
  obtain⟨k,hk,e1,e2,e3⟩:=has_at R F T _ _ _ n (h3 i hi).2.1;have:=(hok k hk).1;simp only [runOkB,Bool.and_eq_true,decide_eq_true_eq] at this;omega
 exact⟨fun i hi=>(key i hi).1,fun i hi=>(key i hi).2,fun i hi=>(h3 i hi).1.2.1,h2,h4⟩
noncomputable def psB (R F T:Nat ->Int)(n:Nat)(l:List Lf):List Int:=putB (Lk R F T n)++tB l 8 []
noncomputable def psZ (R F T:Nat ->Int)(n:Nat)(l:List Lf):List Int×Int:=
 if yes (StOk R F T n l)=true then(if (psB R F T n l).length<=4000 then(psB R F T n l,0) else([],2)) else([],1)
theorem psZ_no {R F T:Nat ->Int}{n:Nat}{l:List Lf}(h:¬StOk R F T n l):psZ R F T n l=([],1):=by unfold psZ;rw [if_neg (by rw [yes_f h];simp)]
theorem psZ_long {R F T:Nat ->Int}{n:Nat}{l:List Lf}(h:StOk R F T n l)(h2:¬(psB R F T n l).length<=4000):psZ R F T n l=([],2):=by unfold psZ;rw [if_pos (yes_t h),if_neg h2]
theorem psZ_yes {R F T:Nat ->Int}{n:Nat}{l:List Lf}(h:StOk R F T n l)(h2:(psB R F T n l).length<=4000):psZ R F T n l=(psB R F T n l,0):=by unfold psZ;rw [if_pos (yes_t h),if_pos h2]
theorem StOk.put_len {R F T:Nat ->Int}{n:Nat}{l:List Lf}(h:StOk R F T n l):(putB (Lk R F T n)).length<=1000000/\ 0<(putB (Lk R F T n)).length:=by
 have:=putZ_len R F T n;unfold putZ at this;rw [if_pos h.1] at this;refine⟨this,?_⟩;rw [putB_eq,List.length_append];have:=(uvF_len 9 (KS (Lk R F T n) 8).length).2;omega
theorem StOk.tree_len {R F T:Nat ->Int}{n:Nat}{l:List Lf}(h:StOk R F T n l):(tB l 8 []).length<=2000000:=by
 have h1:=tB_len h.2.2.1 8 [];have h2:=uK_le l [] l.length;have h3:=h.2.1;have h4:(400+100*8)*uK l [] l.length<=1200*1000:=Nat.mul_le_mul (by omega) (by omega);omega
theorem StOk.iv {R F T:Nat ->Int}{n:Nat}{l:List Lf}(h:StOk R F T n l):Iv l [] 0 (0+l.length):=by
 refine⟨fun j hj=> ?_,by omega,by omega⟩;rw [nx_ne];have:=(h.2.2.1 j hj).1.1.1;exact⟨fun _=>⟨by omega,by omega⟩,fun _=>⟨List.nil_prefix,Nat.lt_of_lt_of_le Nat.zero_lt_one this⟩⟩
theorem LSeg.lat {w:World}{a:Option Addr}{l:List Lf}(h:LSeg w a l)(h0:0<l.length):∃b off,a=some ⟨b,off,none⟩/\ LAt w b off l 0 l.length:=by
 rcases h with h|⟨b,off,e,hb,hc⟩
 ·omega
 ·refine⟨b,off,e,hb,fun t ht=> ?_⟩;rw [Nat.zero_add];exact hc t ht
theorem own_mt (w:World)(B:Nat)(hB:B<=w.heap.size):Own (w.alloc (.cells #[] 5)) B (.slice (some ⟨w.heap.size,0,none⟩) 0 0) []:=by
 have:=World.ownsRow_lit (base:=B) (e:=5) (size:=1) w #[] 0 hB (by unfold maxLen;omega) rfl;simpa [Own] using this
theorem l4BytesC (a:Option Addr)(c:Nat)(l:List Lf)(x:Option Addr)(n d:Nat)(R F T:Nat ->Int)(w:World)(hc:l.length<=c)(hcm:c<=9223372036854775807)(hn:n<=1048576)(h:LSeg w a l)(h':RSeg w x n R F T)(hok:StOk R F T n l):
  Calls Tryz.prog 74 #[.agg #[.slice a l.length c,.slice x n d]] w fun e w'=>∃v,e=.returned v/\ Own w' w.heap.size v (psB R F T n l)/\ Below w.heap.size w w':=by
 obtain⟨W,hW⟩:∃W,w.alloc (.cells #[.slice a l.length c,.slice x n d] 28)=W:=⟨_,rfl⟩;have b0:Below w.heap.size w W:=by rw [<- hW];exact(Below.refl _ _).alloc (Nat.le_refl _) _
 have B0:Bx2 W w.heap.size (.slice a l.length c) (.slice x n d):=by rw [<- hW];exact Bx2.made _ _ _ _
 have k0:=B0.c0;have k1:=B0.c1;have HBX:=hid B0;have HL:=hid (h.below b0);have HP:=hid (specPut x n d R F T W hn (h'.below b0) hok.1);have HB0:=hid b0;have HT:Hid (∀w1,Below W.heap.size W w1 ->Calls Tryz.prog 95 #[.slice a l.length c,.int .i64 0] w1 fun e w'=>∃v,e=.returned v/\ Own w' w1.heap.size v (tB l 8 [])/\ Below w1.heap.size w1 w'):=hid (fun w1 hb1=>by
  have:=l4TreeC l hok.2.2.1 hok.lvB 8 [] rfl (by omega) 0 l.length c a w1 hc hcm hok.iv (fun h0=>(HL.out.below hb1).lat h0) (by have:=hok.tree_len;omega);exact this)
 have HLn:=hid (And.intro hok.put_len hok.tree_len);have HTP:Hid (0<(tB l 8 []).length):=hid (tB_pos l 7 []);have HPS:Hid (putB (Lk R F T n)++tB l 8 []=psB R F T n l):=hid rfl;obtain⟨Z,hZ⟩:∃Z,psB R F T n l=Z:=⟨_,rfl⟩;rw [hZ] at HPS ⊢;clear hZ h h' b0 B0 hok;go_enter Tryz.func74,Tryz.ntmps74;go_wp2_with fail;try rw [hW]
 clear hW;refine HP.out.mono ?_;rintro e w1 ⟨v1,rfl,o1,b1⟩;have X1:=HBX.out.below b1 HBX.out.lt;have q0:=X1.c0;have q1:=X1.c1;have HBd:Hid (Bd w w1 v1 (putB (Lk R F T n))):=hid ⟨keepS HB0.out b1,Own.weak o1 HB0.out.size,own_ne o1 HLn.out.1.2⟩;have HT1:=hid (HT.out w1 b1);clear b1 o1 X1 HP HT HBX k0 k1;go_wp2_with fail;refine HT1.out.mono ?_;rintro e w2 ⟨v2,rfl,o2,b2⟩;obtain⟨v3,w3,happ,bd3⟩:=HBd.out.app b2 o2 HTP.out (by have:=HLn.out;omega);rw [HPS.out] at bd3;have HBd3:=hid bd3;clear bd3 b2 o2 HBd HT1 q0 q1;go_wp2_with (at_builtin;refine wpList_app2 rfl _ _ _ _ rfl happ (by rfl) (by rfl) rfl ?_;clear happ);go_ret;exact⟨v3,rfl,HBd3.out.o,HBd3.out.b⟩
theorem specPutState (a:Option Addr)(c:Nat)(l:List Lf)(x:Option Addr)(n d:Nat)(R F T:Nat ->Int)(w:World)(hc:l.length<=c)(hcm:c<=9223372036854775807)(hl:l.length<=1048576)(hp:LBd l)(hn:n<=1048576)(h:LCap w a l)(h2:LSeg w a l)(h':RSeg w x n R F T):
  Calls Tryz.prog 46 #[.agg #[.slice a l.length c,.slice x n d]] w fun e w'=>∃v zs k,e=.returned (.tuple #[v,.int .i64 k])/\ psZ R F T n l=(zs,k)/\ Own w' w.heap.size v zs/\ Below w.heap.size w w':=by
 obtain⟨W,hW⟩:∃W,w.alloc (.cells #[.slice a l.length c,.slice x n d] 28)=W:=⟨_,rfl⟩;have b0:Below w.heap.size w W:=by rw [<- hW];exact(Below.refl _ _).alloc (Nat.le_refl _) _
 have B0:Bx2 W w.heap.size (.slice a l.length c) (.slice x n d):=by rw [<- hW];exact Bx2.made _ _ _ _
 have k0:=B0.c0;have k1:=B0.c1;have HBX:=hid B0;have HL:=hid (h2.below b0);have HR:=hid (h'.below b0);have HSO:=hid (specStateOk a c l x n d R F T W hl hp hn (h.below b0) (h'.below b0));have HB0:=hid b0;clear h h2 h' b0 B0;by_cases hok:StOk R F T n l
 ·rw [yes_t hok] at HSO;have HBY:Hid (∀w1,Below W.heap.size W w1 ->Calls Tryz.prog 74 #[.agg #[.slice a l.length c,.slice x n d]] w1 fun e w'=>∃v,e=.returned v/\ Own w' w1.heap.size v (psB R F T n l)/\ Below w1.heap.size w1 w'):=hid (fun w1 hb=>l4BytesC a c l x n d R F T w1 hc hcm hn (HL.out.below hb) (HR.out.below hb) hok);have HPY:=hid (fun h=>psZ_yes hok h);have HPL:=hid (fun h=>psZ_long hok h);have HLn:Hid ((psB R F T n l).length<=1000000000):=hid (by have h1:=hok.put_len;have h2:=hok.tree_len;unfold psB;rw [List.length_append];omega);obtain⟨Z,hZ⟩:∃Z,psB R F T n l=Z:=⟨_,rfl⟩;obtain⟨P,hP⟩:∃P,psZ R F T n l=P:=⟨_,rfl⟩;rw [hZ,hP] at HPY HPL;rw [hZ] at HBY HLn;rw [hP];clear hZ hP hok;go_enter Tryz.func46,Tryz.ntmps46;go_wp2_with fail;try rw [hW]
  clear hW;refine HSO.out.mono ?_;rintro e w1 ⟨rfl,b1⟩;have X1:=HBX.out.below b1 HBX.out.lt;have q0:=X1.c0;have q1:=X1.c1;have HB1:=hid (keepS HB0.out b1);have HY1:=hid (HBY.out w1 b1);clear b1 X1 HSO HBX k0 k1 HBY;go_wp2_with fail;refine HY1.out.mono ?_;rintro e w2 ⟨v2,rfl,o2,b2⟩;have HO2:=hid (Own.weak o2 HB1.out.size);have HB2:=hid (keepS HB1.out b2);obtain⟨av,cv,rfl,_⟩:=o2.any;have hzl:=HLn.out;clear b2 o2 HY1 q0 q1;by_cases hz:Z.length<=4000
  ·have HP:=hid (HPY.out hz);have d1:decide ((4000:Int)<(Z.length:Int))=false:=by simp;omega
   have d2:decide (4000<Z.length)=false:=by simp;omega
   go_wp2_with fail;go_ret2;exact⟨_,Z,0,rfl,HP.out,HO2.out,HB2.out⟩
  ·have HP:=hid (HPL.out hz);have d1:decide ((4000:Int)<(Z.length:Int))=true:=by simp;omega
   have d2:decide (4000<Z.length)=true:=by simp;omega
   go_wp2_with fail;go_ret2;exact⟨_,[],2,rfl,HP.out,own_mt _ _ HB2.out.size,HB2.out.alloc HB2.out.size _⟩
 ·rw [yes_f hok] at HSO;have HPN:=hid (psZ_no hok);obtain⟨P,hP⟩:∃P,psZ R F T n l=P:=⟨_,rfl⟩;rw [hP] at HPN;rw [hP];clear hP hok;go_enter Tryz.func46,Tryz.ntmps46;go_wp2_with fail;try rw [hW]
  clear hW;refine HSO.out.mono ?_;rintro e w1 ⟨rfl,b1⟩;have HB1:=hid (keepS HB0.out b1);clear b1 HSO HBX k0 k1;go_wp2_with fail;go_ret2;exact⟨_,[],1,rfl,HPN.out,own_mt _ _ HB1.out.size,HB1.out.alloc HB1.out.size _⟩
end Go.Proofs.YtpfmeafmepgimaaGreat
namespace Go.Proofs.YtpfmeafmepgimaaGreat
open Go.ChangeShapes Go.WideShapes Go.ChangeAt Go.RowKit Go.Maps
theorem JF.mono {w:World}{B c c':Nat}{J:List Lf}{z:List Ky}{N:List Ky ->Option (Nat×Nat)}{x0:Nat×Nat}(h:JF w B J z N c x0)(hc:c<=c'):JF w B J z N c' x0:=⟨h.tre.mono hc,h.root,h.there⟩
def livV (n:Nat)(o:Option (Nat×Nat)):Value:=.agg #[.map (mF o),.map (mS o),.map (some n)]
def JQ (J:List Lf)(z:List Ky)(c:Nat)(w:World)(e:Ending)(w':World):Prop:=(∃x0 N',e=.returned (.agg #[.map (some x0.1),.map (some x0.2)])/\ JF w' w.heap.size J z N' c x0)/\ Below w.heap.size w w'
def HasAt (v0:World)(n:Nat)(h:Dt ->Bool):Prop:=∀w,Below v0.heap.size v0 w ->∀r q kl,keyOf Tryz.prog 63 (dtV (r,q))=some kl ->Calls Tryz.prog 83 #[.map (some n),.agg #[.int .i64 r,.int .i64 q]] w fun e w''=>e=.returned (.bool (h (r,q)))/\ Below w.heap.size w w''
structure JH (v0:World)(Na Nb:List Ky ->Option (Nat×Nat))(MA MB:List Ky ->Dt ->Option ByteArray)(ca cb na nb:Nat)(hA hB:Dt ->Bool)(J:List Lf):Prop where
 ta:Tre v0 0 Na MA ca
 tb:Tre v0 0 Nb MB cb
 ha:HasAt v0 na hA
 hb:HasAt v0 nb hB
 hJ:∀z,kmF (MB z) (MA z) hA (kmF (MA z) (MB z) hB (fun _=>none))=Mk J J.length z
 hAh:∀z y,Ah J (z++[y]) ->Na (z++[y])≠none \/Nb (z++[y])≠none
theorem MO.ltv {α β:Type}{w:World}{t:TypeId}{kv:α ->Value}{vo:Option β ->Value}{mo:Option Nat}{c k:Nat}{f:α ->Option β}(h:MO w t kv vo mo c f)(hk:w.heap.size<=k):mo≠some k:=fun e=>by have:=h.lt k e;omega
theorem Rng.nomap {α β:Type}{w:World}{t:TypeId}{kv:α ->Value}{vo:Option β ->Value}{mo:Option Nat}{r c cnt:Nat}{f:α ->Option β}{ds:List α}(h:Rng w t kv vo mo r c f ds cnt):∀es cl,w.heap[r]? ≠some (.map es cl):=by
 intro es cl e;cases mo with
 | none=>rw [h.1] at e;cases e
 | some b=>
  obtain⟨D,left,⟨es',clock,since,seen,c0,hb,F,hs,hD,hr',rest⟩,h2,h3⟩:=h;rw [hr'] at e;cases e
theorem joinStep {v0:World}{Na Nb:List Ky ->Option (Nat×Nat)}{MA MB:List Ky ->Dt ->Option ByteArray}{ca cb na nb:Nat}{hA hB:Dt ->Bool}{J:List Lf}(H:JH v0 Na Nb MA MB ca cb na nb hA hB J)(z:List Ky)(c':Nat)(hc:ca+cb<=c')(hc2:c'+(ca+cb)<=1048576)
  (hIH:∀y,(Na (z++[y])≠none \/Nb (z++[y])≠none) ->∀w,Below v0.heap.size v0 w ->Calls Tryz.prog 40 #[livV na (Na (z++[y])),livV nb (Nb (z++[y]))] w (JQ J (z++[y]) c' w))
  (w:World) (hw:Below v0.heap.size v0 w):
  Calls Tryz.prog 40 #[livV na (Na z),livV nb (Nb z)] w (JQ J z (c'+(ca+cb)) w):=by
 have HMA:=hid (H.ta.mo_marks z);have HMB:=hid (H.tb.mo_marks z);have HKA:=hid (H.ta.mo_kids z);have HKB:=hid (H.tb.mo_kids z);have HUA:Hid (∀(s:ByteArray) (k:Int) (kl:Lit) (w:World),Below v0.heap.size v0 w ->keyOf Tryz.prog 102 (keyV (s,k))=some kl ->Calls Tryz.prog 66 #[livV na (Na z),.agg #[.string s,.int .i64 k]] w fun e w'=>e=.returned (livV na (Na (z++[(s,k)])))/\ Below w.heap.size w w'):=hid (fun s k kl w hw hk=>underC z s k (some na) 0 ca Na MA w kl hk (H.ta.below hw));have HUB:Hid (∀(s:ByteArray) (k:Int) (kl:Lit) (w:World),Below v0.heap.size v0 w ->keyOf Tryz.prog 102 (keyV (s,k))=some kl ->Calls Tryz.prog 66 #[livV nb (Nb z),.agg #[.string s,.int .i64 k]] w fun e w'=>e=.returned (livV nb (Nb (z++[(s,k)])))/\ Below w.heap.size w w'):=hid (fun s k kl w hw hk=>underC z s k (some nb) 0 cb Nb MB w kl hk (H.tb.below hw));have HIH:=hid hIH;have HH:=hid H;have HV:=hid hw;have HC:=hid (And.intro hc hc2);unfold livV at HUA HUB HIH ⊢;obtain⟨a0,ha0⟩:∃u,mF (Na z)=u:=⟨_,rfl⟩;obtain⟨a1,ha1⟩:∃u,mS (Na z)=u:=⟨_,rfl⟩;obtain⟨b0,hb0⟩:∃u,mF (Nb z)=u:=⟨_,rfl⟩;obtain⟨b1,hb1⟩:∃u,mS (Nb z)=u:=⟨_,rfl⟩;rw [ha0,ha1] at HUA ⊢;rw [hb0,hb1] at HUB ⊢;rw [ha1] at HMA;rw [hb1] at HMB;rw [ha0] at HKA;rw [hb0] at HKB;clear ha0 ha1 hb0 hb1 H hIH hw hc hc2;obtain⟨W,hW⟩:∃W,((w.alloc (.cells #[.map a0,.map a1,.map (some na)] 49)).alloc (.cells #[.map b0,.map b1,.map (some nb)] 49)).alloc (.cells #[.map none,.map none] 45)=W:=⟨_,rfl⟩;have B0:Below w.heap.size w W:=by rw [<- hW];exact(below2 _ _ _).alloc (by simp;omega) _
 have X0:Bx3 W w.heap.size (.map a0) (.map a1) (.map (some na)):=by
  rw [<- hW];exact((Bx3.made w _ _ _ _).below ((Below.refl _ _).alloc (Nat.le_refl _) _) (Bx3.made w _ _ _ _).lt).below ((Below.refl _ _).alloc (Nat.le_refl _) _) (by simp;omega)
 have X1:Bx3 W (w.heap.size+1) (.map b0) (.map b1) (.map (some nb)):=by
  rw [<- hW];have:=Bx3.made (w.alloc (.cells #[.map a0,.map a1,.map (some na)] 49)) (.map b0) (.map b1) (.map (some nb)) 49;exact(by simpa using this:Bx3 _ (w.heap.size+1) _ _ _).below ((Below.refl _ _).alloc (Nat.le_refl _) _) (by simp)
 have X2:Bx2 W (w.heap.size+1+1) (.map none) (.map none):=by
  rw [<- hW];simpa using Bx2.made ((w.alloc (.cells #[.map a0,.map a1,.map (some na)] 49)).alloc (.cells #[.map b0,.map b1,.map (some nb)] 49)) (.map none) (.map none) 45
 have HX:=hid (And.intro X0 (And.intro X1 X2));have HB0:=hid B0;have HWS:Hid (W.heap.size=w.heap.size+3):=hid (by rw [<- hW];simp);clear B0 X0 X1 X2;go_enter Tryz.func40,Tryz.ntmps40;go_wp2_with fail;try rw [hW]
 clear hW;refine(newNode W).mono ?_;rintro e w1 ⟨s,s',rfl,hne,hs,hs',m1,m2,b1w⟩;obtain⟨x0,rfl,rfl⟩:∃x0:Nat×Nat,x0.1=s/\ x0.2=s':=⟨(s,s'),rfl,rfl⟩;obtain⟨w2,hw2⟩:∃w2,w1.alloc (.cells #[.map (some x0.1),.map (some x0.2)] 45)=w2:=⟨_,rfl⟩;have b2:Below w1.heap.size w1 w2:=by rw [<- hw2];exact(Below.refl _ _).alloc (Nat.le_refl _) _
 have B12:=keepS b1w b2;have JB2:JB w2 w.heap.size w1.heap.size a0 a1 (some na) b0 b1 (some nb) x0:=⟨HX.out.1.below B12 HX.out.1.lt,HX.out.2.1.below B12 HX.out.2.1.lt,HX.out.2.2.below B12 HX.out.2.2.lt,by rw [<- hw2];exact Bx2.made _ _ _ _⟩;have HWV:Hid (Below v0.heap.size v0 W):=hid (HV.out.trans (HB0.out.mono HV.out.size));have V2:Below v0.heap.size v0 w2:=HWV.out.trans (B12.mono HWV.out.size);have HK2:=hid (MapF.same m1 (b2.block _ m1.lt));have HX0:Hid (x0.1<w1.heap.size/\ x0.2<w1.heap.size/\ x0.1≠x0.2/\ w.heap.size+3<=x0.1/\ w.heap.size+3<=x0.2/\ v0.heap.size<=x0.1/\ v0.heap.size<=x0.2):=hid (by
  have h1:=HWS.out;have h2:=HWV.out.size;exact⟨m1.lt,m2.lt,hne,by omega,by omega,by omega,by omega⟩)
 have HNA:Hid (a1≠some x0.2/\ b1≠some x0.2/\ a0≠some x0.1/\ b0≠some x0.1):=hid ⟨HMA.out.ltv HX0.out.2.2.2.2.2.2,HMB.out.ltv HX0.out.2.2.2.2.2.2,HKA.out.ltv HX0.out.2.2.2.2.2.1,HKB.out.ltv HX0.out.2.2.2.2.2.1⟩;have HKM1:=hid (keepMarksC a0 a1 b0 b1 (some x0.1) (some na) x0.2 nb ca cb 0 (MA z) (MB z) (fun _=>none) hB w2 (HMA.out.below V2 (fun b e=>HMA.out.lt b e)) (HMB.out.below V2 (fun b e=>HMB.out.lt b e)) (MapF.same m2 (b2.block _ m2.lt)) HNA.out.1 HNA.out.2.1 (by have:=HC.out;omega)
  (fun w' hg=>HH.out.hb w' (V2.grown hg V2.size (fun k e=>by cases e;exact HX0.out.2.2.2.2.2.2))))
 have p0:=JB2.a.c0;have p1:=JB2.a.c1;have p2:=JB2.a.c2;have p3:=JB2.b.c0;have p4:=JB2.b.c1;have p5:=JB2.b.c2;have p6:=JB2.j.c0;have p7:=JB2.j.c1;have HJB2:=hid JB2;have HV2:=hid V2;have HB2:=hid (HB0.out.trans (B12.mono HB0.out.size));have HS12:Hid (w1.heap.size<w2.heap.size):=hid (by rw [<- hw2];simp);clear JB2 V2 b2 B12 hne hs hs' m1 m2 b1w;go_wp2_with fail;try rw [hw2]
 clear hw2;refine HKM1.out.mono ?_;rintro e w3 ⟨rfl,m3,g3⟩;have nr:∀k,some x0.2=some k ->k≠w.heap.size/\ k≠w.heap.size+1/\ k≠w.heap.size+1+1/\ k≠w1.heap.size:=fun k e=>by
  have h1:=HX0.out;injection e with e;omega
 have JB3:=HJB2.out.gr g3 nr;have V3:Below v0.heap.size v0 w3:=HV2.out.grown g3 HV2.out.size (fun k e=>by cases e;exact HX0.out.2.2.2.2.2.2);have HKM2:=hid (keepMarksC b0 b1 a0 a1 (some x0.1) (some nb) x0.2 na cb ca (0+ca) (MB z) (MA z) (kmF (MA z) (MB z) hB (fun _=>none)) hA w3 (HMB.out.below V3 (fun b e=>HMB.out.lt b e)) (HMA.out.below V3 (fun b e=>HMA.out.lt b e)) m3 HNA.out.2.1 HNA.out.1 (by have:=HC.out;omega)
  (fun w' hg=>HH.out.ha w' (V3.grown hg V3.size (fun k e=>by cases e;exact HX0.out.2.2.2.2.2.2))))
 clear p0 p1 p2 p3 p4 p5 p6 p7;have p0:=JB3.a.c0;have p1:=JB3.a.c1;have p2:=JB3.a.c2;have p3:=JB3.b.c0;have p4:=JB3.b.c1;have p5:=JB3.b.c2;have p6:=JB3.j.c0;have p7:=JB3.j.c1;have HJB3:=hid JB3;have HV3:=hid V3;have HG3:=hid g3;have HNR:=hid nr;clear JB3 V3 m3 g3 HKM1 nr;go_wp2_with fail;refine HKM2.out.mono ?_;rintro e w4 ⟨rfl,m4,g4⟩;have JB4:=HJB3.out.gr g4 HNR.out;have V4:Below v0.heap.size v0 w4:=HV3.out.grown g4 HV3.out.size (fun k e=>by cases e;exact HX0.out.2.2.2.2.2.2);have g24:=HG3.out.trans g4;have HW4:Hid (Below w.heap.size w w4):=hid (HB2.out.grown g24 HB2.out.size (fun k e=>by have:=HX0.out;cases e;omega));have HS4:Hid (w1.heap.size<w4.heap.size):=hid (Nat.lt_of_lt_of_le HS12.out g24.size);have HJ4:Hid (JT w4 w.heap.size J z (fun _=>False) (fun r=>if r=[] then some x0 else none) c' x0):=hid ((JT.start (MapF.same HK2.out (g24.block _ (Nat.lt_trans HX0.out.1 HS12.out) (fun e=>HX0.out.2.2.1 (by injection e)))) (by rw [<- HH.out.hJ z];exact m4) HX0.out.2.2.1 (by have:=HX0.out;omega)).mono (by have:=HC.out;omega));clear p0 p1 p2 p3 p4 p5 p6 p7;have p0:=JB4.a.c0;have HJB4:=hid JB4;have HV4:=hid V4;have HKA4:=hid (HKA.out.below V4 (fun b e=>HKA.out.lt b e));have HNE:Hid (∀k,some x0.1=some k ->k≠w.heap.size/\ k≠w.heap.size+1/\ k≠w.heap.size+1+1/\ k≠w1.heap.size):=hid (fun k e=>by
  have h1:=HX0.out;injection e with e;omega)
 have HSZ:Hid (w.heap.size<=w4.heap.size):=hid HW4.out.size;have HAL:Hid (∀b,a0=some b ->b<v0.heap.size):=hid (fun b e=>HKA.out.lt b e);have HBL:Hid (∀b,b0=some b ->b<v0.heap.size):=hid (fun b e=>HKB.out.lt b e);clear JB4 V4 m4 g4 g24 HKM2 HG3 HV2 HV3 HJB2 HJB3 HK2 HB2 HS12;go_wp2_with (at_range;refine wpList_range_O _ rfl _ 42 rfl 102 45 keyKeyed Tryz.underlying42 keyV nodV a0 ca (fun y=>Na (z++[y])) rfl HKA4.out ?_;intro w0 cnt0 hrg0 hg0 hs0);have HG1:Hid (w4.grownBy w0 (some x0.1)):=hid (hg0.but _);have HJ0:Hid (JT w0 w.heap.size J z (fun u=>u∈([]:List Ky)) (fun r=>if r=[] then some x0 else none) (c'+([]:List Ky).length) x0):=hid ((HJ4.out.kept' (r:=w4.heap.size) (hg0.but _) (fun es cl e=>by have:=(Array.getElem?_eq_some_iff.1 e).1;omega)).congr (fun u=>by simp));have HJB0:=hid (HJB4.out.gr hg0 (fun k e=>by cases e));clear hg0 hs0 HJ4 p0;try go_frame
 go_loopw [] (fun wr=>∃(ds:List Ky) (cnt:Nat) (N:List Ky ->Option (Nat×Nat)),Rng wr 102 keyV nodV a0 w4.heap.size ca (fun y=>Na (z++[y])) ds cnt/\ Hid (JT wr w.heap.size J z (fun u=>u∈ds) N (c'+ds.length) x0)/\ Hid (JB wr w.heap.size w1.heap.size a0 a1 (some na) b0 b1 (some nb) x0)/\ Hid (w4.grownBy wr (some x0.1))) (fun wr=>wr.rangeLeft (a0.getD 0) w4.heap.size);case atStart=>exact⟨[],_,_,hrg0,HJ0,HJB0,HG1⟩
 case round=>
  clear hrg0 HJ0 HG1 HJB0;obtain⟨ds,cnt,N,hrg,HJR,HJBR,HGR⟩:=hrel;have HRG0:=hid hrg;go_wp2_with (at_next;refine wpList_next_O _ rfl _ rfl 102 keyKeyed keyV (fun _ _=>keyV_inj) (fun key kl hk=>keyOf_key hk) nodV a0 w4.heap.size ca (fun y=>Na (z++[y])) ds cnt rfl hrg ?_ ?_)
  ·intro hk;have HKD:=hid hk;have HDL:Hid (ds.length<=ca):=hid (by have:=HRG0.out.len;omega);obtain⟨V,hV⟩:∃V,V=wr:=⟨_,rfl⟩;subst hV;have V5:Below v0.heap.size v0 V:=HV4.out.grown HGR.out HV4.out.size (fun k e=>by have:=HX0.out;cases e;omega);have HVV:=hid V5;have HWV2:Hid (Below w.heap.size w V):=hid (HW4.out.grown HGR.out HW4.out.size (fun k e=>by have:=HX0.out;cases e;omega));have HSV:Hid (w1.heap.size<V.heap.size):=hid (Nat.lt_of_lt_of_le HS4.out HGR.out.size);have HSZ2:Hid (w.heap.size<=V.heap.size):=hid HWV2.out.size;have HKB5:=hid (HKB.out.below V5 (fun b e=>HKB.out.lt b e));have p0:=HJBR.out.b.c0;clear hk hrg V5 HRG0 HSZ;go_wp2_with (at_range;refine wpList_range_O _ rfl _ 42 rfl 102 45 keyKeyed Tryz.underlying42 keyV nodV b0 cb (fun y=>Nb (z++[y])) rfl HKB5.out ?_;intro w0 cnt0 hrg0 hg0 hs0);have HG1:Hid (V.grownBy w0 (some x0.1)):=hid (hg0.but _);have HJ0:Hid (JT w0 w.heap.size J z (fun u=>u∈ds \/u∈([]:List Ky)) N (c'+ds.length+([]:List Ky).length) x0):=hid ((HJR.out.kept' (r:=V.heap.size) (hg0.but _) (fun es cl e=>by have:=(Array.getElem?_eq_some_iff.1 e).1;omega)).congr (fun u=>by simp));have HJB0:=hid (HJBR.out.gr hg0 (fun k e=>by cases e));clear hg0 hs0 p0;try go_frame
   clear HGR HJR HJBR;go_loopw [] (fun wr=>∃(ds2:List Ky) (cnt:Nat) (N:List Ky ->Option (Nat×Nat)),Rng wr 102 keyV nodV b0 V.heap.size cb (fun y=>Nb (z++[y])) ds2 cnt/\ Hid (JT wr w.heap.size J z (fun u=>u∈ds \/u∈ds2) N (c'+ds.length+ds2.length) x0)/\ Hid (JB wr w.heap.size w1.heap.size a0 a1 (some na) b0 b1 (some nb) x0)/\ Hid (V.grownBy wr (some x0.1))) (fun wr=>wr.rangeLeft (b0.getD 0) V.heap.size);case atStart=>exact⟨[],_,_,hrg0,HJ0,HJB0,HG1⟩
   case round=>
    clear hrg0 HJ0 HG1 HJB0;obtain⟨ds2,cnt,N,hrg,HJR,HJBR,HGR⟩:=hrel;have HRG0:=hid hrg;go_wp2_with (at_next;refine wpList_next_O _ rfl _ rfl 102 keyKeyed keyV (fun _ _=>keyV_inj) (fun key kl hk=>keyOf_key hk) nodV b0 V.heap.size cb (fun y=>Nb (z++[y])) ds2 cnt rfl hrg ?_ ?_)
    ·intro hk;have HE:Hid (JF wr w.heap.size J z N (c'+(ca+cb)) x0):=hid ((HJR.out.full (fun y hy=>by
      rcases HH.out.hAh z y hy with h|h
      ·exact .inl ((HKD.out.2 y).2 h)
      ·exact .inr ((hk.2 y).2 h))).mono (by have h1:=HRG0.out.len;have h2:=HDL.out;omega))
     have HE2:Hid (Below w.heap.size w wr):=hid (HWV2.out.grown HGR.out HWV2.out.size (fun k e=>by have:=HX0.out;cases e;omega));have r0:=HJBR.out.r.c0;have r1:=HJBR.out.r.c1;have f0:=HJBR.out.r.f 0;have f1:=HJBR.out.r.f 1;have j0:=HJBR.out.j.c0;have j1:=HJBR.out.j.c1;have HC9:=hid (HJBR.out.r.set (.map (some x0.1)) (.map (some x0.2)));clear hk hrg;go_wp2_with fail;have s0:=HC9.out.c0;have s1:=HC9.out.c1;refine bodyPost_ret (v:=.agg #[.map (some x0.1),.map (some x0.2)]) (by simp [results,Tryz.results40,go_sem,s0,s1]) rfl ⟨⟨x0,N,rfl,?_⟩,?_⟩
     ·have hb:=HJBR.out.r;exact⟨(HE.out.tre.set _ hb.c0).set (v:=.map none) _ (by simp [World.cell?_setCell_other,hb.c1]),HE.out.root,HE.out.there⟩
     ·exact(HE2.out.setCell (by simp;omega) _).setCell (by simp;omega) _
    ·intro xs xk yv1 yv2 w5 cnt2 bm hma hfx hnx kl hkl hrg2 hlt2 hg2 hs2 hen;have HPR:Hid (Na (z++[(xs,xk)])≠none \/Nb (z++[(xs,xk)])≠none):=hid (Or.inr (by rw [show Nb (z++[(xs,xk)])=_ from hfx];simp));have HKL:=hid hkl;have HCC:Hid (c'+ds.length+ds2.length<1048576):=hid (by have h1:=HRG0.out.len;have h2:=HC.out;have h3:=HDL.out;omega);have HML:Hid (∀w9,Rng w9 102 keyV nodV b0 V.heap.size cb (fun y=>Nb (z++[y])) (ds2++[(xs,xk)]) cnt2 ->w9.rangeLeft (b0.getD 0) V.heap.size<wr.rangeLeft (b0.getD 0) V.heap.size):=hid (fun w9 h9=>by
      have h1:=HRG0.out;rw [hma] at h9 h1 ⊢;show w9.rangeLeft bm _<wr.rangeLeft bm _;rw [h9.left_eq,h1.left_eq];exact hlt2)
     have HNX:=hid hnx;have HG5:Hid (V.grownBy w5 (some x0.1)):=hid (HGR.out.andThen hg2 (fun j e=>by cases e;exact .inl (Nat.le_refl _)));have HJ5:=hid (HJR.out.kept' hg2 HRG0.out.nomap);have HJB5:=hid (HJBR.out.gr hg2 (fun k e=>by have h1:=HSV.out;have h2:=HX0.out;cases e;omega));have HR5:=hid hrg2;obtain⟨w51,hw51⟩:∃w51,w5.alloc (.cells #[.string xs,.int .i64 xk] 102)=w51:=⟨_,rfl⟩;have b51:Below w5.heap.size w5 w51:=by rw [<- hw51];exact(Below.refl _ _).alloc (Nat.le_refl _) _
     have HK51:Hid (Bx2 w51 w5.heap.size (.string xs) (.int .i64 xk)):=hid (by rw [<- hw51];exact Bx2.made _ _ _ _);have HJB51:=hid (HJB5.out.below b51);have HG51:Hid (V.grownBy w51 (some x0.1)):=hid (HG5.out.trans (below_gr b51 _));have HV51:Hid (Below v0.heap.size v0 w51):=hid (HVV.out.grown HG51.out HVV.out.size (fun k e=>by have:=HX0.out;cases e;omega));have hlk:=(HKA.out.below HV51.out (fun b e=>HKA.out.lt b e)).look_ok keyKeyed Tryz.underlying42 (zeroNode w51) (x:=(xs,xk)) HKL.out;have q0:=HJB51.out.a.c0;have q1:=HK51.out.c0;have q2:=HK51.out.c1;have HB51:=hid b51;clear hfx hnx hkl hrg hrg2 hlt2 hg2 hs2 hma b51;dsimp only [keyV,nodV] at hen hlk ⊢;cases hna:Na (z++[(xs,xk)]) with
     | some y9=>
      rw [hna] at hlk;obtain⟨w6,hw6⟩:∃w6,w51.alloc (.cells #[.map (some y9.1),.map (some y9.2)] 45)=w6:=⟨_,rfl⟩;have b6:Below w51.heap.size w51 w6:=by rw [<- hw6];exact(Below.refl _ _).alloc (Nat.le_refl _) _
      have B6:=keepS HB51.out b6;have HR6:=hid (HR5.out.same (fun b e=>B6.block b (HR5.out.mlt b e)) (B6.block _ HR5.out.lt));have HJ6:=hid (HJ5.out.below B6);have HJB6:=hid (HJB51.out.below b6);have HG6:Hid (V.grownBy w6 (some x0.1)):=hid (HG51.out.trans (below_gr b6 _));have HIY:Hid ((xs,xk)∈ds):=hid ((HKD.out.2 _).2 (by show Na (z++[(xs,xk)])≠none;rw [hna];simp));clear hna b6 B6;dsimp only [Option.isSome] at hlk;go_wp2_with fail;try rw [hw6]
      go_roundw;case rel=>exact⟨_,_,N,HR6.out,hid ((HJ6.out.congr (fun u=>by
       constructor
       ·rintro(h|h)
        ·exact .inl h
        ·exact .inr (by simp [h])
       ·rintro(h|h)
        ·exact .inl h
        ·rcases List.mem_append.1 h with h|h
         ·exact .inr h
         ·rw [List.mem_singleton.1 h];exact .inl HIY.out)).mono (by simp)),HJB6,HG6⟩
      case measure=>exact HML.out w6 HR6.out
     | none=>
      rw [hna] at hlk;have HNY:Hid (¬((xs,xk)∈ds \/(xs,xk)∈ds2)):=hid (fun h=>h.elim (fun h=>(HKD.out.2 _).1 h hna) HNX.out);obtain⟨w6,hw6⟩:∃w6,w51.alloc (.cells #[.map none,.map none] 45)=w6:=⟨_,rfl⟩;have b6:Below w51.heap.size w51 w6:=by rw [<- hw6];exact(Below.refl _ _).alloc (Nat.le_refl _) _
      have B6:=keepS HB51.out b6;have HR6:=hid (HR5.out.same (fun b e=>B6.block b (HR5.out.mlt b e)) (B6.block _ HR5.out.lt));have HJ6:=hid (HJ5.out.below B6);have HJB6:=hid (HJB51.out.below b6);have HK6:=hid (HK51.out.below b6 HK51.out.lt);have HG6:Hid (V.grownBy w6 (some x0.1)):=hid (HG51.out.trans (below_gr b6 _));have HV6:Hid (Below v0.heap.size v0 w6):=hid (HV51.out.trans (b6.mono HV51.out.size));have HNU:Hid (∀k,some x0.1=some k ->k≠w5.heap.size):=hid (fun k e=>by have h1:=HX0.out;have h2:=HSV.out;have h3:=HG5.out.size;cases e;omega);have HMN:Hid (∀b,b0=some b ->some x0.1≠some b):=hid (fun b e h=>HNA.out.2.2.2 (by rw [e,h]));have HIN:Hid (some x0.1≠some V.heap.size):=hid (fun e=>by have h1:=HX0.out;have h2:=HSV.out;injection e with e;omega);have HW6:=hid hw6;clear b6 B6 hna hw6;dsimp only [Option.isSome] at hlk;have HSZ:=HSZ2;obtain⟨ya0,hya0⟩:∃u,mF (Na (z++[(xs,xk)]))=u:=⟨_,rfl⟩;obtain⟨ya1,hya1⟩:∃u,mS (Na (z++[(xs,xk)]))=u:=⟨_,rfl⟩;obtain⟨yb0,hyb0⟩:∃u,mF (Nb (z++[(xs,xk)]))=u:=⟨_,rfl⟩;obtain⟨yb1,hyb1⟩:∃u,mS (Nb (z++[(xs,xk)]))=u:=⟨_,rfl⟩;have HCA:Hid (∀w1,Below w6.heap.size w6 w1 ->Calls Tryz.prog 66 #[.agg #[.map a0,.map a1,.map (some na)],.agg #[.string xs,.int .i64 xk]] w1 fun e w'=>e=.returned (.agg #[.map ya0,.map ya1,.map (some na)])/\ Below w1.heap.size w1 w'):=hid (fun w1 b1=>by have:=HUA.out xs xk kl w1 (HV6.out.trans (b1.mono HV6.out.size)) HKL.out;rw [hya0,hya1] at this;exact this);have HCB:Hid (∀w1,Below w6.heap.size w6 w1 ->Calls Tryz.prog 66 #[.agg #[.map b0,.map b1,.map (some nb)],.agg #[.string xs,.int .i64 xk]] w1 fun e w'=>e=.returned (.agg #[.map yb0,.map yb1,.map (some nb)])/\ Below w1.heap.size w1 w'):=hid (fun w1 b1=>by have:=HUB.out xs xk kl w1 (HV6.out.trans (b1.mono HV6.out.size)) HKL.out;rw [hyb0,hyb1] at this;exact this);have HCJ:Hid (∀w1,Below w6.heap.size w6 w1 ->Calls Tryz.prog 40 #[.agg #[.map ya0,.map ya1,.map (some na)],.agg #[.map yb0,.map yb1,.map (some nb)]] w1 (JQ J (z++[(xs,xk)]) c' w1)):=hid (fun w1 b1=>by have:=HIH.out (xs,xk) HPR.out w1 (HV6.out.trans (b1.mono HV6.out.size));rw [hya0,hya1,hyb0,hyb1] at this;exact this);have HSE:Hid (∀w',Below w6.heap.size w6 w' ->(w'.cell? ⟨w1.heap.size,0,none⟩=some (.map (some x0.1))/\ w'.cell? ⟨w1.heap.size,1,none⟩=some (.map (some x0.2))/\ w'.cell? ⟨w5.heap.size,0,none⟩=some (.string xs)/\ w'.cell? ⟨w5.heap.size,1,none⟩=some (.int .i64 xk)/\ w'.cell? ⟨w.heap.size,0,none⟩=some (.map a0)/\ w'.cell? ⟨w.heap.size,1,none⟩=some (.map a1)/\ w'.cell? ⟨w.heap.size,2,none⟩=some (.map (some na))/\ w'.cell? ⟨w.heap.size+1,0,none⟩=some (.map b0)/\ w'.cell? ⟨w.heap.size+1,1,none⟩=some (.map b1)/\ w'.cell? ⟨w.heap.size+1,2,none⟩=some (.map (some nb)))):=hid (fun w1 b1=>(HJB6.out.below b1).sees (HK6.out.below b1 HK6.out.lt));have HHG:Hid (∀w9 x1 N1,Below w6.heap.size w6 w9 ->∀B,JF w9 B J (z++[(xs,xk)]) N1 c' x1 ->Calls Tryz.prog 65 #[.agg #[.map (some x0.1),.map (some x0.2)],.agg #[.string xs,.int .i64 xk],.agg #[.map (some x1.1),.map (some x1.2)]] w9 fun e w'=>e=.returned (.tuple #[])/\ w9.grownBy w' (some x0.1)/\
        (Bears (fun u=>N1 [u]) (Mk J J.length (z++[(xs,xk)])) ->MapF w' 102 keyV nodV x0.1 (c'+ds.length+ds2.length+1) (updF (fun u=>N [u]) (xs,xk) (some x1)))/\ (¬Bears (fun u=>N1 [u]) (Mk J J.length (z++[(xs,xk)])) ->Below w9.heap.size w9 w')):=hid (fun w9 x1 N1 b9 B h1=>by
       have hj:=HJ6.out.below b9;have h1':=h1.mono (show c'<=c'+ds.length+ds2.length by omega);exact hangC x0 x1 xs xk (c'+ds.length+ds2.length) (fun u=>N [u]) (fun u=>N1 [u]) (Mk J J.length (z++[(xs,xk)])) w9 kl HKL.out (hj.tre.kids [] x0 hj.root) (h1'.tre.kids [] x1 h1'.root) ((h1'.tre.marks [] x1 h1'.root).ext fun d=>by simp) HCC.out)
      clear hya0 hya1 hyb0 hyb1;go_wp2_with fail;rw [HW6.out];refine wp_region_held_drew (S:=fun w'=>w'.cell? ⟨w1.heap.size,0,none⟩=some (.map (some x0.1))/\ w'.cell? ⟨w1.heap.size,1,none⟩=some (.map (some x0.2))/\ w'.cell? ⟨w5.heap.size,0,none⟩=some (.string xs)/\ w'.cell? ⟨w5.heap.size,1,none⟩=some (.int .i64 xk)/\ w'.cell? ⟨w.heap.size,0,none⟩=some (.map a0)/\ w'.cell? ⟨w.heap.size,1,none⟩=some (.map a1)/\ w'.cell? ⟨w.heap.size,2,none⟩=some (.map (some na))/\ w'.cell? ⟨w.heap.size+1,0,none⟩=some (.map b0)/\ w'.cell? ⟨w.heap.size+1,1,none⟩=some (.map b1)/\ w'.cell? ⟨w.heap.size+1,2,none⟩=some (.map (some nb))) (by kernel_rfl) (HSE.out _ (Below.refl _ _).drew) (fun hHeld=> ?_);refine tZ 0 55 ?_;refine tZ 1 56 ?_;refine tZ 2 57 ?_;refine tZ 3 58 ?_;refine tZ 5 60 ?_;refine tZ 6 61 ?_;refine cZ 4 ?_;intro K hK;go_simp;refine(HCA.out _ (Below.refl _ _).drew).mono ?_;rintro e w7 ⟨rfl,b7⟩;have b7':Below w6.heap.size w6 w7:=⟨b7.os,b7.tape,b7.output,b7.size,b7.block⟩;refine hK.out _ _ (HSE.out _ b7') (fun hHeld=> ?_);clear hK K;try simp only [Act.put,sZa,sZb,sZc]
      refine cZ 7 ?_;intro K hK;go_simp;refine(HCB.out _ b7').mono ?_;rintro e w8 ⟨rfl,b8⟩;have b8':=keepS b7' b8;refine hK.out _ _ (HSE.out _ b8') (fun hHeld=> ?_);clear hK K;try simp only [Act.put,sZa,sZb,sZc]
      refine cZ 8 ?_;intro K hK;go_simp;refine(HCJ.out _ b8').mono ?_;rintro e w9 ⟨⟨x1,N1,rfl,h1⟩,b9⟩;have b9':=keepS b8' b9;refine hK.out _ _ (HSE.out _ b9') (fun hHeld=> ?_);clear hK K;try simp only [Act.put,sZa,sZb,sZc]
      have HH1:=hid h1;clear h1;refine cZ 9 ?_;intro K hK;go_simp;refine(HHG.out w9 x1 N1 b9' _ HH1.out).mono ?_;rintro e w10 ⟨rfl,g10,hm10,hn10⟩;have HJB10:=hid ((HJB6.out.below b9').gr g10 HNE.out);refine hK.out _ _ (HJB10.out.sees ((HK6.out.below b9' HK6.out.lt).gr g10 HNU.out)) (fun hHeld=> ?_);clear hK K;try simp only [Act.put,sZa,sZb,sZc]
      refine wpAnyH_done (by kernel_rfl) ?_ _;obtain⟨N10,hJ10⟩:=(HJ6.out.below b8').round b9 (HH1.out.mono (show c'<=c'+ds.length+ds2.length by omega)) (Nat.le_trans (Nat.le_trans HSZ.out HG6.out.size) b8'.size) HNY.out g10 hm10 hn10;have HG10:Hid (V.grownBy w10 (some x0.1)):=hid ((HG6.out.trans (below_gr b9' _)).trans g10);have HR10:=hid ((HR6.out.same (fun b e=>b9'.block b (HR6.out.mlt b e)) (b9'.block _ HR6.out.lt)).kept g10 HMN.out HIN.out);have HJ10:=hid hJ10;clear hHeld b7 b7' b8 b8' b9 b9' g10 hm10 hn10 hJ10 HSE HCA HCB HCJ HHG HH1;go_wp2_with fail;go_roundw;case rel=>exact⟨_,_,_,HR10.out,hid (by simpa [Nat.add_assoc] using HJ10.out.congr (fun u=>by simp [or_assoc])),HJB10,HG10⟩
      case measure=>exact HML.out w10 HR10.out
  ·intro xs xk yv1 yv2 w5 cnt2 bm hma hfx hnx kl hkl hrg2 hlt2 hg2 hs2 hen;have HPR:Hid (Na (z++[(xs,xk)])≠none \/Nb (z++[(xs,xk)])≠none):=hid (Or.inl (by rw [show Na (z++[(xs,xk)])=_ from hfx];simp));have HNY:Hid (¬(xs,xk)∈ds):=hid hnx;have HKL:=hid hkl;have HCC:Hid (c'+ds.length<1048576):=hid (by have h1:=HRG0.out.len;have h2:=HC.out;omega);have HML:Hid (∀w9,Rng w9 102 keyV nodV a0 w4.heap.size ca (fun y=>Na (z++[y])) (ds++[(xs,xk)]) cnt2 ->w9.rangeLeft (a0.getD 0) w4.heap.size<wr.rangeLeft (a0.getD 0) w4.heap.size):=hid (fun w9 h9=>by
    have h1:=HRG0.out;rw [hma] at h9 h1 ⊢;show w9.rangeLeft bm _<wr.rangeLeft bm _;rw [h9.left_eq,h1.left_eq];exact hlt2)
   have HG5:Hid (w4.grownBy w5 (some x0.1)):=hid (HGR.out.andThen hg2 (fun j e=>by cases e;exact .inl (Nat.le_refl _)));have HJ5:=hid (HJR.out.kept' hg2 HRG0.out.nomap);have HJB5:=hid (HJBR.out.gr hg2 (fun k e=>by have h1:=HS4.out;have h2:=HX0.out;cases e;omega));have HR5:=hid hrg2;obtain⟨w6,hw6⟩:∃w6,w5.alloc (.cells #[.string xs,.int .i64 xk] 102)=w6:=⟨_,rfl⟩;have b6:Below w5.heap.size w5 w6:=by rw [<- hw6];exact(Below.refl _ _).alloc (Nat.le_refl _) _
   have HK6:Hid (Bx2 w6 w5.heap.size (.string xs) (.int .i64 xk)):=hid (by rw [<- hw6];exact Bx2.made _ _ _ _);have HR6:=hid (HR5.out.same (fun b e=>b6.block b (HR5.out.mlt b e)) (b6.block _ HR5.out.lt));have HJ6:=hid (HJ5.out.below b6);have HJB6:=hid (HJB5.out.below b6);have HG6:Hid (w4.grownBy w6 (some x0.1)):=hid (HG5.out.trans (below_gr b6 _));have HV6:Hid (Below v0.heap.size v0 w6):=hid (HV4.out.grown HG6.out HV4.out.size (fun k e=>by have:=HX0.out;cases e;omega));have HNU:Hid (∀k,some x0.1=some k ->k≠w5.heap.size):=hid (fun k e=>by have h1:=HX0.out;have h2:=HS4.out;have h3:=HG5.out.size;cases e;omega);have HMN:Hid (∀b,a0=some b ->some x0.1≠some b):=hid (fun b e h=>HNA.out.2.2.1 (by rw [e,h]));have HIN:Hid (some x0.1≠some w4.heap.size):=hid (fun e=>by have h1:=HX0.out;have h2:=HS4.out;injection e with e;omega);clear hfx hnx hkl hrg hrg2 hlt2 hg2 hs2 hma b6;dsimp only [keyV,nodV] at hen ⊢;obtain⟨ya0,hya0⟩:∃u,mF (Na (z++[(xs,xk)]))=u:=⟨_,rfl⟩;obtain⟨ya1,hya1⟩:∃u,mS (Na (z++[(xs,xk)]))=u:=⟨_,rfl⟩;obtain⟨yb0,hyb0⟩:∃u,mF (Nb (z++[(xs,xk)]))=u:=⟨_,rfl⟩;obtain⟨yb1,hyb1⟩:∃u,mS (Nb (z++[(xs,xk)]))=u:=⟨_,rfl⟩;have HCA:Hid (∀w1,Below w6.heap.size w6 w1 ->Calls Tryz.prog 66 #[.agg #[.map a0,.map a1,.map (some na)],.agg #[.string xs,.int .i64 xk]] w1 fun e w'=>e=.returned (.agg #[.map ya0,.map ya1,.map (some na)])/\ Below w1.heap.size w1 w'):=hid (fun w1 b1=>by have:=HUA.out xs xk kl w1 (HV6.out.trans (b1.mono HV6.out.size)) HKL.out;rw [hya0,hya1] at this;exact this);have HCB:Hid (∀w1,Below w6.heap.size w6 w1 ->Calls Tryz.prog 66 #[.agg #[.map b0,.map b1,.map (some nb)],.agg #[.string xs,.int .i64 xk]] w1 fun e w'=>e=.returned (.agg #[.map yb0,.map yb1,.map (some nb)])/\ Below w1.heap.size w1 w'):=hid (fun w1 b1=>by have:=HUB.out xs xk kl w1 (HV6.out.trans (b1.mono HV6.out.size)) HKL.out;rw [hyb0,hyb1] at this;exact this);have HCJ:Hid (∀w1,Below w6.heap.size w6 w1 ->Calls Tryz.prog 40 #[.agg #[.map ya0,.map ya1,.map (some na)],.agg #[.map yb0,.map yb1,.map (some nb)]] w1 (JQ J (z++[(xs,xk)]) c' w1)):=hid (fun w1 b1=>by have:=HIH.out (xs,xk) HPR.out w1 (HV6.out.trans (b1.mono HV6.out.size));rw [hya0,hya1,hyb0,hyb1] at this;exact this);have HSE:Hid (∀w',Below w6.heap.size w6 w' ->(w'.cell? ⟨w1.heap.size,0,none⟩=some (.map (some x0.1))/\ w'.cell? ⟨w1.heap.size,1,none⟩=some (.map (some x0.2))/\ w'.cell? ⟨w5.heap.size,0,none⟩=some (.string xs)/\ w'.cell? ⟨w5.heap.size,1,none⟩=some (.int .i64 xk)/\ w'.cell? ⟨w.heap.size,0,none⟩=some (.map a0)/\ w'.cell? ⟨w.heap.size,1,none⟩=some (.map a1)/\ w'.cell? ⟨w.heap.size,2,none⟩=some (.map (some na))/\ w'.cell? ⟨w.heap.size+1,0,none⟩=some (.map b0)/\ w'.cell? ⟨w.heap.size+1,1,none⟩=some (.map b1)/\ w'.cell? ⟨w.heap.size+1,2,none⟩=some (.map (some nb)))):=hid (fun w1 b1=>(HJB6.out.below b1).sees (HK6.out.below b1 HK6.out.lt));have HHG:Hid (∀w9 x1 N1,Below w6.heap.size w6 w9 ->∀B,JF w9 B J (z++[(xs,xk)]) N1 c' x1 ->Calls Tryz.prog 65 #[.agg #[.map (some x0.1),.map (some x0.2)],.agg #[.string xs,.int .i64 xk],.agg #[.map (some x1.1),.map (some x1.2)]] w9 fun e w'=>e=.returned (.tuple #[])/\ w9.grownBy w' (some x0.1)/\
     (Bears (fun u=>N1 [u]) (Mk J J.length (z++[(xs,xk)])) ->MapF w' 102 keyV nodV x0.1 (c'+ds.length+1) (updF (fun u=>N [u]) (xs,xk) (some x1)))/\ (¬Bears (fun u=>N1 [u]) (Mk J J.length (z++[(xs,xk)])) ->Below w9.heap.size w9 w')):=hid (fun w9 x1 N1 b9 B h1=>by
    have hj:=HJ6.out.below b9;have h1':=h1.mono (show c'<=c'+ds.length by omega);exact hangC x0 x1 xs xk (c'+ds.length) (fun u=>N [u]) (fun u=>N1 [u]) (Mk J J.length (z++[(xs,xk)])) w9 kl HKL.out (hj.tre.kids [] x0 hj.root) (h1'.tre.kids [] x1 h1'.root) ((h1'.tre.marks [] x1 h1'.root).ext fun d=>by simp) HCC.out)
   clear hya0 hya1 hyb0 hyb1;go_wp2_with fail;refine wp_region_held_drew (S:=fun w'=>w'.cell? ⟨w1.heap.size,0,none⟩=some (.map (some x0.1))/\ w'.cell? ⟨w1.heap.size,1,none⟩=some (.map (some x0.2))/\ w'.cell? ⟨w5.heap.size,0,none⟩=some (.string xs)/\ w'.cell? ⟨w5.heap.size,1,none⟩=some (.int .i64 xk)/\ w'.cell? ⟨w.heap.size,0,none⟩=some (.map a0)/\ w'.cell? ⟨w.heap.size,1,none⟩=some (.map a1)/\ w'.cell? ⟨w.heap.size,2,none⟩=some (.map (some na))/\ w'.cell? ⟨w.heap.size+1,0,none⟩=some (.map b0)/\ w'.cell? ⟨w.heap.size+1,1,none⟩=some (.map b1)/\ w'.cell? ⟨w.heap.size+1,2,none⟩=some (.map (some nb))) (by kernel_rfl) (HSE.out _ (Below.refl _ _).drew) (fun hHeld=> ?_);refine tZ 0 27 ?_;refine tZ 1 28 ?_;refine tZ 2 29 ?_;refine tZ 3 30 ?_;refine tZ 5 32 ?_;refine tZ 6 33 ?_;refine cZ 4 ?_;intro K hK;go_simp;refine(HCA.out _ (Below.refl _ _).drew).mono ?_;rintro e w7 ⟨rfl,b7⟩;have b7':Below w6.heap.size w6 w7:=⟨b7.os,b7.tape,b7.output,b7.size,b7.block⟩;refine hK.out _ _ (HSE.out _ b7') (fun hHeld=> ?_);clear hK K;try simp only [Act.put,sZa,sZb,sZc]
   refine cZ 7 ?_;intro K hK;go_simp;refine(HCB.out _ b7').mono ?_;rintro e w8 ⟨rfl,b8⟩;have b8':=keepS b7' b8;refine hK.out _ _ (HSE.out _ b8') (fun hHeld=> ?_);clear hK K;try simp only [Act.put,sZa,sZb,sZc]
   refine cZ 8 ?_;intro K hK;go_simp;refine(HCJ.out _ b8').mono ?_;rintro e w9 ⟨⟨x1,N1,rfl,h1⟩,b9⟩;have b9':=keepS b8' b9;refine hK.out _ _ (HSE.out _ b9') (fun hHeld=> ?_);clear hK K;try simp only [Act.put,sZa,sZb,sZc]
   have HH1:=hid h1;clear h1;refine cZ 9 ?_;intro K hK;go_simp;refine(HHG.out w9 x1 N1 b9' _ HH1.out).mono ?_;rintro e w10 ⟨rfl,g10,hm10,hn10⟩;have HJB10:=hid ((HJB6.out.below b9').gr g10 HNE.out);refine hK.out _ _ (HJB10.out.sees ((HK6.out.below b9' HK6.out.lt).gr g10 HNU.out)) (fun hHeld=> ?_);clear hK K;try simp only [Act.put,sZa,sZb,sZc]
   refine wpAnyH_done (by kernel_rfl) ?_ _;obtain⟨N10,hJ10⟩:=(HJ6.out.below b8').round b9 (HH1.out.mono (show c'<=c'+ds.length by omega)) (Nat.le_trans (Nat.le_trans HSZ.out HG6.out.size) b8'.size) HNY.out g10 hm10 hn10;have HG10:Hid (w4.grownBy w10 (some x0.1)):=hid ((HG6.out.trans (below_gr b9' _)).trans g10);have HR10:=hid ((HR6.out.same (fun b e=>b9'.block b (HR6.out.mlt b e)) (b9'.block _ HR6.out.lt)).kept g10 HMN.out HIN.out);have HJ10:=hid hJ10;clear hHeld b7 b7' b8 b8' b9 b9' g10 hm10 hn10 hJ10 HSE HCA HCB HCJ HHG HH1;go_wp2_with fail;go_roundw;case rel=>exact⟨_,_,_,HR10.out,hid (by simpa [Nat.add_assoc] using HJ10.out.congr (fun u=>by simp)),HJB10,HG10⟩
   case measure=>exact HML.out w10 HR10.out
theorem joinTreesC {v0:World}{Na Nb:List Ky ->Option (Nat×Nat)}{MA MB:List Ky ->Dt ->Option ByteArray}{ca cb na nb:Nat}{hA hB:Dt ->Bool}{J:List Lf}(H:JH v0 Na Nb MA MB ca cb na nb hA hB J)(hd:∀p,(Na p≠none \/Nb p≠none) ->p.length<=8)(hc:10*(ca+cb)<=1048576):
  ∀d z,z.length+d=8 ->∀w,Below v0.heap.size v0 w ->Calls Tryz.prog 40 #[livV na (Na z),livV nb (Nb z)] w (JQ J z ((d+2)*(ca+cb)) w)
 | 0,z,hz,w,hw=>by
  have:=joinStep H z (ca+cb) (Nat.le_refl _) (by omega) (fun y hy=>absurd (hd _ hy) (by simp;omega)) w hw;rw [show (0+2)*(ca+cb)=ca+cb+(ca+cb) by omega];exact this
 | d+1,z,hz,w,hw=>by
  have e:(d+2)*(ca+cb)+(ca+cb)=(d+1+2)*(ca+cb):=by rw [show d+1+2=(d+2)+1 by omega,Nat.add_mul (d+2) 1,Nat.one_mul]
  have l1:(d+1+2)*(ca+cb)<=10*(ca+cb):=Nat.mul_le_mul_right _ (by omega);have l2:1*(ca+cb)<=(d+2)*(ca+cb):=Nat.mul_le_mul_right _ (by omega);rw [<- e];exact joinStep H z ((d+2)*(ca+cb)) (by omega) (by omega) (fun y hy=>joinTreesC H hd hc d (z++[y]) (by simp;omega)) w hw
end Go.Proofs.YtpfmeafmepgimaaGreat
