import Derived.Test.YtfidfeilljlbiaaGreatFrg07
import Derived.Laws.StructEq
import Derived.Deep.Slices
import Derived.Deep.Strs
import Derived.Maps.Own
import Derived.Maps.OwnSet
import Derived.Maps.OwnOps
import Derived.Maps.Views
import Derived.DeepKeys4
import Derived.Maps.Range
set_option linter.unusedVariables false
set_option linter.unusedSimpArgs false
set_option maxRecDepth 100000
set_option maxHeartbeats 40000000
namespace Go.Proofs.YtfidfeilljlbiaaGreat
open Go.ChangeShapes Go.WideShapes Go.ChangeAt Go.RowKit
def nz (f:Nat ->Int):Nat ->Nat ->Int
 | 0,_=>0
 | n+1,k=>if f k=0 then nz f n (k+1) else f k
theorem nz_step {f:Nat ->Int}{n k:Nat}(h:k<n):nz f (n - k) k=if f k=0 then nz f (n - (k+1)) (k+1) else f k:=by
 rw [show n - k=(n - (k+1))+1 by omega];rfl
theorem cmpOr (b n c:Nat)(f:Nat ->Int)(w:World)(hn:n<=1000)(h:∀i,i<n ->w.cell? ⟨b,i,none⟩=some (.int .i64 (f i))):
  Calls Tryz.prog 99 #[.slice (some ⟨b,0,none⟩) n c] w fun e w'=>e=.returned (.int .i64 (nz f n 0))/\ w'=w:=by
 go_enter Tryz.func99,Tryz.ntmps99;go_wp2_with fail;go_loop [8] (fun i=>∃k:Nat,k<=n/\ i=.int .i64 (k:Int)/\ Hid (nz f n 0=nz f (n - k) k)) (fun i=>n - (intOf i).toNat);case atStart=>exact⟨0,Nat.zero_le _,rfl,hid rfl⟩
 case round=>
  obtain⟨k,hk,rfl,HE⟩:=hrel;by_cases Ha:k<n
  ·have x0:=h k Ha;have i1:(0:Int)<=(k:Int):=Int.natCast_nonneg _;have i2:(k:Int)<(n:Int):=by omega
   have HG:Hid (nz f n 0=if f k=0 then nz f (n - (k+1)) (k+1) else f k):=hid (by rw [HE.out,nz_step Ha]);obtain⟨x,hx⟩:∃x,f k=x:=⟨_,rfl⟩;rw [hx] at x0 HG;clear h hx HE;by_cases h0:x=0
   ·subst h0;have HG:Hid (nz f n 0=nz f (n - (k+1)) (k+1)):=hid (by rw [HG.out,if_pos rfl]);go_wp2_with fail;go_round;case rel=>exact⟨k+1,Ha,by go_num,HG⟩
    case measure=>simp [intOf];omega
   ·have HG:Hid (nz f n 0=x):=hid (by rw [HG.out,if_neg h0]);have n0:(x !=0)=true:=by simpa using h0
    go_wp2_with fail;go_ret;exact⟨ret_i HG.out.symm,rfl⟩
  ·obtain rfl:k=n:=by omega
   have HG:Hid (nz f k 0=0):=hid (by rw [HE.out,Nat.sub_self];rfl);clear h HE;go_wp2_with fail;go_ret;exact⟨ret_i HG.out.symm,rfl⟩
def orI (x y:Int):Int:=if x=0 then y else x
theorem nz2 {f:Nat ->Int}:nz f 2 0=orI (f 0) (f 1):=by
 unfold orI nz;by_cases h:f 0=0
 ·rw [if_pos h,if_pos h];unfold nz;by_cases h1:f 1=0
  ·rw [if_pos h1,h1];rfl
  ·rw [if_neg h1]
 ·rw [if_neg h,if_neg h]
theorem nz3 {f:Nat ->Int}:nz f 3 0=orI (f 0) (orI (f 1) (f 2)):=by
 unfold orI nz;by_cases h:f 0=0
 ·rw [if_pos h,if_pos h];unfold nz;by_cases h1:f 1=0
  ·rw [if_pos h1,if_pos h1];unfold nz;by_cases h2:f 2=0
   ·rw [if_pos h2,h2];rfl
   ·rw [if_neg h2]
  ·rw [if_neg h1,if_neg h1]
 ·rw [if_neg h,if_neg h]
def kd (fl:Bool):Int:=if fl=true then 2 else 1
def cmpD (r q r' q':Int):Int:=orI (cmpI r r') (cmpI q q')
def cmpL (x y:Lf):Int:=orI (cmpP x.p y.p) (orI (cmpI (kd x.fl) (kd y.fl)) (cmpD x.r x.q y.r y.q))
theorem leafKind (v0:Value)(fl:Bool)(v2 v3 v4:Value)(w:World):Calls Tryz.prog 59 #[.agg #[v0,.bool fl,v2,v3,v4]] w fun e w'=>e=.returned (.int .i64 (kd fl))/\ Below w.heap.size w w':=by
 have HB:=hid (zO w (.cells #[v0,.bool fl,v2,v3,v4] 60));cases fl
 ·go_enter Tryz.func59,Tryz.ntmps59;go_wp2_with fail;go_ret;exact⟨rfl,HB.out⟩
 ·go_enter Tryz.func59,Tryz.ntmps59;go_wp2_with fail;go_ret;exact⟨rfl,HB.out⟩
theorem compareDots (r q r' q':Int)(w:World):Calls Tryz.prog 78 #[.agg #[.int .i64 r,.int .i64 q],.agg #[.int .i64 r',.int .i64 q']] w fun e w'=>e=.returned (.int .i64 (cmpD r q r' q'))/\ Below w.heap.size w w':=by
 obtain⟨W,hW⟩:∃W,(w.alloc (.cells #[.int .i64 r,.int .i64 q] 58)).alloc (.cells #[.int .i64 r',.int .i64 q'] 58)=W:=⟨_,rfl⟩;have b0:Below w.heap.size w W:=by rw [<- hW];exact below2 _ _ _
 have zW:W.heap.size=w.heap.size+2:=by rw [<- hW];simp
 have k0:W.cell? ⟨w.heap.size,0,none⟩=some (.int .i64 r):=by rw [<- hW];simp
 have k1:W.cell? ⟨w.heap.size,1,none⟩=some (.int .i64 q):=by rw [<- hW];simp
 have l0:W.cell? ⟨w.heap.size+1,0,none⟩=some (.int .i64 r'):=by rw [<- hW];simp
 have l1:W.cell? ⟨w.heap.size+1,1,none⟩=some (.int .i64 q'):=by rw [<- hW];simp
 have Ha:=hid b0;have z0:w.heap.size<W.heap.size:=by omega
 have z1:w.heap.size+1<W.heap.size:=by omega
 clear b0 zW;go_enter Tryz.func78,Tryz.ntmps78;go_wp2_with fail;try rw [hW]
 clear hW;have CS:∀w',Below W.heap.size W w' ->(Below W.heap.size W w'/\ w'.cell? ⟨w.heap.size,0,none⟩=some (.int .i64 r)/\ w'.cell? ⟨w.heap.size,1,none⟩=some (.int .i64 q)/\ w'.cell? ⟨w.heap.size+1,0,none⟩=some (.int .i64 r')/\ w'.cell? ⟨w.heap.size+1,1,none⟩=some (.int .i64 q')):=fun w' hB=>⟨hB,(hB.cell (p:=⟨w.heap.size,0,none⟩) z0).trans k0,(hB.cell (p:=⟨w.heap.size,1,none⟩) z0).trans k1,(hB.cell (p:=⟨w.heap.size+1,0,none⟩) z1).trans l0,(hB.cell (p:=⟨w.heap.size+1,1,none⟩) z1).trans l1⟩;have Hb:=hid CS;clear CS;refine zR (S:=fun w'=>Below W.heap.size W w'/\ w'.cell? ⟨w.heap.size,0,none⟩=some (.int .i64 r)/\ w'.cell? ⟨w.heap.size,1,none⟩=some (.int .i64 q)/\ w'.cell? ⟨w.heap.size+1,0,none⟩=some (.int .i64 r')/\ w'.cell? ⟨w.heap.size+1,1,none⟩=some (.int .i64 q')) (Hb.out _ zI.drew) (fun qh=> ?_);refine tZ 0 5 ?_;refine tZ 1 6 ?_;refine tZ 2 7 ?_;refine tZ 3 8 ?_;refine tZ 5 10 ?_;refine tZ 6 11 ?_;refine tZ 7 12 ?_;refine tZ 8 13 ?_;refine cZ 4 ?_;intro K hK;go_simp;refine(compare r r' _).mono ?_;rintro e w1 ⟨rfl,rfl⟩;refine hK.out _ _ qh (fun qh=> ?_);clear hK K;try simp only [zP]
 refine cZ 9 ?_;intro K hK;go_simp;refine(compare q q' _).mono ?_;rintro e w2 ⟨rfl,rfl⟩;refine hK.out _ _ qh (fun qh=> ?_);clear hK K;try simp only [zP]
 refine cZ 10 ?_;intro K hK;go_simp;have hB:=qh.1.alloc qh.1.size (.cells #[.int .i64 (cmpI r r'),.int .i64 (cmpI q q')] 3);refine hK.out _ _ (Hb.out _ hB) (fun qh=> ?_);clear hK K;try simp only [zP]
 refine cZ 11 ?_;intro K hK;go_simp;refine(cmpOr _ 2 2 (fun i=>if i=0 then cmpI r r' else cmpI q q') _ (by omega) (fun i hi=> ?_)).mono ?_
 ·match i,hi with
  | 0,_=>simp
  | 1,_=>simp
 rintro e w3 ⟨rfl,rfl⟩;refine hK.out _ _ qh (fun qh=> ?_);clear hK K;try simp only [zP]
 refine tZ 12 4 ?_;refine zD ?_;have HB:=hid (Ha.out.trans (qh.1.mono Ha.out.size));clear qh hB;go_wp2_with fail;go_ret;exact⟨ret_i nz2,HB.out⟩
theorem compareLeaves (a a':Option Addr)(c c':Nat)(p p':List ByteArray)(fl fl':Bool)(r q r' q':Int)(v v':ByteArray)(w:World)(hn:p.length<=1048576)(hn':p'.length<=1048576)(h:SSeg w a p)(h':SSeg w a' p'):
  Calls Tryz.prog 116 #[.agg #[.slice a p.length c,.bool fl,.int .i64 r,.int .i64 q,.string v],.agg #[.slice a' p'.length c',.bool fl',.int .i64 r',.int .i64 q',.string v']] w fun e w'=>e=.returned (.int .i64 (cmpL ⟨p,fl,r,q,v⟩ ⟨p',fl',r',q',v'⟩))/\ Below w.heap.size w w':=by
 obtain⟨W,hW⟩:∃W,(w.alloc (.cells #[.slice a p.length c,.bool fl,.int .i64 r,.int .i64 q,.string v] 60)).alloc (.cells #[.slice a' p'.length c',.bool fl',.int .i64 r',.int .i64 q',.string v'] 60)=W:=⟨_,rfl⟩;have b0:Below w.heap.size w W:=by rw [<- hW];exact below2 _ _ _
 have zW:W.heap.size=w.heap.size+2:=by rw [<- hW];simp
 have k0:W.cell? ⟨w.heap.size,0,none⟩=some (.slice a p.length c):=by rw [<- hW];simp
 have k1:W.cell? ⟨w.heap.size,1,none⟩=some (.bool fl):=by rw [<- hW];simp
 have k2:W.cell? ⟨w.heap.size,2,none⟩=some (.int .i64 r):=by rw [<- hW];simp
 have k3:W.cell? ⟨w.heap.size,3,none⟩=some (.int .i64 q):=by rw [<- hW];simp
 have k4:W.cell? ⟨w.heap.size,4,none⟩=some (.string v):=by rw [<- hW];simp
 have l0:W.cell? ⟨w.heap.size+1,0,none⟩=some (.slice a' p'.length c'):=by rw [<- hW];simp
 have l1:W.cell? ⟨w.heap.size+1,1,none⟩=some (.bool fl'):=by rw [<- hW];simp
 have l2:W.cell? ⟨w.heap.size+1,2,none⟩=some (.int .i64 r'):=by rw [<- hW];simp
 have l3:W.cell? ⟨w.heap.size+1,3,none⟩=some (.int .i64 q'):=by rw [<- hW];simp
 have l4:W.cell? ⟨w.heap.size+1,4,none⟩=some (.string v'):=by rw [<- hW];simp
 have Hb:=hid b0;have z0:w.heap.size<W.heap.size:=by omega
 have z1:w.heap.size+1<W.heap.size:=by omega
 have HS:=hid (h.below b0);have Hf:=hid (h'.below b0);clear b0 zW h h';go_enter Tryz.func116,Tryz.ntmps116;go_wp2_with fail;try rw [hW]
 clear hW;have CS:∀w',Below W.heap.size W w' ->(Below W.heap.size W w'/\ w'.cell? ⟨w.heap.size,0,none⟩=some (.slice a p.length c)/\ w'.cell? ⟨w.heap.size,1,none⟩=some (.bool fl)/\ w'.cell? ⟨w.heap.size,2,none⟩=some (.int .i64 r)/\ w'.cell? ⟨w.heap.size,3,none⟩=some (.int .i64 q)/\ w'.cell? ⟨w.heap.size,4,none⟩=some (.string v)/\ w'.cell? ⟨w.heap.size+1,0,none⟩=some (.slice a' p'.length c')/\ w'.cell? ⟨w.heap.size+1,1,none⟩=some (.bool fl')/\ w'.cell? ⟨w.heap.size+1,2,none⟩=some (.int .i64 r')/\ w'.cell? ⟨w.heap.size+1,3,none⟩=some (.int .i64 q')/\ w'.cell? ⟨w.heap.size+1,4,none⟩=some (.string v')):=fun w' hB=>⟨hB,(hB.cell (p:=⟨w.heap.size,0,none⟩) z0).trans k0,(hB.cell (p:=⟨w.heap.size,1,none⟩) z0).trans k1,(hB.cell (p:=⟨w.heap.size,2,none⟩) z0).trans k2,(hB.cell (p:=⟨w.heap.size,3,none⟩) z0).trans k3,(hB.cell (p:=⟨w.heap.size,4,none⟩) z0).trans k4,(hB.cell (p:=⟨w.heap.size+1,0,none⟩) z1).trans l0,(hB.cell (p:=⟨w.heap.size+1,1,none⟩) z1).trans l1,(hB.cell (p:=⟨w.heap.size+1,2,none⟩) z1).trans l2,(hB.cell (p:=⟨w.heap.size+1,3,none⟩) z1).trans l3,(hB.cell (p:=⟨w.heap.size+1,4,none⟩) z1).trans l4⟩;have Ha:=hid CS;clear CS;refine zR (S:=fun w'=>Below W.heap.size W w'/\ w'.cell? ⟨w.heap.size,0,none⟩=some (.slice a p.length c)/\ w'.cell? ⟨w.heap.size,1,none⟩=some (.bool fl)/\ w'.cell? ⟨w.heap.size,2,none⟩=some (.int .i64 r)/\ w'.cell? ⟨w.heap.size,3,none⟩=some (.int .i64 q)/\ w'.cell? ⟨w.heap.size,4,none⟩=some (.string v)/\ w'.cell? ⟨w.heap.size+1,0,none⟩=some (.slice a' p'.length c')/\ w'.cell? ⟨w.heap.size+1,1,none⟩=some (.bool fl')/\ w'.cell? ⟨w.heap.size+1,2,none⟩=some (.int .i64 r')/\ w'.cell? ⟨w.heap.size+1,3,none⟩=some (.int .i64 q')/\ w'.cell? ⟨w.heap.size+1,4,none⟩=some (.string v')) (Ha.out _ zI.drew) (fun qh=> ?_);refine tZ 0 5 ?_;refine tZ 1 6 ?_;refine tZ 2 7 ?_;refine tZ 3 8 ?_;refine tZ 5 10 ?_;refine tZ 7 12 ?_;refine tZ 10 15 ?_;refine tZ 11 16 ?_;refine tZ 12 17 ?_;refine tZ 13 18 ?_;refine cZ 4 ?_;intro K hK;go_simp;refine(cmpImpl p p' a a' c c' _ hn hn' (HS.out.below qh.1) (Hf.out.below qh.1)).mono ?_;rintro e w1 ⟨rfl,rfl⟩;refine hK.out _ _ qh (fun qh=> ?_);clear hK K;try simp only [zP]
 refine cZ 6 ?_;intro K hK;go_simp;refine(leafKind _ fl _ _ _ _).mono ?_;rintro e w2 ⟨rfl,b2⟩;have Hc:=qh.1.trans (b2.mono qh.1.size);refine hK.out _ _ (Ha.out _ Hc) (fun qh=> ?_);clear hK K;try simp only [zP]
 refine cZ 8 ?_;intro K hK;go_simp;refine(leafKind _ fl' _ _ _ _).mono ?_;rintro e w3 ⟨rfl,b3⟩;have Hd:=qh.1.trans (b3.mono qh.1.size);refine hK.out _ _ (Ha.out _ Hd) (fun qh=> ?_);clear hK K;try simp only [zP]
 refine cZ 9 ?_;intro K hK;go_simp;refine(compare (kd fl) (kd fl') _).mono ?_;rintro e w4 ⟨rfl,rfl⟩;refine hK.out _ _ qh (fun qh=> ?_);clear hK K;try simp only [zP]
 refine cZ 14 ?_;intro K hK;go_simp;refine(compareDots r q r' q' _).mono ?_;rintro e w5 ⟨rfl,b5⟩;have He:=qh.1.trans (b5.mono qh.1.size);refine hK.out _ _ (Ha.out _ He) (fun qh=> ?_);clear hK K;try simp only [zP]
 refine cZ 15 ?_;intro K hK;go_simp;have hB:=qh.1.alloc qh.1.size (.cells #[.int .i64 (cmpP p p'),.int .i64 (cmpI (kd fl) (kd fl')),.int .i64 (cmpD r q r' q')] 3);refine hK.out _ _ (Ha.out _ hB) (fun qh=> ?_);clear hK K;try simp only [zP]
 refine cZ 16 ?_;intro K hK;go_simp;refine(cmpOr _ 3 3 (fun i=>if i=0 then cmpP p p' else if i=1 then cmpI (kd fl) (kd fl') else cmpD r q r' q') _ (by omega) (fun i hi=> ?_)).mono ?_
 ·match i,hi with
  | 0,_=>simp
  | 1,_=>simp
  | 2,_=>simp
 rintro e w6 ⟨rfl,rfl⟩;refine hK.out _ _ qh (fun qh=> ?_);clear hK K;try simp only [zP]
 refine tZ 17 4 ?_;refine zD ?_;have HB:=hid (Hb.out.trans (qh.1.mono Hb.out.size));clear qh hB He Hd Hc b5 b3 b2;go_wp2_with fail;go_ret;exact⟨ret_i nz3,HB.out⟩
theorem yes_d {P:Prop} [Decidable P]:yes P=decide P:=by
 by_cases h:P
 ·rw [yes_t h,decide_eq_true h]
 ·rw [yes_f h,decide_eq_false h]
theorem cmpI_neg {x y:Int}:cmpI x y<0↔x<y:=by unfold cmpI;split<;>(try split)<;>omega
theorem cmpI_z {x y:Int}:cmpI x y=0↔x=y:=by unfold cmpI;split<;>(try split)<;>omega
theorem befF {p p':List ByteArray}{fl fl':Bool}{r q r' q':Int}{v v':ByteArray}:
  (cmpP p p'≠0 ->yes (cmpL ⟨p,fl,r,q,v⟩ ⟨p',fl',r',q',v'⟩<0)=decide (cmpP p p'<0))/\
  (cmpP p p'=0 ->fl≠fl' ->yes (cmpL ⟨p,fl,r,q,v⟩ ⟨p',fl',r',q',v'⟩<0)=fl')/\
  (cmpP p p'=0 ->fl=fl' ->r≠r' ->yes (cmpL ⟨p,fl,r,q,v⟩ ⟨p',fl',r',q',v'⟩<0)=decide (r<r'))/\
  (cmpP p p'=0 ->fl=fl' ->r=r' ->yes (cmpL ⟨p,fl,r,q,v⟩ ⟨p',fl',r',q',v'⟩<0)=decide (q<q')):=by
 refine⟨fun h=> ?_,fun h hf=> ?_,fun h hf hr=> ?_,fun h hf hr=> ?_⟩
 ·rw [yes_d];simp only [cmpL,orI,if_neg h]
 ·have e:cmpL ⟨p,fl,r,q,v⟩ ⟨p',fl',r',q',v'⟩=cmpI (kd fl) (kd fl'):=by
   have:cmpI (kd fl) (kd fl')≠0:=by rw [Ne,cmpI_z];cases fl<;>cases fl'<;>simp_all [kd]
   simp only [cmpL,orI,if_pos h,if_neg this]
  rw [e,yes_d];cases fl<;>cases fl'<;>simp_all [kd,cmpI]
 ·have e:cmpL ⟨p,fl,r,q,v⟩ ⟨p',fl',r',q',v'⟩=cmpI r r':=by
   have h1:cmpI (kd fl) (kd fl')=0:=by rw [cmpI_z,hf]
   have h2:cmpI r r'≠0:=by rw [Ne,cmpI_z];exact hr
   simp only [cmpL,orI,if_pos h,if_pos h1,cmpD,if_neg h2]
  rw [e,yes_d];exact decide_eq_decide.2 cmpI_neg
 ·have e:cmpL ⟨p,fl,r,q,v⟩ ⟨p',fl',r',q',v'⟩=cmpI q q':=by
   have h1:cmpI (kd fl) (kd fl')=0:=by rw [cmpI_z,hf]
   have h2:cmpI r r'=0:=by rw [cmpI_z];exact hr
   simp only [cmpL,orI,if_pos h,if_pos h1,cmpD,if_pos h2]
  rw [e,yes_d];exact decide_eq_decide.2 cmpI_neg
theorem l3Before (a a':Option Addr)(c c':Nat)(p p':List ByteArray)(fl fl':Bool)(r q r' q':Int)(v v':ByteArray)(w:World)(hn:p.length<=1048576)(hn':p'.length<=1048576)(hc:p.length<=c)(hc':p'.length<=c')(hx:c<=9223372036854775807)(hx':c'<=9223372036854775807)(h:SSeg w a p)(h':SSeg w a' p'):
  Calls Tryz.prog 40 #[.agg #[.slice a p.length c,.bool fl,.int .i64 r,.int .i64 q,.string v],.agg #[.slice a' p'.length c',.bool fl',.int .i64 r',.int .i64 q',.string v']] w fun e w'=>e=.returned (.bool (yes (cmpL ⟨p,fl,r,q,v⟩ ⟨p',fl',r',q',v'⟩<0)))/\ Below w.heap.size w w':=by
 obtain⟨W,hW⟩:∃W,(w.alloc (.cells #[.slice a p.length c,.bool fl,.int .i64 r,.int .i64 q,.string v] 60)).alloc (.cells #[.slice a' p'.length c',.bool fl',.int .i64 r',.int .i64 q',.string v'] 60)=W:=⟨_,rfl⟩;have b0:Below w.heap.size w W:=by rw [<- hW];exact below2 _ _ _
 have zW:W.heap.size=w.heap.size+2:=by rw [<- hW];simp
 have k0:W.cell? ⟨w.heap.size,0,none⟩=some (.slice a p.length c):=by rw [<- hW];simp
 have k1:W.cell? ⟨w.heap.size,1,none⟩=some (.bool fl):=by rw [<- hW];simp
 have k2:W.cell? ⟨w.heap.size,2,none⟩=some (.int .i64 r):=by rw [<- hW];simp
 have k3:W.cell? ⟨w.heap.size,3,none⟩=some (.int .i64 q):=by rw [<- hW];simp
 have k4:W.cell? ⟨w.heap.size,4,none⟩=some (.string v):=by rw [<- hW];simp
 have l0:W.cell? ⟨w.heap.size+1,0,none⟩=some (.slice a' p'.length c'):=by rw [<- hW];simp
 have l1:W.cell? ⟨w.heap.size+1,1,none⟩=some (.bool fl'):=by rw [<- hW];simp
 have l2:W.cell? ⟨w.heap.size+1,2,none⟩=some (.int .i64 r'):=by rw [<- hW];simp
 have l3:W.cell? ⟨w.heap.size+1,3,none⟩=some (.int .i64 q'):=by rw [<- hW];simp
 have l4:W.cell? ⟨w.heap.size+1,4,none⟩=some (.string v'):=by rw [<- hW];simp
 have Ha:=hid b0;have z0:w.heap.size<W.heap.size:=by omega
 have z1:w.heap.size+1<W.heap.size:=by omega
 have HS:=hid (cmpSpec p p' a a' c c' W hc hc' hx hx' (h.below b0) (h'.below b0));obtain⟨F1,F2,F3,F4⟩:=@befF p p' fl fl' r q r' q' v v';have H1:=hid F1;have H2:=hid F2;have H3:=hid F3;have H4:=hid F4;obtain⟨B,hB⟩:∃B,yes (cmpL ⟨p,fl,r,q,v⟩ ⟨p',fl',r',q',v'⟩<0)=B:=⟨_,rfl⟩;obtain⟨x,hx⟩:∃x,cmpP p p'=x:=⟨_,rfl⟩;rw [hB] at H1 H2 H3 H4;rw [hx] at H1 H2 H3 H4 HS;rw [hB];clear b0 zW h h' F1 F2 F3 F4 hB hx;go_enter Tryz.func40,Tryz.ntmps40;go_wp2_with fail;try rw [hW]
 clear hW;refine HS.out.mono ?_;rintro e w1 ⟨rfl,k,hk⟩;have Hc:w1.cell? ⟨w.heap.size,1,none⟩=some (.bool fl):=by rw [hk];exact k1
 have Hd:w1.cell? ⟨w.heap.size,2,none⟩=some (.int .i64 r):=by rw [hk];exact k2
 have He:w1.cell? ⟨w.heap.size,3,none⟩=some (.int .i64 q):=by rw [hk];exact k3
 have Hf:w1.cell? ⟨w.heap.size+1,1,none⟩=some (.bool fl'):=by rw [hk];exact l1
 have Hg:w1.cell? ⟨w.heap.size+1,2,none⟩=some (.int .i64 r'):=by rw [hk];exact l2
 have Hh:w1.cell? ⟨w.heap.size+1,3,none⟩=some (.int .i64 q'):=by rw [hk];exact l3
 have Hb:Hid (Below w.heap.size w w1):=hid (by rw [hk];exact⟨Ha.out.os,Ha.out.tape,Ha.out.output,Ha.out.size,Ha.out.block⟩);clear hk k0 k1 k2 k3 k4 l0 l1 l2 l3 l4 HS z0 z1 Ha;by_cases h0:x=0
 ·have e0:(x !=0)=false:=by simp [h0]
  by_cases h1:fl=fl'
  ·have e1:(fl !=fl')=false:=by simp [h1]
   by_cases h2:r=r'
   ·have e2:(r !=r')=false:=by simp [h2]
    have HG:=hid (H4.out h0 h1 h2);clear H1 H2 H3 H4;go_wp2_with fail;go_ret;exact⟨ret_b HG.out.symm,Hb.out⟩
   ·have e2:(r !=r')=true:=by simpa using h2
    have HG:=hid (H3.out h0 h1 h2);clear H1 H2 H3 H4;go_wp2_with fail;go_ret;exact⟨ret_b HG.out.symm,Hb.out⟩
  ·have e1:(fl !=fl')=true:=by simpa using h1
   have HG:=hid (H2.out h0 h1);clear H1 H2 H3 H4 e1;cases fl<;>cases fl'<;>first
    | exact absurd rfl h1
    | (clear h1;go_wp2_with fail;go_ret;exact⟨ret_b HG.out.symm,Hb.out⟩)
 ·have e0:(x !=0)=true:=by simpa using h0
  have HG:=hid (H1.out h0);clear H1 H2 H3 H4;go_wp2_with fail;go_ret;exact⟨ret_b HG.out.symm,Hb.out⟩
def emB (v:ByteArray):Bool:=v.toList.isEmpty
def LfOk1 (x:Lf):Prop:=PthOk x.p/\ x.v.size<=200/\ (x.fl=true ->emB x.v=true)
theorem leafOk (a:Option Addr)(c:Nat)(p:List ByteArray)(fl:Bool)(r q:Int)(v:ByteArray)(w:World)(hn:p.length<=1048576)(h:SSeg w a p):
  Calls Tryz.prog 114 #[.agg #[.slice a p.length c,.bool fl,.int .i64 r,.int .i64 q,.string v]] w fun e w'=>e=.returned (.bool (yes (LfOk1 ⟨p,fl,r,q,v⟩)))/\ Below w.heap.size w w':=by
 obtain⟨W,hW⟩:∃W,w.alloc (.cells #[.slice a p.length c,.bool fl,.int .i64 r,.int .i64 q,.string v] 60)=W:=⟨_,rfl⟩;have b0:Below w.heap.size w W:=by rw [<- hW];exact zO _ _
 have k0:W.cell? ⟨w.heap.size,0,none⟩=some (.slice a p.length c):=by rw [<- hW];simp
 have k1:W.cell? ⟨w.heap.size,1,none⟩=some (.bool fl):=by rw [<- hW];simp
 have k4:W.cell? ⟨w.heap.size,4,none⟩=some (.string v):=by rw [<- hW];simp
 have HS:=hid (pathImpl p a c W hn (h.below b0));have Hb:=hid b0;obtain⟨B,hB⟩:∃B,yes (LfOk1 ⟨p,fl,r,q,v⟩)=B:=⟨_,rfl⟩;have HE:=hid hB;rw [hB];clear b0 h hB;by_cases Ha:fl=true/\ emB v=false
 ·have e0:v.toList.isEmpty=false:=Ha.2;have HG:Hid (B=false):=hid (by rw [<- HE.out];exact yes_f (fun h=>by have:=h.2.2 Ha.1;simp only at this;rw [Ha.2] at this;cases this));obtain⟨rfl,_⟩:=Ha;go_enter Tryz.func114,Tryz.ntmps114;go_wp2_with fail;try rw [hW]
  clear hW;go_wp2_with fail;go_ret;exact⟨ret_b HG.out.symm,Hb.out⟩
 ·have HG:Hid (B=(yes (PthOk p) && decide (v.size<=200))):=hid (by
   rw [<- HE.out];have hi:fl=true ->emB v=true:=fun e=>by
    by_cases h:emB v=true
    ·exact h
    ·exact absurd ⟨e,by simpa using h⟩ Ha
   by_cases h1:PthOk p
   ·by_cases h2:v.size<=200
    ·rw [yes_t ⟨h1,h2,hi⟩,yes_t h1,decide_eq_true h2];rfl
    ·rw [yes_f (fun h=>h2 h.2.1),yes_t h1,decide_eq_false h2];rfl
   ·rw [yes_f (fun h=>h1 h.1),yes_f h1];rfl)
  obtain⟨Y,hY⟩:∃Y,yes (PthOk p)=Y:=⟨_,rfl⟩;rw [hY] at HG HS;clear hY HE;have Hc:decide ((v.size:Int)<=200)=decide (v.size<=200):=decide_eq_decide.2 (by omega);obtain⟨Z,hZ⟩:∃Z,decide (v.size<=200)=Z:=⟨_,rfl⟩;rw [hZ] at HG Hc;clear hZ;have Hd:∀(Y Z:Bool),B=(Y && Z) ->Y=false ->B=false:=fun Y Z h h1=>by rw [h,h1];rfl
  have HF:=hid Hd;clear Hd;cases fl with
  | false=>
   clear Ha;go_enter Tryz.func114,Tryz.ntmps114;go_wp2_with fail;try rw [hW]
   clear hW;go_wp2_with fail;refine HS.out.mono ?_;rintro e w1 ⟨rfl,rfl⟩;cases Y with
   | true=>
    go_wp2_with fail;go_ret;exact⟨ret_b (by rw [HG.out];simp [Hc]),Hb.out⟩
   | false=>
    go_wp2_with fail;go_ret;exact⟨ret_b (by rw [HG.out];rfl),Hb.out⟩
  | true=>
   have e0:v.toList.isEmpty=true:=by
    by_cases h:emB v=true
    ·exact h
    ·exact absurd ⟨rfl,by simpa using h⟩ Ha
   clear Ha;go_enter Tryz.func114,Tryz.ntmps114;go_wp2_with fail;try rw [hW]
   clear hW;go_wp2_with fail;refine HS.out.mono ?_;rintro e w1 ⟨rfl,rfl⟩;cases Y with
   | true=>
    go_wp2_with fail;go_ret;exact⟨ret_b (by rw [HG.out];simp [Hc]),Hb.out⟩
   | false=>
    go_wp2_with fail;go_ret;exact⟨ret_b (by rw [HG.out];rfl),Hb.out⟩
theorem dotF:Tryz.prog.fieldsOf 58=match Tryz.prog.underlying 58 with|some (.struct fs)=>fs|_=>#[]:=rfl
theorem dotStood:Tryz.prog.stoodInHeld 58=false:=by kernel_rfl
theorem dotGuard:Tryz.prog.eqGuardType Tryz.prog.depth 58=false:=by kernel_rfl
theorem eqlDot (r q r' q':Int)(w:World):(binOp .eql 58 (.agg #[.int .i64 r,.int .i64 q]) (.agg #[.int .i64 r',.int .i64 q'])).run Tryz.prog w=.ok (.bool (r==r' && q==q')) w:=by
 rw [run_eql_struct,show (10000:Nat)=9999+1 from rfl,run_equalIn_agg _ _ _ _ _ (by kernel_rfl) dotStood,dotF,Tryz.underlying58];cases h1:(r==r')<;>simp [Op.eqFields,go_sem,Tryz.underlying3,h1];by_cases h2:q=q'<;>simp [h2]
theorem Bx5.set2 {w:World}{b:Nat}{v0 v1 v2 v3 v4:Value}(h:Bx5 w b v0 v1 v2 v3 v4)(u:Value):Bx5 (w.setCell ⟨b,2,none⟩ u) b v0 v1 u v3 v4:=
 ⟨by simp [World.cell?_setCell_other,h.c0],by simp [World.cell?_setCell_other,h.c1],World.cell?_setCell_same _ _ _ h.c2,by simp [World.cell?_setCell_other,h.c3],by simp [World.cell?_setCell_other,h.c4],fun i=>by rw [World.frozen?_setCell];exact h.f i,by simp [World.setCell];exact h.lt⟩
theorem Bx5.set3 {w:World}{b:Nat}{v0 v1 v2 v3 v4:Value}(h:Bx5 w b v0 v1 v2 v3 v4)(u:Value):Bx5 (w.setCell ⟨b,3,none⟩ u) b v0 v1 v2 u v4:=
 ⟨by simp [World.cell?_setCell_other,h.c0],by simp [World.cell?_setCell_other,h.c1],by simp [World.cell?_setCell_other,h.c2],World.cell?_setCell_same _ _ _ h.c3,by simp [World.cell?_setCell_other,h.c4],fun i=>by rw [World.frozen?_setCell];exact h.f i,by simp [World.setCell];exact h.lt⟩
theorem Bx5.set4 {w:World}{b:Nat}{v0 v1 v2 v3 v4:Value}(h:Bx5 w b v0 v1 v2 v3 v4)(u:Value):Bx5 (w.setCell ⟨b,4,none⟩ u) b v0 v1 v2 v3 u:=
 ⟨by simp [World.cell?_setCell_other,h.c0],by simp [World.cell?_setCell_other,h.c1],by simp [World.cell?_setCell_other,h.c2],by simp [World.cell?_setCell_other,h.c3],World.cell?_setCell_same _ _ _ h.c4,fun i=>by rw [World.frozen?_setCell];exact h.f i,by simp [World.setCell];exact h.lt⟩
def LvOk (R F T:Nat ->Int)(n:Nat)(l:List Lf)(k:Nat):Prop:=∀i,i<k ->LfOk1 (gL l i)/\ hasK R F T (gL l i).r (gL l i).q (gL l i).q n=true/\ (0<i ->cmpL (gL l (i - 1)) (gL l i)<0)
def Dif (x y:Lf):Prop:=¬(x.r=y.r/\ x.q=y.q)
def Dis (l:List Lf)(k:Nat):Prop:=∀i,i<k ->∀j,j<i ->Dif (gL l j) (gL l i)
def StOk (R F T:Nat ->Int)(n:Nat)(l:List Lf):Prop:=ctxB R F T n=true/\ l.length<=1000/\ LvOk R F T n l l.length/\ Dis l l.length
theorem LvOk.step {R F T:Nat ->Int}{n:Nat}{l:List Lf}{k:Nat}(h:LvOk R F T n l k)(h1:LfOk1 (gL l k))(h2:hasK R F T (gL l k).r (gL l k).q (gL l k).q n=true)(h3:0<k ->cmpL (gL l (k - 1)) (gL l k)<0):LvOk R F T n l (k+1):=fun i hi=>by
 by_cases e:i=k
 ·subst e;exact⟨h1,h2,h3⟩
 ·exact h i (by omega)
theorem Dis.step {l:List Lf}{k:Nat}(h:Dis l k)(h1:∀j,j<k ->Dif (gL l j) (gL l k)):Dis l (k+1):=fun i hi j hj=>by
 by_cases e:i=k
 ·subst e;exact h1 j hj
 ·exact h i (by omega) j hj
theorem below_drewS {B:Nat}{a w:World}(h:Below B a w)(n:Nat):Below B a (w.drewN n):=⟨h.os,h.tape,h.output,h.size,h.block⟩
theorem specStateOk (a:Option Addr)(c:Nat)(l:List Lf)(x:Option Addr)(n d:Nat)(R F T:Nat ->Int)(w:World)(hn:l.length<=1048576)(hp:LBd l)(hm:n<=1048576)(h:LCap w a l)(h':RSeg w x n R F T):
  Calls Tryz.prog 14 #[.agg #[.slice a l.length c,.slice x n d]] w fun e w'=>e=.returned (.bool (yes (StOk R F T n l)))/\ Below w.heap.size w w':=by
 obtain⟨W,hW⟩:∃W,w.alloc (.cells #[.slice a l.length c,.slice x n d] 28)=W:=⟨_,rfl⟩;have b0:Below w.heap.size w W:=by rw [<- hW];exact zO _ _
 have zW:w.heap.size<W.heap.size:=by rw [<- hW];simp
 have k0:W.cell? ⟨w.heap.size,0,none⟩=some (.slice a l.length c):=by rw [<- hW];simp
 have k1:W.cell? ⟨w.heap.size,1,none⟩=some (.slice x n d):=by rw [<- hW];simp
 have HC:=hid (specOk x n d R F T W hm (h'.below b0));have HL:=hid (h.below b0);have HR:=hid (h'.below b0);have Gk:=hid b0;clear h h' b0;obtain⟨Y,hY⟩:∃Y,yes (StOk R F T n l)=Y:=⟨_,rfl⟩;have HY:=hid hY;rw [hY];clear hY;go_enter Tryz.func14,Tryz.ntmps14;go_wp2_with fail;try rw [hW]
 clear hW;refine HC.out.mono ?_;rintro e w1 ⟨rfl,b1⟩;have m0:=(b1.cell (p:=⟨w.heap.size,0,none⟩) zW).trans k0;have m1:=(b1.cell (p:=⟨w.heap.size,1,none⟩) zW).trans k1;have Hg:=hid (Gk.out.trans (b1.mono Gk.out.size));have Go:=hid (HL.out.below b1);have Gp:=hid (HR.out.below b1);have z1:w.heap.size<w1.heap.size:=Nat.lt_of_lt_of_le zW b1.size;clear HC HL HR Gk k0 k1 zW b1;obtain⟨C,hC⟩:∃C,ctxB R F T n=C:=⟨_,rfl⟩;have HC:=hid hC;rw [hC];clear hC;cases C with
 | false=>
  have HF:Hid (Y=false):=hid (by rw [<- HY.out];exact yes_f (fun h=>by have:=h.1;rw [HC.out] at this;cases this));go_wp2_with fail;go_ret;exact⟨ret_b HF.out.symm,Hg.out⟩
 | true=>
  by_cases Ge:(1000:Int)<(l.length:Int)
  ·have d0:decide ((1000:Int)<(l.length:Int))=true:=by simpa using Ge
   have HF:Hid (Y=false):=hid (by rw [<- HY.out];exact yes_f (fun h=>by have:=h.2.1;omega));go_wp2_with fail;go_ret;exact⟨ret_b HF.out.symm,Hg.out⟩
  ·have d0:decide ((1000:Int)<(l.length:Int))=false:=by simpa using Ge
   go_wp2_with fail;clear d0;go_loopw [3] (fun i wr=>∃k:Nat,k<=l.length/\ i=.int .i64 k/\ Hid (Below w1.heap.size w1 wr)/\ Hid (LvOk R F T n l k/\ Dis l k)) (fun i _=>l.length - (intOf i).toNat);case atStart=>exact⟨0,Nat.zero_le _,rfl,hid zI,hid ⟨fun i hi=>by omega,fun i hi=>by omega⟩⟩
   case round=>
    obtain⟨k,hk,rfl,Hr,HI⟩:=hrel;have r0:=(Hr.out.cell (p:=⟨w.heap.size,0,none⟩) z1).trans m0;have r1:=(Hr.out.cell (p:=⟨w.heap.size,1,none⟩) z1).trans m1;by_cases Hv:k<l.length
    ·rcases Go.out with h|⟨b,Ha,rfl,hb,hc⟩
     ·omega
     obtain⟨pa,pc,⟨c0,cp,cq⟩,s,c1,c2,c3,c4⟩:=hc k Hv;have x0:=(Hr.out.cell (p:=⟨b,Ha+k*5,none⟩) hb).trans c0;have x1:=(Hr.out.cell (p:=⟨b,Ha+k*5+1,none⟩) hb).trans c1;have x2:=(Hr.out.cell (p:=⟨b,Ha+k*5+2,none⟩) hb).trans c2;have x3:=(Hr.out.cell (p:=⟨b,Ha+k*5+3,none⟩) hb).trans c3;have x4:=(Hr.out.cell (p:=⟨b,Ha+k*5+4,none⟩) hb).trans c4;have HS:=hid (s.below Hr.out);have i1:(0:Int)<=(k:Int):=Int.natCast_nonneg _;have i2:(k:Int)<(l.length:Int):=by omega
     have Hf:=hid hc;have zr:w1.heap.size<=wr.heap.size:=Hr.out.size;clear hc c0 c1 c2 c3 c4 s m0 m1;go_wp2_with fail;obtain⟨y,hy⟩:∃y,gL l k=y:=⟨_,rfl⟩;have Gg:=hp k;rw [hy] at HS x0 x1 x2 x3 x4 cp Gg ⊢;have HE:=hid hy;clear hy;obtain⟨p,fl,r,q,v⟩:=y;dsimp only at HS x0 x1 x2 x3 x4 cp Gg ⊢;obtain⟨W2,Gj⟩:∃W2,wr.alloc (.cells #[.slice pa p.length pc,.bool fl,.int .i64 r,.int .i64 q,.string v] 60)=W2:=⟨_,rfl⟩;have b2:Below wr.heap.size wr W2:=by rw [<- Gj];exact zO _ _
     have B5:Bx5 W2 wr.heap.size (.slice pa p.length pc) (.bool fl) (.int .i64 r) (.int .i64 q) (.string v):=by rw [<- Gj];exact⟨by simp,by simp,by simp,by simp,by simp,fun i=>by simp,by simp⟩
     have t0:=(b2.cell (p:=⟨w.heap.size,0,none⟩) (show w.heap.size<wr.heap.size by omega)).trans r0;have t1:=(b2.cell (p:=⟨w.heap.size,1,none⟩) (show w.heap.size<wr.heap.size by omega)).trans r1;have y0:=B5.c0;have y1:=B5.c1;have y2:=B5.c2;have y3:=B5.c3;have y4:=B5.c4;have H9:=hid (Hr.out.trans (b2.mono Hr.out.size));have Gd:=hid (HS.out.below b2);have HP:=hid (pathSpec p pa pc W2 Gg Gd.out);have HA:=hid (l2Has x n d R F T r q W2 hm (Gp.out.below H9.out));have z2:wr.heap.size<W2.heap.size:=B5.lt;have Hb:=hid B5;rw [Gj];clear Gj b2 B5 x0 x1 x2 x3 x4 r0 r1 HS Hr;refine HP.out.mono ?_;rintro e w3 ⟨rfl,rfl⟩;have Ga:=hid (Hg.out.trans (H9.out.mono Hg.out.size));have He:Hid (¬(LfOk1 ⟨p,fl,r,q,v⟩/\ hasK R F T r q q n=true/\ (0<k ->cmpL (gL l (k - 1)) ⟨p,fl,r,q,v⟩<0)) ->Y=false):=hid (fun no=>by
      rw [<- HY.out];exact yes_f (fun h=>no (by have:=h.2.2.1 k Hv;rw [HE.out] at this;exact this)))
     obtain⟨Y1,Gn⟩:∃Y1,yes (PthOk p)=Y1:=⟨_,rfl⟩;have Gl:=hid Gn;rw [Gn];clear Gn HP;cases Y1 with
     | false=>
      have HF:=hid (He.out (fun h=>by have:=yes_t h.1.1;rw [Gl.out] at this;cases this));clear He HA;go_wp2_with fail;go_ret;exact⟨ret_b HF.out.symm,Ga.out⟩
     | true=>
      by_cases hv:(200:Int)<(v.size:Int)
      ·have d1:decide ((200:Int)<(v.size:Int))=true:=by simpa using hv
       have HF:=hid (He.out (fun h=>by have:v.size<=200:=h.1.2.1;omega));clear He HA;go_wp2_with fail;go_ret;exact⟨ret_b HF.out.symm,Ga.out⟩
      ·have d1:decide ((200:Int)<(v.size:Int))=false:=by simpa using hv
       by_cases Hs:fl=true/\ v.toList.isEmpty=false
       ·obtain⟨rfl,Hs⟩:=Hs;have HF:=hid (He.out (fun h=>by have:v.toList.isEmpty=true:=h.1.2.2 rfl;rw [Hs] at this;cases this));clear He HA;go_wp2_with fail;go_ret;exact⟨ret_b HF.out.symm,Ga.out⟩
       ·have Gi:Hid (LfOk1 ⟨p,fl,r,q,v⟩):=hid ⟨yes_iff.1 Gl.out,by show v.size<=200;omega,fun e=>by
         show v.toList.isEmpty=true;by_cases h:v.toList.isEmpty=true
         ·exact h
         ·exact absurd ⟨e,by simpa using h⟩ Hs⟩
        have Gq:=hid Hs;clear Hs;clear Gl;cases fl with
        | true=>
         have he:v.toList.isEmpty=true:=by
          by_cases h:v.toList.isEmpty=true
          ·exact h
          ·exact absurd ⟨rfl,by simpa using h⟩ Gq.out
         go_wp2_with fail;refine HA.out.mono ?_;rintro e w4 ⟨rfl,b4⟩;have zt:w.heap.size<w4.heap.size:=by have:=b4.size;omega
         have zy:wr.heap.size<w4.heap.size:=by have:=b4.size;omega
         have B4:=Hb.out.below b4 z2;have t0:=(b4.cell (p:=⟨w.heap.size,0,none⟩) (show w.heap.size<w3.heap.size by omega)).trans t0;have y0:=B4.c0;have y1:=B4.c1;have y2:=B4.c2;have y3:=B4.c3;have y4:=B4.c4;have Hi:=hid (H9.out.trans (b4.mono H9.out.size));have H1:=hid (Gd.out.below b4);have Hl:=hid (Hg.out.trans (Hi.out.mono Hg.out.size));clear B4 b4 t1 Hb Gd Ga;obtain⟨A,hA⟩:∃A,hasK R F T r q q n=A:=⟨_,rfl⟩;have Hn:=hid hA;rw [hA];clear hA;cases A with
         | false=>
          have HF:=hid (He.out (fun h=>by have:=h.2.1;rw [Hn.out] at this;cases this));clear He Hf;go_wp2_with fail;go_ret;exact⟨ret_b HF.out.symm,Hl.out⟩
         | true=>
          by_cases Gf:k=0
          ·have d2:decide ((0:Int)<(k:Int))=false:=by simp;omega
           have d3:decide (0<k)=false:=by simp;omega
           have Ho:Hid (0<k ->cmpL (gL l (k - 1)) ⟨p,true,r,q,v⟩<0):=hid (fun h=>by omega);clear Gf;go_wp2_with fail;go_quiet (fail);obtain⟨w5,Hk⟩:∃w5,w4.drewN nq=w5:=⟨_,rfl⟩;have Hb:Hid (Below w1.heap.size w1 w5):=hid (by rw [<- Hk];exact below_drewS Hi.out _);have t0:w5.cell? ⟨w.heap.size,0,none⟩=some (.slice (some ⟨b,Ha,none⟩) l.length c):=by rw [<- Hk];exact t0
           have y2:w5.cell? ⟨wr.heap.size,2,none⟩=some (.int .i64 r):=by rw [<- Hk];exact y2
           have y3:w5.cell? ⟨wr.heap.size,3,none⟩=some (.int .i64 q):=by rw [<- Hk];exact y3
           have zt:w.heap.size<w5.heap.size:=by rw [<- Hk];exact zt
           have zy:wr.heap.size<w5.heap.size:=by rw [<- Hk];exact zy
           rw [Hk];clear Hk d2 d3 Hi Hl H1 y0 y1 y4;have H2:Hid (∀wi,Below w5.heap.size w5 wi ->wi.cell? ⟨wr.heap.size,2,none⟩=some (.int .i64 r)):=hid (fun wi h=>(h.cell (p:=⟨wr.heap.size,2,none⟩) zy).trans y2);have H3:Hid (∀wi,Below w5.heap.size w5 wi ->wi.cell? ⟨wr.heap.size,3,none⟩=some (.int .i64 q)):=hid (fun wi h=>(h.cell (p:=⟨wr.heap.size,3,none⟩) zy).trans y3);go_wp2_with fail;go_loopw [5] (fun i wi=>∃j:Nat,j<=k/\ i=.int .i64 j/\ Hid (Below w5.heap.size w5 wi)/\ Hid (∀t,t<j ->Dif (gL l t) (gL l k))) (fun i _=>k - (intOf i).toNat);case atStart=>exact⟨0,Nat.zero_le _,rfl,hid zI,hid (fun t ht=>by omega)⟩
           case round=>
            obtain⟨j,hj,rfl,Hc,Hd⟩:=hrel;have g0:=(Hc.out.cell (p:=⟨w.heap.size,0,none⟩) zt).trans t0;have g2:=H2.out _ Hc.out;have g3:=H3.out _ Hc.out;by_cases Hp:j<k
            ·obtain⟨ja,jc,_,_,_,c2,c3,_⟩:=Hf.out j (by omega);have j2:=(((Hb.out.trans (Hc.out.mono Hb.out.size)).cell (p:=⟨b,Ha+j*5+2,none⟩) hb)).trans c2;have j3:=(((Hb.out.trans (Hc.out.mono Hb.out.size)).cell (p:=⟨b,Ha+j*5+3,none⟩) hb)).trans c3;obtain⟨yj,Hq⟩:∃yj,gL l j=yj:=⟨_,rfl⟩;rw [Hq] at j2 j3;have Hh:=hid Hq;obtain⟨pj,fj,rj,qj,vj⟩:=yj;dsimp only at j2 j3;have q1:(0:Int)<=(j:Int):=Int.natCast_nonneg _;have q2:(j:Int)<(l.length:Int):=by omega
             have q3:(j:Int)<(k:Int):=by omega
             have hG:=dotGuard;have EQ:∀w:World,(binOp .eql 58 (.agg #[.int .i64 rj,.int .i64 qj]) (.agg #[.int .i64 r,.int .i64 q])).run Tryz.prog w=.ok (.bool (rj==r && qj==q)) w:=fun w=>eqlDot rj qj r q w;clear Hq c2 c3 t0 y2 y3;by_cases hr:rj=r
             ·have e1:(rj==r)=true:=by simpa using hr
              by_cases hq:qj=q
              ·have e2:(qj==q)=true:=by simpa using hq
               have EQ:∀w:World,(binOp .eql 58 (.agg #[.int .i64 rj,.int .i64 qj]) (.agg #[.int .i64 r,.int .i64 q])).run Tryz.prog w=.ok (.bool true) w:=fun w=>by rw [EQ w,e1,e2];rfl
               have HF:Hid (Y=false):=hid (by rw [<- HY.out];exact yes_f (fun h=>h.2.2.2 k Hv j Hp (by rw [Hh.out,HE.out];exact⟨hr,hq⟩)));have HZ:=hid (Hg.out.trans ((Hb.out.trans (Hc.out.mono Hb.out.size)).mono Hg.out.size));clear He Hd Hf;go_wp2_with fail;go_quiet (fail);go_wp2_with fail;go_ret;exact⟨ret_b HF.out.symm,below_drewS HZ.out _⟩
              ·have e2:(qj==q)=false:=by simpa using hq
               have EQ:∀w:World,(binOp .eql 58 (.agg #[.int .i64 rj,.int .i64 qj]) (.agg #[.int .i64 r,.int .i64 q])).run Tryz.prog w=.ok (.bool false) w:=fun w=>by rw [EQ w,e1,e2];rfl
               have HD:Hid (∀t,t<j+1 ->Dif (gL l t) (gL l k)):=hid (fun t ht=>by
                by_cases e:t=j
                ·rw [e,Hh.out,HE.out];exact fun h=>hq h.2
                ·exact Hd.out t (by omega))
               clear He Hd Hf;go_wp2_with fail;go_quiet (fail);have Hm:=hid (below_drewS Hc.out nq);go_wp2_with fail;go_roundw;case rel=>exact⟨j+1,Hp,by go_num,Hm,HD⟩
               case measure=>simp [intOf];omega
             ·have e1:(rj==r)=false:=by simpa using hr
              have EQ:∀w:World,(binOp .eql 58 (.agg #[.int .i64 rj,.int .i64 qj]) (.agg #[.int .i64 r,.int .i64 q])).run Tryz.prog w=.ok (.bool false) w:=fun w=>by rw [EQ w,e1];rfl
              have HD:Hid (∀t,t<j+1 ->Dif (gL l t) (gL l k)):=hid (fun t ht=>by
               by_cases e:t=j
               ·rw [e,Hh.out,HE.out];exact fun h=>hr h.1
               ·exact Hd.out t (by omega))
              clear He Hd Hf;go_wp2_with fail;go_quiet (fail);have Hm:=hid (below_drewS Hc.out nq);go_wp2_with fail;go_roundw;case rel=>exact⟨j+1,Hp,by go_num,Hm,HD⟩
              case measure=>simp [intOf];omega
            ·obtain rfl:j=k:=by omega
             have HN:Hid (LvOk R F T n l (j+1)/\ Dis l (j+1)):=hid ⟨HI.out.1.step (by rw [HE.out];exact Gi.out) (by rw [HE.out];exact Hn.out) (fun h=>by rw [HE.out];exact Ho.out h),HI.out.2.step Hd.out⟩;have HZ:=hid (Hb.out.trans (Hc.out.mono Hb.out.size));clear He Hd Hf t0 y2 y3 g0 g2 g3;go_wp2_with fail;go_roundw;case rel=>exact⟨j+1,Hv,by go_num,HZ,HN⟩
             case measure=>simp [intOf];omega
          ·obtain⟨j,hj⟩:∃j,k=j+1:=⟨k - 1,by omega⟩;obtain⟨Hx,Hy,⟨c0,H4,Gm⟩,s',c1,c2,c3,c4⟩:=Hf.out j (by omega);have q':=fun(o:Nat)=>Hi.out.cell (p:=⟨b,o,none⟩) hb;have j0:=(q' _).trans c0;have j1:=(q' _).trans c1;have j2:=(q' _).trans c2;have j3:=(q' _).trans c3;have j4:=(q' _).trans c4;have Hw:=hid (s'.below Hi.out);have H6:=hp j;obtain⟨y',H8⟩:∃y',gL l j=y':=⟨_,rfl⟩;rw [H8] at j0 j1 j2 j3 j4 Hw H6 H4;have Hh:=hid H8;obtain⟨p',Ht,r',q',v'⟩:=y';dsimp only at j0 j1 j2 j3 j4 Hw H6 H4;have zb:b<w4.heap.size:=by have:=Hi.out.size;omega
           have d2:decide ((0:Int)<(k:Int))=true:=by simp;omega
           have d3:decide (0<k)=true:=by simp;omega
           have Hu:(k:Int) - 1=(j:Int):=by omega
           have Gh:IntKind.i64.wrap (j:Int)=(j:Int):=by rw [IntKind.wrap_i64];omega
           have H7:IntKind.i64.wrap ((k:Int) - 1)=(j:Int):=by rw [Hu];exact Gh
           have q1:(0:Int)<=(j:Int):=Int.natCast_nonneg _;have q2:(j:Int)<(l.length:Int):=by omega
           have H0:=hid hj;obtain⟨Bf,H5⟩:∃Bf,yes (cmpL ⟨p',Ht,r',q',v'⟩ ⟨p,true,r,q,v⟩<0)=Bf:=⟨_,rfl⟩;have Gb:=hid H5;have Gc:Hid (∀W,Below w4.heap.size w4 W ->Calls Tryz.prog 40 #[.agg #[.slice Hx p'.length Hy,.bool Ht,.int .i64 r',.int .i64 q',.string v'],.agg #[.slice pa p.length pc,.bool true,.int .i64 r,.int .i64 q,.string v]] W fun e w'=>e=.returned (.bool Bf)/\ Below W.heap.size W w'):=hid (fun W hB=>by rw [<- H5];exact l3Before Hx pa Hy pc p' p Ht true r' q' r q v' v W H6 Gg H4 cp Gm cq (Hw.out.below hB) (H1.out.below hB));clear H5 hj Gf c0 c1 c2 c3 c4 s' H8;go_wp2_with fail;have Hz:Hid (∀w',Below w4.heap.size w4 w' ->(Below w4.heap.size w4 w'/\ w'.cell? ⟨w.heap.size,0,none⟩=some (.slice (some ⟨b,Ha,none⟩) l.length c)/\ w'.cell? ⟨wr.heap.size,0,none⟩=some (.slice pa p.length pc)/\ w'.cell? ⟨wr.heap.size,1,none⟩=some (.bool true)/\ w'.cell? ⟨wr.heap.size,2,none⟩=some (.int .i64 r)/\ w'.cell? ⟨wr.heap.size,3,none⟩=some (.int .i64 q)/\ w'.cell? ⟨wr.heap.size,4,none⟩=some (.string v)/\ w'.cell? ⟨b,Ha+j*5,none⟩=some (.slice Hx p'.length Hy)/\ w'.cell? ⟨b,Ha+j*5+1,none⟩=some (.bool Ht)/\ w'.cell? ⟨b,Ha+j*5+2,none⟩=some (.int .i64 r')/\ w'.cell? ⟨b,Ha+j*5+3,none⟩=some (.int .i64 q')/\ w'.cell? ⟨b,Ha+j*5+4,none⟩=some (.string v'))):=hid (fun w' hB=>⟨hB,(hB.cell (p:=⟨w.heap.size,0,none⟩) zt).trans t0,(hB.cell (p:=⟨wr.heap.size,0,none⟩) zy).trans y0,(hB.cell (p:=⟨wr.heap.size,1,none⟩) zy).trans y1,(hB.cell (p:=⟨wr.heap.size,2,none⟩) zy).trans y2,(hB.cell (p:=⟨wr.heap.size,3,none⟩) zy).trans y3,(hB.cell (p:=⟨wr.heap.size,4,none⟩) zy).trans y4,(hB.cell (p:=⟨b,Ha+j*5,none⟩) zb).trans j0,(hB.cell (p:=⟨b,Ha+j*5+1,none⟩) zb).trans j1,(hB.cell (p:=⟨b,Ha+j*5+2,none⟩) zb).trans j2,(hB.cell (p:=⟨b,Ha+j*5+3,none⟩) zb).trans j3,(hB.cell (p:=⟨b,Ha+j*5+4,none⟩) zb).trans j4⟩);refine zR (S:=fun w'=>Below w4.heap.size w4 w'/\ w'.cell? ⟨w.heap.size,0,none⟩=some (.slice (some ⟨b,Ha,none⟩) l.length c)/\ w'.cell? ⟨wr.heap.size,0,none⟩=some (.slice pa p.length pc)/\ w'.cell? ⟨wr.heap.size,1,none⟩=some (.bool true)/\ w'.cell? ⟨wr.heap.size,2,none⟩=some (.int .i64 r)/\ w'.cell? ⟨wr.heap.size,3,none⟩=some (.int .i64 q)/\ w'.cell? ⟨wr.heap.size,4,none⟩=some (.string v)/\ w'.cell? ⟨b,Ha+j*5,none⟩=some (.slice Hx p'.length Hy)/\ w'.cell? ⟨b,Ha+j*5+1,none⟩=some (.bool Ht)/\ w'.cell? ⟨b,Ha+j*5+2,none⟩=some (.int .i64 r')/\ w'.cell? ⟨b,Ha+j*5+3,none⟩=some (.int .i64 q')/\ w'.cell? ⟨b,Ha+j*5+4,none⟩=some (.string v')) (Hz.out _ zI.drew) (fun qh=> ?_);refine tZ 0 55 ?_;refine tZ 1 56 ?_;refine tZ 2 57 ?_;refine tZ 3 58 ?_;refine tZ 4 59 ?_;refine tZ 5 60 ?_;refine tZ 6 61 ?_;refine tZ 7 62 ?_;refine tZ 8 63 ?_;refine tZ 9 64 ?_;refine cZ 10 ?_;intro K hK;go_simp;refine(Gc.out _ qh.1).mono ?_;rintro e w5 ⟨rfl,b5⟩;have Hj:=qh.1.trans (b5.mono qh.1.size);refine hK.out _ _ (Hz.out _ Hj) (fun qh=> ?_);clear hK K;try simp only [zP]
           refine tZ 11 66 ?_;refine tZ 12 67 ?_;refine zD ?_;have Hb:=hid (Hi.out.trans (Hj.mono Hi.out.size));have t0:=(Hj.cell (p:=⟨w.heap.size,0,none⟩) zt).trans t0;have y2:=(Hj.cell (p:=⟨wr.heap.size,2,none⟩) zy).trans y2;have y3:=(Hj.cell (p:=⟨wr.heap.size,3,none⟩) zy).trans y3;have zt:w.heap.size<w5.heap.size:=Nat.lt_of_lt_of_le zt Hj.size;have zy:wr.heap.size<w5.heap.size:=Nat.lt_of_lt_of_le zy Hj.size;clear qh Hj b5 Hz Gc j0 j1 j2 j3 j4 y0 y1 y4 Hu Gh H7 d2 d3 Hw H1 Hi Hl q1 q2 zb;cases Bf with
           | false=>
            have HF:=hid (He.out (fun h=>by
             have e:=h.2.2 (by have:=H0.out;omega);rw [show k - 1=j by have:=H0.out;omega,Hh.out] at e;have:=yes_t e;rw [Gb.out] at this;cases this))
            have HZ:=hid (Hg.out.trans (Hb.out.mono Hg.out.size));clear He Hf;go_wp2_with fail;go_ret;exact⟨ret_b HF.out.symm,HZ.out⟩
           | true=>
            have Ho:Hid (0<k ->cmpL (gL l (k - 1)) ⟨p,true,r,q,v⟩<0):=hid (fun _=>by
             rw [show k - 1=j by have:=H0.out;omega,Hh.out];exact yes_iff.1 Gb.out)
            have H2:Hid (∀wi,Below w5.heap.size w5 wi ->wi.cell? ⟨wr.heap.size,2,none⟩=some (.int .i64 r)):=hid (fun wi h=>(h.cell (p:=⟨wr.heap.size,2,none⟩) zy).trans y2);have H3:Hid (∀wi,Below w5.heap.size w5 wi ->wi.cell? ⟨wr.heap.size,3,none⟩=some (.int .i64 q)):=hid (fun wi h=>(h.cell (p:=⟨wr.heap.size,3,none⟩) zy).trans y3);go_wp2_with fail;go_loopw [5] (fun i wi=>∃j:Nat,j<=k/\ i=.int .i64 j/\ Hid (Below w5.heap.size w5 wi)/\ Hid (∀t,t<j ->Dif (gL l t) (gL l k))) (fun i _=>k - (intOf i).toNat);case atStart=>exact⟨0,Nat.zero_le _,rfl,hid zI,hid (fun t ht=>by omega)⟩
            case round=>
             obtain⟨j,hj,rfl,Hc,Hd⟩:=hrel;have g0:=(Hc.out.cell (p:=⟨w.heap.size,0,none⟩) zt).trans t0;have g2:=H2.out _ Hc.out;have g3:=H3.out _ Hc.out;by_cases Hp:j<k
             ·obtain⟨ja,jc,_,_,_,c2,c3,_⟩:=Hf.out j (by omega);have j2:=(((Hb.out.trans (Hc.out.mono Hb.out.size)).cell (p:=⟨b,Ha+j*5+2,none⟩) hb)).trans c2;have j3:=(((Hb.out.trans (Hc.out.mono Hb.out.size)).cell (p:=⟨b,Ha+j*5+3,none⟩) hb)).trans c3;obtain⟨yj,Hq⟩:∃yj,gL l j=yj:=⟨_,rfl⟩;rw [Hq] at j2 j3;have Hh:=hid Hq;obtain⟨pj,fj,rj,qj,vj⟩:=yj;dsimp only at j2 j3;have q1:(0:Int)<=(j:Int):=Int.natCast_nonneg _;have q2:(j:Int)<(l.length:Int):=by omega
              have q3:(j:Int)<(k:Int):=by omega
              have hG:=dotGuard;have EQ:∀w:World,(binOp .eql 58 (.agg #[.int .i64 rj,.int .i64 qj]) (.agg #[.int .i64 r,.int .i64 q])).run Tryz.prog w=.ok (.bool (rj==r && qj==q)) w:=fun w=>eqlDot rj qj r q w;clear Hq c2 c3 t0 y2 y3;by_cases hr:rj=r
              ·have e1:(rj==r)=true:=by simpa using hr
               by_cases hq:qj=q
               ·have e2:(qj==q)=true:=by simpa using hq
                have EQ:∀w:World,(binOp .eql 58 (.agg #[.int .i64 rj,.int .i64 qj]) (.agg #[.int .i64 r,.int .i64 q])).run Tryz.prog w=.ok (.bool true) w:=fun w=>by rw [EQ w,e1,e2];rfl
                have HF:Hid (Y=false):=hid (by rw [<- HY.out];exact yes_f (fun h=>h.2.2.2 k Hv j Hp (by rw [Hh.out,HE.out];exact⟨hr,hq⟩)));have HZ:=hid (Hg.out.trans ((Hb.out.trans (Hc.out.mono Hb.out.size)).mono Hg.out.size));clear He Hd Hf;go_wp2_with fail;go_quiet (fail);go_wp2_with fail;go_ret;exact⟨ret_b HF.out.symm,below_drewS HZ.out _⟩
               ·have e2:(qj==q)=false:=by simpa using hq
                have EQ:∀w:World,(binOp .eql 58 (.agg #[.int .i64 rj,.int .i64 qj]) (.agg #[.int .i64 r,.int .i64 q])).run Tryz.prog w=.ok (.bool false) w:=fun w=>by rw [EQ w,e1,e2];rfl
                have HD:Hid (∀t,t<j+1 ->Dif (gL l t) (gL l k)):=hid (fun t ht=>by
                 by_cases e:t=j
                 ·rw [e,Hh.out,HE.out];exact fun h=>hq h.2
                 ·exact Hd.out t (by omega))
                clear He Hd Hf;go_wp2_with fail;go_quiet (fail);have Hm:=hid (below_drewS Hc.out nq);go_wp2_with fail;go_roundw;case rel=>exact⟨j+1,Hp,by go_num,Hm,HD⟩
                case measure=>simp [intOf];omega
              ·have e1:(rj==r)=false:=by simpa using hr
               have EQ:∀w:World,(binOp .eql 58 (.agg #[.int .i64 rj,.int .i64 qj]) (.agg #[.int .i64 r,.int .i64 q])).run Tryz.prog w=.ok (.bool false) w:=fun w=>by rw [EQ w,e1];rfl
               have HD:Hid (∀t,t<j+1 ->Dif (gL l t) (gL l k)):=hid (fun t ht=>by
                by_cases e:t=j
                ·rw [e,Hh.out,HE.out];exact fun h=>hr h.1
                ·exact Hd.out t (by omega))
               clear He Hd Hf;go_wp2_with fail;go_quiet (fail);have Hm:=hid (below_drewS Hc.out nq);go_wp2_with fail;go_roundw;case rel=>exact⟨j+1,Hp,by go_num,Hm,HD⟩
               case measure=>simp [intOf];omega
             ·obtain rfl:j=k:=by omega
              have HN:Hid (LvOk R F T n l (j+1)/\ Dis l (j+1)):=hid ⟨HI.out.1.step (by rw [HE.out];exact Gi.out) (by rw [HE.out];exact Hn.out) (fun h=>by rw [HE.out];exact Ho.out h),HI.out.2.step Hd.out⟩;have HZ:=hid (Hb.out.trans (Hc.out.mono Hb.out.size));clear He Hd Hf t0 y2 y3 g0 g2 g3;go_wp2_with fail;go_roundw;case rel=>exact⟨j+1,Hv,by go_num,HZ,HN⟩
              case measure=>simp [intOf];omega
        | false=>
         go_wp2_with fail;refine HA.out.mono ?_;rintro e w4 ⟨rfl,b4⟩;have zt:w.heap.size<w4.heap.size:=by have:=b4.size;omega
         have zy:wr.heap.size<w4.heap.size:=by have:=b4.size;omega
         have B4:=Hb.out.below b4 z2;have t0:=(b4.cell (p:=⟨w.heap.size,0,none⟩) (show w.heap.size<w3.heap.size by omega)).trans t0;have y0:=B4.c0;have y1:=B4.c1;have y2:=B4.c2;have y3:=B4.c3;have y4:=B4.c4;have Hi:=hid (H9.out.trans (b4.mono H9.out.size));have H1:=hid (Gd.out.below b4);have Hl:=hid (Hg.out.trans (Hi.out.mono Hg.out.size));clear B4 b4 t1 Hb Gd Ga;obtain⟨A,hA⟩:∃A,hasK R F T r q q n=A:=⟨_,rfl⟩;have Hn:=hid hA;rw [hA];clear hA;cases A with
         | false=>
          have HF:=hid (He.out (fun h=>by have:=h.2.1;rw [Hn.out] at this;cases this));clear He Hf;go_wp2_with fail;go_ret;exact⟨ret_b HF.out.symm,Hl.out⟩
         | true=>
          by_cases Gf:k=0
          ·have d2:decide ((0:Int)<(k:Int))=false:=by simp;omega
           have d3:decide (0<k)=false:=by simp;omega
           have Ho:Hid (0<k ->cmpL (gL l (k - 1)) ⟨p,false,r,q,v⟩<0):=hid (fun h=>by omega);clear Gf;go_wp2_with fail;go_quiet (fail);obtain⟨w5,Hk⟩:∃w5,w4.drewN nq=w5:=⟨_,rfl⟩;have Hb:Hid (Below w1.heap.size w1 w5):=hid (by rw [<- Hk];exact below_drewS Hi.out _);have t0:w5.cell? ⟨w.heap.size,0,none⟩=some (.slice (some ⟨b,Ha,none⟩) l.length c):=by rw [<- Hk];exact t0
           have y2:w5.cell? ⟨wr.heap.size,2,none⟩=some (.int .i64 r):=by rw [<- Hk];exact y2
           have y3:w5.cell? ⟨wr.heap.size,3,none⟩=some (.int .i64 q):=by rw [<- Hk];exact y3
           have zt:w.heap.size<w5.heap.size:=by rw [<- Hk];exact zt
           have zy:wr.heap.size<w5.heap.size:=by rw [<- Hk];exact zy
           rw [Hk];clear Hk d2 d3 Hi Hl H1 y0 y1 y4;have H2:Hid (∀wi,Below w5.heap.size w5 wi ->wi.cell? ⟨wr.heap.size,2,none⟩=some (.int .i64 r)):=hid (fun wi h=>(h.cell (p:=⟨wr.heap.size,2,none⟩) zy).trans y2);have H3:Hid (∀wi,Below w5.heap.size w5 wi ->wi.cell? ⟨wr.heap.size,3,none⟩=some (.int .i64 q)):=hid (fun wi h=>(h.cell (p:=⟨wr.heap.size,3,none⟩) zy).trans y3);go_wp2_with fail;go_loopw [5] (fun i wi=>∃j:Nat,j<=k/\ i=.int .i64 j/\ Hid (Below w5.heap.size w5 wi)/\ Hid (∀t,t<j ->Dif (gL l t) (gL l k))) (fun i _=>k - (intOf i).toNat);case atStart=>exact⟨0,Nat.zero_le _,rfl,hid zI,hid (fun t ht=>by omega)⟩
           case round=>
            obtain⟨j,hj,rfl,Hc,Hd⟩:=hrel;have g0:=(Hc.out.cell (p:=⟨w.heap.size,0,none⟩) zt).trans t0;have g2:=H2.out _ Hc.out;have g3:=H3.out _ Hc.out;by_cases Hp:j<k
            ·obtain⟨ja,jc,_,_,_,c2,c3,_⟩:=Hf.out j (by omega);have j2:=(((Hb.out.trans (Hc.out.mono Hb.out.size)).cell (p:=⟨b,Ha+j*5+2,none⟩) hb)).trans c2;have j3:=(((Hb.out.trans (Hc.out.mono Hb.out.size)).cell (p:=⟨b,Ha+j*5+3,none⟩) hb)).trans c3;obtain⟨yj,Hq⟩:∃yj,gL l j=yj:=⟨_,rfl⟩;rw [Hq] at j2 j3;have Hh:=hid Hq;obtain⟨pj,fj,rj,qj,vj⟩:=yj;dsimp only at j2 j3;have q1:(0:Int)<=(j:Int):=Int.natCast_nonneg _;have q2:(j:Int)<(l.length:Int):=by omega
             have q3:(j:Int)<(k:Int):=by omega
             have hG:=dotGuard;have EQ:∀w:World,(binOp .eql 58 (.agg #[.int .i64 rj,.int .i64 qj]) (.agg #[.int .i64 r,.int .i64 q])).run Tryz.prog w=.ok (.bool (rj==r && qj==q)) w:=fun w=>eqlDot rj qj r q w;clear Hq c2 c3 t0 y2 y3;by_cases hr:rj=r
             ·have e1:(rj==r)=true:=by simpa using hr
              by_cases hq:qj=q
              ·have e2:(qj==q)=true:=by simpa using hq
               have EQ:∀w:World,(binOp .eql 58 (.agg #[.int .i64 rj,.int .i64 qj]) (.agg #[.int .i64 r,.int .i64 q])).run Tryz.prog w=.ok (.bool true) w:=fun w=>by rw [EQ w,e1,e2];rfl
               have HF:Hid (Y=false):=hid (by rw [<- HY.out];exact yes_f (fun h=>h.2.2.2 k Hv j Hp (by rw [Hh.out,HE.out];exact⟨hr,hq⟩)));have HZ:=hid (Hg.out.trans ((Hb.out.trans (Hc.out.mono Hb.out.size)).mono Hg.out.size));clear He Hd Hf;go_wp2_with fail;go_quiet (fail);go_wp2_with fail;go_ret;exact⟨ret_b HF.out.symm,below_drewS HZ.out _⟩
              ·have e2:(qj==q)=false:=by simpa using hq
               have EQ:∀w:World,(binOp .eql 58 (.agg #[.int .i64 rj,.int .i64 qj]) (.agg #[.int .i64 r,.int .i64 q])).run Tryz.prog w=.ok (.bool false) w:=fun w=>by rw [EQ w,e1,e2];rfl
               have HD:Hid (∀t,t<j+1 ->Dif (gL l t) (gL l k)):=hid (fun t ht=>by
                by_cases e:t=j
                ·rw [e,Hh.out,HE.out];exact fun h=>hq h.2
                ·exact Hd.out t (by omega))
               clear He Hd Hf;go_wp2_with fail;go_quiet (fail);have Hm:=hid (below_drewS Hc.out nq);go_wp2_with fail;go_roundw;case rel=>exact⟨j+1,Hp,by go_num,Hm,HD⟩
               case measure=>simp [intOf];omega
             ·have e1:(rj==r)=false:=by simpa using hr
              have EQ:∀w:World,(binOp .eql 58 (.agg #[.int .i64 rj,.int .i64 qj]) (.agg #[.int .i64 r,.int .i64 q])).run Tryz.prog w=.ok (.bool false) w:=fun w=>by rw [EQ w,e1];rfl
              have HD:Hid (∀t,t<j+1 ->Dif (gL l t) (gL l k)):=hid (fun t ht=>by
               by_cases e:t=j
               ·rw [e,Hh.out,HE.out];exact fun h=>hr h.1
               ·exact Hd.out t (by omega))
              clear He Hd Hf;go_wp2_with fail;go_quiet (fail);have Hm:=hid (below_drewS Hc.out nq);go_wp2_with fail;go_roundw;case rel=>exact⟨j+1,Hp,by go_num,Hm,HD⟩
              case measure=>simp [intOf];omega
            ·obtain rfl:j=k:=by omega
             have HN:Hid (LvOk R F T n l (j+1)/\ Dis l (j+1)):=hid ⟨HI.out.1.step (by rw [HE.out];exact Gi.out) (by rw [HE.out];exact Hn.out) (fun h=>by rw [HE.out];exact Ho.out h),HI.out.2.step Hd.out⟩;have HZ:=hid (Hb.out.trans (Hc.out.mono Hb.out.size));clear He Hd Hf t0 y2 y3 g0 g2 g3;go_wp2_with fail;go_roundw;case rel=>exact⟨j+1,Hv,by go_num,HZ,HN⟩
             case measure=>simp [intOf];omega
          ·obtain⟨j,hj⟩:∃j,k=j+1:=⟨k - 1,by omega⟩;obtain⟨Hx,Hy,⟨c0,H4,Gm⟩,s',c1,c2,c3,c4⟩:=Hf.out j (by omega);have q':=fun(o:Nat)=>Hi.out.cell (p:=⟨b,o,none⟩) hb;have j0:=(q' _).trans c0;have j1:=(q' _).trans c1;have j2:=(q' _).trans c2;have j3:=(q' _).trans c3;have j4:=(q' _).trans c4;have Hw:=hid (s'.below Hi.out);have H6:=hp j;obtain⟨y',H8⟩:∃y',gL l j=y':=⟨_,rfl⟩;rw [H8] at j0 j1 j2 j3 j4 Hw H6 H4;have Hh:=hid H8;obtain⟨p',Ht,r',q',v'⟩:=y';dsimp only at j0 j1 j2 j3 j4 Hw H6 H4;have zb:b<w4.heap.size:=by have:=Hi.out.size;omega
           have d2:decide ((0:Int)<(k:Int))=true:=by simp;omega
           have d3:decide (0<k)=true:=by simp;omega
           have Hu:(k:Int) - 1=(j:Int):=by omega
           have Gh:IntKind.i64.wrap (j:Int)=(j:Int):=by rw [IntKind.wrap_i64];omega
           have H7:IntKind.i64.wrap ((k:Int) - 1)=(j:Int):=by rw [Hu];exact Gh
           have q1:(0:Int)<=(j:Int):=Int.natCast_nonneg _;have q2:(j:Int)<(l.length:Int):=by omega
           have H0:=hid hj;obtain⟨Bf,H5⟩:∃Bf,yes (cmpL ⟨p',Ht,r',q',v'⟩ ⟨p,false,r,q,v⟩<0)=Bf:=⟨_,rfl⟩;have Gb:=hid H5;have Gc:Hid (∀W,Below w4.heap.size w4 W ->Calls Tryz.prog 40 #[.agg #[.slice Hx p'.length Hy,.bool Ht,.int .i64 r',.int .i64 q',.string v'],.agg #[.slice pa p.length pc,.bool false,.int .i64 r,.int .i64 q,.string v]] W fun e w'=>e=.returned (.bool Bf)/\ Below W.heap.size W w'):=hid (fun W hB=>by rw [<- H5];exact l3Before Hx pa Hy pc p' p Ht false r' q' r q v' v W H6 Gg H4 cp Gm cq (Hw.out.below hB) (H1.out.below hB));clear H5 hj Gf c0 c1 c2 c3 c4 s' H8;go_wp2_with fail;have Hz:Hid (∀w',Below w4.heap.size w4 w' ->(Below w4.heap.size w4 w'/\ w'.cell? ⟨w.heap.size,0,none⟩=some (.slice (some ⟨b,Ha,none⟩) l.length c)/\ w'.cell? ⟨wr.heap.size,0,none⟩=some (.slice pa p.length pc)/\ w'.cell? ⟨wr.heap.size,1,none⟩=some (.bool false)/\ w'.cell? ⟨wr.heap.size,2,none⟩=some (.int .i64 r)/\ w'.cell? ⟨wr.heap.size,3,none⟩=some (.int .i64 q)/\ w'.cell? ⟨wr.heap.size,4,none⟩=some (.string v)/\ w'.cell? ⟨b,Ha+j*5,none⟩=some (.slice Hx p'.length Hy)/\ w'.cell? ⟨b,Ha+j*5+1,none⟩=some (.bool Ht)/\ w'.cell? ⟨b,Ha+j*5+2,none⟩=some (.int .i64 r')/\ w'.cell? ⟨b,Ha+j*5+3,none⟩=some (.int .i64 q')/\ w'.cell? ⟨b,Ha+j*5+4,none⟩=some (.string v'))):=hid (fun w' hB=>⟨hB,(hB.cell (p:=⟨w.heap.size,0,none⟩) zt).trans t0,(hB.cell (p:=⟨wr.heap.size,0,none⟩) zy).trans y0,(hB.cell (p:=⟨wr.heap.size,1,none⟩) zy).trans y1,(hB.cell (p:=⟨wr.heap.size,2,none⟩) zy).trans y2,(hB.cell (p:=⟨wr.heap.size,3,none⟩) zy).trans y3,(hB.cell (p:=⟨wr.heap.size,4,none⟩) zy).trans y4,(hB.cell (p:=⟨b,Ha+j*5,none⟩) zb).trans j0,(hB.cell (p:=⟨b,Ha+j*5+1,none⟩) zb).trans j1,(hB.cell (p:=⟨b,Ha+j*5+2,none⟩) zb).trans j2,(hB.cell (p:=⟨b,Ha+j*5+3,none⟩) zb).trans j3,(hB.cell (p:=⟨b,Ha+j*5+4,none⟩) zb).trans j4⟩);refine zR (S:=fun w'=>Below w4.heap.size w4 w'/\ w'.cell? ⟨w.heap.size,0,none⟩=some (.slice (some ⟨b,Ha,none⟩) l.length c)/\ w'.cell? ⟨wr.heap.size,0,none⟩=some (.slice pa p.length pc)/\ w'.cell? ⟨wr.heap.size,1,none⟩=some (.bool false)/\ w'.cell? ⟨wr.heap.size,2,none⟩=some (.int .i64 r)/\ w'.cell? ⟨wr.heap.size,3,none⟩=some (.int .i64 q)/\ w'.cell? ⟨wr.heap.size,4,none⟩=some (.string v)/\ w'.cell? ⟨b,Ha+j*5,none⟩=some (.slice Hx p'.length Hy)/\ w'.cell? ⟨b,Ha+j*5+1,none⟩=some (.bool Ht)/\ w'.cell? ⟨b,Ha+j*5+2,none⟩=some (.int .i64 r')/\ w'.cell? ⟨b,Ha+j*5+3,none⟩=some (.int .i64 q')/\ w'.cell? ⟨b,Ha+j*5+4,none⟩=some (.string v')) (Hz.out _ zI.drew) (fun qh=> ?_);refine tZ 0 55 ?_;refine tZ 1 56 ?_;refine tZ 2 57 ?_;refine tZ 3 58 ?_;refine tZ 4 59 ?_;refine tZ 5 60 ?_;refine tZ 6 61 ?_;refine tZ 7 62 ?_;refine tZ 8 63 ?_;refine tZ 9 64 ?_;refine cZ 10 ?_;intro K hK;go_simp;refine(Gc.out _ qh.1).mono ?_;rintro e w5 ⟨rfl,b5⟩;have Hj:=qh.1.trans (b5.mono qh.1.size);refine hK.out _ _ (Hz.out _ Hj) (fun qh=> ?_);clear hK K;try simp only [zP]
           refine tZ 11 66 ?_;refine tZ 12 67 ?_;refine zD ?_;have Hb:=hid (Hi.out.trans (Hj.mono Hi.out.size));have t0:=(Hj.cell (p:=⟨w.heap.size,0,none⟩) zt).trans t0;have y2:=(Hj.cell (p:=⟨wr.heap.size,2,none⟩) zy).trans y2;have y3:=(Hj.cell (p:=⟨wr.heap.size,3,none⟩) zy).trans y3;have zt:w.heap.size<w5.heap.size:=Nat.lt_of_lt_of_le zt Hj.size;have zy:wr.heap.size<w5.heap.size:=Nat.lt_of_lt_of_le zy Hj.size;clear qh Hj b5 Hz Gc j0 j1 j2 j3 j4 y0 y1 y4 Hu Gh H7 d2 d3 Hw H1 Hi Hl q1 q2 zb;cases Bf with
           | false=>
            have HF:=hid (He.out (fun h=>by
             have e:=h.2.2 (by have:=H0.out;omega);rw [show k - 1=j by have:=H0.out;omega,Hh.out] at e;have:=yes_t e;rw [Gb.out] at this;cases this))
            have HZ:=hid (Hg.out.trans (Hb.out.mono Hg.out.size));clear He Hf;go_wp2_with fail;go_ret;exact⟨ret_b HF.out.symm,HZ.out⟩
           | true=>
            have Ho:Hid (0<k ->cmpL (gL l (k - 1)) ⟨p,false,r,q,v⟩<0):=hid (fun _=>by
             rw [show k - 1=j by have:=H0.out;omega,Hh.out];exact yes_iff.1 Gb.out)
            have H2:Hid (∀wi,Below w5.heap.size w5 wi ->wi.cell? ⟨wr.heap.size,2,none⟩=some (.int .i64 r)):=hid (fun wi h=>(h.cell (p:=⟨wr.heap.size,2,none⟩) zy).trans y2);have H3:Hid (∀wi,Below w5.heap.size w5 wi ->wi.cell? ⟨wr.heap.size,3,none⟩=some (.int .i64 q)):=hid (fun wi h=>(h.cell (p:=⟨wr.heap.size,3,none⟩) zy).trans y3);go_wp2_with fail;go_loopw [5] (fun i wi=>∃j:Nat,j<=k/\ i=.int .i64 j/\ Hid (Below w5.heap.size w5 wi)/\ Hid (∀t,t<j ->Dif (gL l t) (gL l k))) (fun i _=>k - (intOf i).toNat);case atStart=>exact⟨0,Nat.zero_le _,rfl,hid zI,hid (fun t ht=>by omega)⟩
            case round=>
             obtain⟨j,hj,rfl,Hc,Hd⟩:=hrel;have g0:=(Hc.out.cell (p:=⟨w.heap.size,0,none⟩) zt).trans t0;have g2:=H2.out _ Hc.out;have g3:=H3.out _ Hc.out;by_cases Hp:j<k
             ·obtain⟨ja,jc,_,_,_,c2,c3,_⟩:=Hf.out j (by omega);have j2:=(((Hb.out.trans (Hc.out.mono Hb.out.size)).cell (p:=⟨b,Ha+j*5+2,none⟩) hb)).trans c2;have j3:=(((Hb.out.trans (Hc.out.mono Hb.out.size)).cell (p:=⟨b,Ha+j*5+3,none⟩) hb)).trans c3;obtain⟨yj,Hq⟩:∃yj,gL l j=yj:=⟨_,rfl⟩;rw [Hq] at j2 j3;have Hh:=hid Hq;obtain⟨pj,fj,rj,qj,vj⟩:=yj;dsimp only at j2 j3;have q1:(0:Int)<=(j:Int):=Int.natCast_nonneg _;have q2:(j:Int)<(l.length:Int):=by omega
              have q3:(j:Int)<(k:Int):=by omega
              have hG:=dotGuard;have EQ:∀w:World,(binOp .eql 58 (.agg #[.int .i64 rj,.int .i64 qj]) (.agg #[.int .i64 r,.int .i64 q])).run Tryz.prog w=.ok (.bool (rj==r && qj==q)) w:=fun w=>eqlDot rj qj r q w;clear Hq c2 c3 t0 y2 y3;by_cases hr:rj=r
              ·have e1:(rj==r)=true:=by simpa using hr
               by_cases hq:qj=q
               ·have e2:(qj==q)=true:=by simpa using hq
                have EQ:∀w:World,(binOp .eql 58 (.agg #[.int .i64 rj,.int .i64 qj]) (.agg #[.int .i64 r,.int .i64 q])).run Tryz.prog w=.ok (.bool true) w:=fun w=>by rw [EQ w,e1,e2];rfl
                have HF:Hid (Y=false):=hid (by rw [<- HY.out];exact yes_f (fun h=>h.2.2.2 k Hv j Hp (by rw [Hh.out,HE.out];exact⟨hr,hq⟩)));have HZ:=hid (Hg.out.trans ((Hb.out.trans (Hc.out.mono Hb.out.size)).mono Hg.out.size));clear He Hd Hf;go_wp2_with fail;go_quiet (fail);go_wp2_with fail;go_ret;exact⟨ret_b HF.out.symm,below_drewS HZ.out _⟩
               ·have e2:(qj==q)=false:=by simpa using hq
                have EQ:∀w:World,(binOp .eql 58 (.agg #[.int .i64 rj,.int .i64 qj]) (.agg #[.int .i64 r,.int .i64 q])).run Tryz.prog w=.ok (.bool false) w:=fun w=>by rw [EQ w,e1,e2];rfl
                have HD:Hid (∀t,t<j+1 ->Dif (gL l t) (gL l k)):=hid (fun t ht=>by
                 by_cases e:t=j
                 ·rw [e,Hh.out,HE.out];exact fun h=>hq h.2
                 ·exact Hd.out t (by omega))
                clear He Hd Hf;go_wp2_with fail;go_quiet (fail);have Hm:=hid (below_drewS Hc.out nq);go_wp2_with fail;go_roundw;case rel=>exact⟨j+1,Hp,by go_num,Hm,HD⟩
                case measure=>simp [intOf];omega
              ·have e1:(rj==r)=false:=by simpa using hr
               have EQ:∀w:World,(binOp .eql 58 (.agg #[.int .i64 rj,.int .i64 qj]) (.agg #[.int .i64 r,.int .i64 q])).run Tryz.prog w=.ok (.bool false) w:=fun w=>by rw [EQ w,e1];rfl
               have HD:Hid (∀t,t<j+1 ->Dif (gL l t) (gL l k)):=hid (fun t ht=>by
                by_cases e:t=j
                ·rw [e,Hh.out,HE.out];exact fun h=>hr h.1
                ·exact Hd.out t (by omega))
               clear He Hd Hf;go_wp2_with fail;go_quiet (fail);have Hm:=hid (below_drewS Hc.out nq);go_wp2_with fail;go_roundw;case rel=>exact⟨j+1,Hp,by go_num,Hm,HD⟩
               case measure=>simp [intOf];omega
             ·obtain rfl:j=k:=by omega
              have HN:Hid (LvOk R F T n l (j+1)/\ Dis l (j+1)):=hid ⟨HI.out.1.step (by rw [HE.out];exact Gi.out) (by rw [HE.out];exact Hn.out) (fun h=>by rw [HE.out];exact Ho.out h),HI.out.2.step Hd.out⟩;have HZ:=hid (Hb.out.trans (Hc.out.mono Hb.out.size));clear He Hd Hf t0 y2 y3 g0 g2 g3;go_wp2_with fail;go_roundw;case rel=>exact⟨j+1,Hv,by go_num,HZ,HN⟩
              case measure=>simp [intOf];omega
    ·obtain rfl:k=l.length:=by omega
     have HF:Hid (Y=true):=hid (by rw [<- HY.out];exact yes_t ⟨HC.out,by omega,HI.out.1,HI.out.2⟩);have HB:=hid (Hg.out.trans (Hr.out.mono Hg.out.size));clear m0 m1;go_wp2_with fail;go_ret;exact⟨ret_b HF.out.symm,HB.out⟩
open Go.Deep
structure Sx where
 l:List Lf
 n:Nat
 R:Nat ->Int
 F:Nat ->Int
 T:Nat ->Int
structure Sx.Sm (S:Sx):Prop where
 l1:S.l.length<=1048576
 p1:LBd S.l
 n1:S.n<=1048576
structure SAt (w:World)(a x:Option Addr)(S:Sx):Prop where
 lf:LSeg w a S.l
 rn:RSeg w x S.n S.R S.F S.T
theorem SAt.below {w w':World}{a x:Option Addr}{S:Sx}(h:SAt w a x S)(hb:Below w.heap.size w w'):SAt w' a x S:=⟨h.lf.below hb,h.rn.below hb⟩
structure SCt (w:World)(a x:Option Addr)(S:Sx):Prop where
 lf:LCap w a S.l
 rn:RSeg w x S.n S.R S.F S.T
theorem SCt.below {w w':World}{a x:Option Addr}{S:Sx}(h:SCt w a x S)(hb:Below w.heap.size w w'):SCt w' a x S:=⟨h.lf.below hb,h.rn.below hb⟩
theorem own_at5 {w w':World}{B e size n:Nat}{v:Value}{xs:List Value}(h:w.ownsRow B e size v n xs)(hk:∀g,v.ownBlock=some g ->w'.heap[g]? =w.heap[g]?):w'.ownsRow B e size v n xs:=by
 obtain⟨q1,q2⟩:=h;refine⟨q1,?_⟩;rcases q2 with q2|⟨g,Ha,Hb,e,Hc,hb,r⟩
 ·exact .inl q2
 ·subst e;exact .inr ⟨g,Ha,Hb,rfl,Hc,(hk g rfl).trans hb,r⟩
theorem own_weak5 {w:World}{B C e size n:Nat}{v:Value}{xs:List Value}(h:w.ownsRow B e size v n xs)(hc:C<=B):w.ownsRow C e size v n xs:=by
 obtain⟨q1,q2⟩:=h;refine⟨q1,?_⟩;rcases q2 with q2|⟨g,Ha,Hb,e,Hc,r⟩
 ·exact .inl q2
 ·exact .inr ⟨g,Ha,Hb,e,Nat.le_trans hc Hc,r⟩
theorem Bx5.new (w:World)(v0 v1 v2 v3 v4:Value)(t:TypeId):Bx5 (w.alloc (.cells #[v0,v1,v2,v3,v4] t)) w.heap.size v0 v1 v2 v3 v4:=
 ⟨by simp,by simp,by simp,by simp,by simp,fun i=>by simp,by simp⟩
theorem Bx5.up {w:World}{b:Nat}{v0 v1 v2 v3 v4:Value}(h:Bx5 w b v0 v1 v2 v3 v4)(o:Obj):Bx5 (w.alloc o) b v0 v1 v2 v3 v4:=h.below (zO w o) h.lt
open Go.Maps
theorem laidOutS:laidOutB Tryz.prog=true:=by kernel_rfl
theorem dotKeyed:Keyed Tryz.prog 58:=Keyed.of_law (deep_law_laid laidOutS (m:=3) (by omega) (of_decide_eq_true (by kernel_rfl)) (by kernel_rfl) (by kernel_rfl))
def dotV (r q:Int):Value:=.agg #[.int .i64 r,.int .i64 q]
theorem dotKT:Tryz.prog.keyType 58=true:=by kernel_rfl
theorem dotKey {r q:Int}(hr:(Lit.int .i64 r).wf=true)(hq:(Lit.int .i64 q).wf=true):∃kl,keyOf Tryz.prog 58 (dotV r q)=some kl:=by
 unfold keyOf;rw [Tryz.underlying58];simp only [dotKT,Bool.true_and];have h0:0<Tryz.prog.types.size:=of_decide_eq_true (by kernel_rfl);obtain⟨m,hm⟩:∃m,Tryz.prog.types.size=m+1:=⟨Tryz.prog.types.size - 1,by omega⟩;rw [hm];have e2:Tryz.prog.cellsOf 58=2:=by kernel_rfl
 have ei:Tryz.prog.cellsOf 3=1:=by kernel_rfl
 simp [Value.formed,dotV,Tryz.underlying58,e2,Program.keyLits,Tryz.underlying3,ei,Value.cells,hr,hq]
theorem dotKey_inj {r q r' q':Int}{kl:Lit}(h:keyOf Tryz.prog 58 (dotV r q)=some kl)(h':keyOf Tryz.prog 58 (dotV r' q')=some kl):r=r'/\ q=q':=by
 have e:=dotKeyed.inj h h';simpa [dotV] using e
structure DotM (w:World)(bm k:Nat)(l:List Lf)(D:DataW Value):Prop where
 own:w.ownsMap Tryz.prog 58 (plainElem Tryz.prog 3) bm k D
 tidy:Tidy D
 has':∀r q kl,keyOf Tryz.prog 58 (dotV r q)=some kl ->(has D kl=true↔∃j,j<k/\ (gL l j).r=r/\ (gL l j).q=q)
 le:size D<=k
 eq:size D=k↔∀i,i<k ->∀j,j<i ->¬((gL l j).r=(gL l i).r/\ (gL l j).q=(gL l i).q)
theorem DotM.step {w w':World}{bm k:Nat}{l:List Lf}{D:DataW Value}{kl:Lit}{d:DataW Value}(h:DotM w bm k l D)(hk:keyOf Tryz.prog 58 (dotV (gL l k).r (gL l k).q)=some kl)
  (ho:w'.ownsMap Tryz.prog 58 (plainElem Tryz.prog 3) bm (k+1) (D.put kl d)):DotM w' bm (k+1) l (D.put kl d):=by
 have Ha:=dotKeyed.key hk;have Hb:=size_put (k:=kl) h.tidy d;have hh:=h.has' _ _ _ hk;refine⟨ho,h.tidy.put Ha d,fun r q kl' hk'=> ?_,?_,?_⟩
 ·by_cases e:kl'=kl
  ·subst e;obtain⟨e1,e2⟩:=dotKey_inj hk hk';rw [has_put_same h.tidy.isMap Ha];exact⟨fun _=>⟨k,by omega,e1,e2⟩,fun _=>rfl⟩
  ·rw [has_put_other e,h.has' r q kl' hk'];constructor
   ·rintro⟨j,hj,r1⟩;exact⟨j,by omega,r1⟩
   ·rintro⟨j,hj,r1,r2⟩;by_cases ej:j=k
    ·subst ej;rw [r1,r2,hk'] at hk;injection hk with hk;exact absurd hk e
    ·exact⟨j,by omega,r1,r2⟩
 ·rw [Hb];have:=h.le;split<;>omega
 ·rw [Hb];have Hc:=h.le;by_cases hb:has D kl=true
  ·rw [if_pos hb];obtain⟨j,hj,r1,r2⟩:=hh.1 hb;constructor
   ·intro e;omega
   ·intro e;exact absurd ⟨r1,r2⟩ (e k (by omega) j hj)
  ·rw [if_neg hb];have hn:=fun j hj r1 r2=>hb (hh.2 ⟨j,hj,r1,r2⟩);constructor
   ·intro e i hi j hj;by_cases ei:i=k
    ·subst ei;exact fun q=>hn j hj q.1 q.2
    ·exact h.eq.1 (by omega) i (by omega) j hj
   ·intro e;have:=h.eq.2 (fun i hi j hj=>e i (by omega) j hj);omega
theorem DotM.made (w:World)(l:List Lf):DotM (w.alloc (.map #[] 0)) w.heap.size 0 l (.map []):=
 ⟨World.ownsMap_made w _ _ _,tidy_empty,fun r q kl hk=>⟨fun h=>by simp [has] at h,fun⟨j,hj,_⟩=>by omega⟩,by simp [size],⟨fun _ i hi=>by omega,fun _=>rfl⟩⟩
def allR (v:Value):Option (DataW Value×List MemPlace):=some (.held v,[])
theorem allR_inv {v:Value}{d:DataW Value}{ps:List MemPlace}(h:allR v=some (d,ps)):d=.held v:=by
 unfold allR at h;simp at h;exact h.1.symm
abbrev Ky:=ByteArray×Int
abbrev Dt:=Int×Int
def keyV (x:Ky):Value:=.agg #[.string x.1,.int .i64 x.2]
def dtV (d:Dt):Value:=dotV d.1 d.2
def mrkV:Option ByteArray ->Value
 | none=> .agg #[.string ByteArray.empty]
 | some s=> .agg #[.string s]
def nodV:Option (Nat×Nat) ->Value
 | none=> .agg #[.map none,.map none]
 | some x=> .agg #[.map (some x.1),.map (some x.2)]
theorem keyV_inj {x y:Ky}(h:keyV x=keyV y):x=y:=by
 obtain⟨a,b⟩:=x;obtain⟨c,d⟩:=y;simpa [keyV] using h
theorem dtV_inj {x y:Dt}(h:dtV x=dtV y):x=y:=by
 obtain⟨a,b⟩:=x;obtain⟨c,d⟩:=y;simpa [dtV,dotV] using h
theorem keyKeyed:Keyed Tryz.prog 114:=Keyed.of_law (deep_law_laid laidOutS (m:=3) (by omega) (of_decide_eq_true (by kernel_rfl)) (by kernel_rfl) (by kernel_rfl))
theorem keyKT:Tryz.prog.keyType 114=true:=by kernel_rfl
theorem keyKey {s:ByteArray}{k:Int}(hs:s.size<=maxLen)(hk:(Lit.int .i64 k).wf=true):∃kl,keyOf Tryz.prog 114 (keyV (s,k))=some kl:=by
 unfold keyOf;rw [Tryz.underlying114];simp only [keyKT,Bool.true_and];have h0:0<Tryz.prog.types.size:=of_decide_eq_true (by kernel_rfl);obtain⟨m,hm⟩:∃m,Tryz.prog.types.size=m+1:=⟨Tryz.prog.types.size - 1,by omega⟩;rw [hm];have e2:Tryz.prog.cellsOf 114=2:=by kernel_rfl
 have ei:Tryz.prog.cellsOf 3=1:=by kernel_rfl
 have es:Tryz.prog.cellsOf 9=1:=by kernel_rfl
 simp [Value.formed,keyV,Tryz.underlying114,e2,Program.keyLits,Tryz.underlying3,Tryz.underlying9,ei,es,Value.cells,hs,hk]
structure FM {α β:Type}(w:World)(t:TypeId)(kv:α ->Value)(vo:Option β ->Value)(b c:Nat)(f:α ->Option β)(D:DataW Value):Prop where
 own:w.ownsMap Tryz.prog t allR b c D
 at':∀x kl,keyOf Tryz.prog t (kv x)=some kl ->has D kl=(f x).isSome/\ D.atKey kl (.held (vo none))=.held (vo (f x))
 cov:∀kl,has D kl=true ->∃x,keyOf Tryz.prog t (kv x)=some kl
 ok:∀x,f x≠none ->∃kl,keyOf Tryz.prog t (kv x)=some kl
def MapF {α β:Type}(w:World)(t:TypeId)(kv:α ->Value)(vo:Option β ->Value)(b c:Nat)(f:α ->Option β):Prop:=∃D,FM w t kv vo b c f D
section
variable {α β : Type} {w : World} {t : TypeId} {kv : α -> Value} {vo : Option β -> Value} {b c : Nat} {f : α -> Option β}
theorem own_same {w w':World}{k:TypeId}{R:Value ->Option (DataW Value×List MemPlace)}{b n:Nat}{D:DataW Value}(h:w.ownsMap Tryz.prog k R b n D)(e:w'.heap[b]? =w.heap[b]?):w'.ownsMap Tryz.prog k R b n D:=by
 obtain⟨es,Ha,hb,r⟩:=h;exact⟨es,Ha,e.trans hb,r⟩
theorem MapF.same {w':World}(h:MapF w t kv vo b c f)(e:w'.heap[b]? =w.heap[b]?):MapF w' t kv vo b c f:=by
 obtain⟨D,h⟩:=h;exact⟨D,own_same h.own e,h.at',h.cov,h.ok⟩
theorem MapF.mono {c':Nat}(h:MapF w t kv vo b c f)(hc:c<=c'):MapF w t kv vo b c' f:=by
 obtain⟨D,h⟩:=h;exact⟨D,h.own.mono hc,h.at',h.cov,h.ok⟩
theorem MapF.lt (h:MapF w t kv vo b c f):b<w.heap.size:=by
 obtain⟨D,h⟩:=h;exact h.own.lt
theorem MapF.obj (h:MapF w t kv vo b c f):∃es Ha,w.heap[b]? =some (.map es Ha):=by
 obtain⟨D,h⟩:=h;obtain⟨es,Ha,hb,_⟩:=h.own;exact⟨es,Ha,hb⟩
theorem MapF.ext {g:α ->Option β}(h:MapF w t kv vo b c f)(e:∀x,f x=g x):MapF w t kv vo b c g:=by
 obtain rfl:f=g:=funext e;exact h
theorem MapF.look {mt e:TypeId}(h:MapF w t kv vo b c f)(K:Keyed Tryz.prog t)(ht:Tryz.prog.underlying mt=some (.map t e))(hz:(zeroValue e).run Tryz.prog w=.ok (vo none) w){x:α}{kl:Lit}(hk:keyOf Tryz.prog t (kv x)=some kl):
  (Instr.lookup mt (.map (some b)) (kv x) false).run Tryz.prog w=.ok (vo (f x)) w:=by
 obtain⟨D,h⟩:=h;obtain⟨v,ps,Ha,hv⟩:=h.own.lookup K ht hz (zd:=.held (vo none)) (zp:=[]) rfl hk;have:=allR_inv hv;rw [(h.at' x kl hk).2] at this;injection this with this;rw [<- this] at Ha;exact Ha
theorem MapF.look_ok {mt e:TypeId}(h:MapF w t kv vo b c f)(K:Keyed Tryz.prog t)(ht:Tryz.prog.underlying mt=some (.map t e))(hz:(zeroValue e).run Tryz.prog w=.ok (vo none) w){x:α}{kl:Lit}(hk:keyOf Tryz.prog t (kv x)=some kl):
  (Instr.lookup mt (.map (some b)) (kv x) true).run Tryz.prog w=.ok (.tuple #[vo (f x),.bool (f x).isSome]) w:=by
 obtain⟨D,h⟩:=h;obtain⟨v,ps,Ha,hv⟩:=h.own.look_ok K ht hz (zd:=.held (vo none)) (zp:=[]) rfl hk;have:=allR_inv hv;rw [(h.at' x kl hk).2] at this;injection this with this;rw [<- this,(h.at' x kl hk).1] at Ha;exact Ha
theorem MapF.made (w:World)(t:TypeId)(kv:α ->Value)(vo:Option β ->Value):MapF (w.alloc (.map #[] 0)) t kv vo w.heap.size 0 (fun _=>none):=
 ⟨.map [],World.ownsMap_made w _ _ _,fun x kl _=>⟨by simp [has],rfl⟩,fun kl h=>by simp [has] at h,fun x h=>absurd rfl h⟩
open Classical in
noncomputable def updF {α β:Type}(f:α ->Option β)(x:α)(v:Option β)(y:α):Option β:=if y=x then v else f y
theorem updF_same (f:α ->Option β)(x:α)(v:Option β):updF f x v x=v:=by unfold updF;simp
theorem updF_other (f:α ->Option β){x y:α}(v:Option β)(h:y≠x):updF f x v y=f y:=by unfold updF;simp [h]
theorem MapF.store {mt e:TypeId}(h:MapF w t kv vo b c f)(K:Keyed Tryz.prog t)(hi:∀x y,kv x=kv y ->x=y)(ht:Tryz.prog.underlying mt=some (.map t e))(hc:c<maxLen){x:α}{y:β}{kl:Lit}(hk:keyOf Tryz.prog t (kv x)=some kl):
  ∃w',(Instr.mapUpdate mt (.map (some b)) (kv x) (vo (some y))).run Tryz.prog w=.ok () w'/\ MapF w' t kv vo b (c+1) (updF f x (some y))/\ w.grownBy w' (some b):=by
 obtain⟨D,h⟩:=h;obtain⟨w',Hb,ho,hg⟩:=h.own.update K ht hc hk (val:=vo (some y)) (d:=.held (vo (some y))) (ps:=[]) rfl;have Ha:=K.key hk;refine⟨w',Hb,⟨_,ho,fun x' kl' hk'=> ?_,fun kl' hh=> ?_,fun x' hx'=> ?_⟩,hg⟩
 ·by_cases e1:x'=x
  ·subst e1;rw [hk] at hk';injection hk' with hk';subst hk';rw [updF_same,has_put_same h.own.isMap Ha,atKey_put_same h.own.isMap Ha];exact⟨rfl,rfl⟩
  ·have e2:kl'≠kl:=fun e=>e1 (hi _ _ (K.inj (e ▸ hk') hk));rw [updF_other _ _ e1,has_put_other e2,atKey_put_other e2];exact h.at' x' kl' hk'
 ·by_cases e2:kl'=kl
  ·subst e2;exact⟨x,hk⟩
  ·rw [has_put_other e2] at hh;exact h.cov kl' hh
 ·by_cases e1:x'=x
  ·subst e1;exact⟨kl,hk⟩
  ·rw [updF_other _ _ e1] at hx';exact h.ok x' hx'
theorem MapF.len {mt e:TypeId}(h:MapF w t kv vo b c f)(K:Keyed Tryz.prog t)(ht:Tryz.prog.underlying mt=some (.map t e)):∃n:Nat,(∀ty,(Builtin.len_ #[mt] ty #[.map (some b)]).run Tryz.prog w=.ok (.int .i64 n) w)/\ n<=c/\ (0<n↔∃x,f x≠none):=by
 obtain⟨D,h⟩:=h;refine⟨Maps.size D,fun ty=>h.own.len ht ty,h.own.size_le,?_⟩;obtain⟨es,rfl⟩:=h.own.isMap;constructor
 ·intro h0;have hk:∃kl,has (DataW.map es) kl=true:=by
   cases es with
   | nil=>simp [Maps.size] at h0
   | cons p r=>
    obtain⟨Hb,hD,_,Ha⟩:=h.own.entries K;have hp:WideAt.IsKeyLit p.1:=Ha p (by injection hD with hD;rw [<- hD];simp);refine⟨p.1,?_⟩;rw [has_eq];simp only [List.any_cons,Bool.or_eq_true];exact .inl (WideAt.sameKey_self hp)
  obtain⟨kl,Ha⟩:=hk;obtain⟨x,hx⟩:=h.cov kl Ha;refine⟨x,fun e=> ?_⟩;have:=(h.at' x kl hx).1;rw [Ha,e] at this;cases this
 ·rintro⟨x,hx⟩;obtain⟨kl,Ha⟩:=h.ok x hx;have:=(h.at' x kl Ha).1;cases es with
  | nil=>cases e:f x with
   | none=>exact absurd e hx
   | some y=>rw [e] at this;simp [has] at this
  | cons p r=>simp [Maps.size]
end
def wayOf (p:List ByteArray)(k:Int):List Ky:=(List.range p.length).map fun i=>(gS p i,if i+1<p.length then 3 else k)
theorem wayOf_len (p:List ByteArray)(k:Int):(wayOf p k).length=p.length:=by simp [wayOf]
theorem wayOf_get {p:List ByteArray}{k:Int}{i:Nat}(h:i<p.length):(wayOf p k)[i]? =some (gS p i,if i+1<p.length then 3 else k):=by simp [wayOf,h]
theorem wayOf_take {p:List ByteArray}{k:Int}{i:Nat}(h:i<p.length):(wayOf p k).take (i+1)=(wayOf p k).take i++[(gS p i,if i+1<p.length then 3 else k)]:=by
 have h':i<(wayOf p k).length:=by rw [wayOf_len];exact h
 rw [List.take_add_one,wayOf_get h];rfl
theorem gS_ext {p q:List ByteArray}(hl:p.length=q.length)(h:∀i,i<p.length ->gS p i=gS q i):p=q:=by
 refine List.ext_getElem hl fun i h1 h2=> ?_;have:=h i h1;simpa [gS,List.getD,h1,h2] using this
theorem wayOf_inj {p q:List ByteArray}{k j:Int}(h:wayOf p k=wayOf q j)(h0:0<p.length):p=q/\ k=j:=by
 have hl:p.length=q.length:=by have:=congrArg List.length h;simpa [wayOf_len] using this
 have Ha:∀i,i<p.length ->(gS p i,if i+1<p.length then 3 else k)=(gS q i,if i+1<q.length then(3:Int) else j):=fun i hi=>by
  have:=wayOf_get (k:=k) hi;rw [h,wayOf_get (by omega)] at this;injection this with this;exact this.symm
 refine⟨gS_ext hl fun i hi=>(Prod.mk.inj (Ha i hi)).1,?_⟩;have:=(Prod.mk.inj (Ha (p.length - 1) (by omega))).2;rw [if_neg (by omega),if_neg (by omega)] at this;exact this
theorem take_pre {α:Type}{l:List α}{k:Nat}{x:α}{q:List α}(h:l.take (k+1)=l.take k++[x]):q <+:l.take (k+1)↔q <+:l.take k \/q=l.take k++[x]:=by
 rw [h];constructor
 ·intro hq;rcases List.prefix_concat_iff.1 hq with e|e
  ·exact .inr e
  ·exact .inl e
 ·rintro(e|e)
  ·exact e.trans (List.prefix_append _ _)
  ·rw [e];exact List.prefix_refl _
structure Tre (w:World)(B:Nat)(N:List Ky ->Option (Nat×Nat))(M:List Ky ->Dt ->Option ByteArray)(c:Nat):Prop where
 kids:∀p x,N p=some x ->MapF w 114 keyV nodV x.1 c (fun y=>N (p++[y]))
 marks:∀p x,N p=some x ->MapF w 58 dtV mrkV x.2 c (M p)
 apart:∀p q x y,N p=some x ->N q=some y ->x.1≠y.2/\ (x.1=y.1 ->p=q)/\ (x.2=y.2 ->p=q)
 lo:∀p x,N p=some x ->B<=x.1/\ B<=x.2
 none':∀p,N p=none ->M p=fun _=>none
 up:∀p y,N p=none ->N (p++[y])=none
section
variable {w w' : World} {B c : Nat} {N : List Ky -> Option (Nat × Nat)} {M : List Ky -> Dt -> Option ByteArray}
theorem Tre.same (h:Tre w B N M c)(hs:∀p x,N p=some x ->w'.heap[x.1]? =w.heap[x.1]? /\ w'.heap[x.2]? =w.heap[x.2]?):Tre w' B N M c:=
 ⟨fun p x hx=>(h.kids p x hx).same (hs p x hx).1,fun p x hx=>(h.marks p x hx).same (hs p x hx).2,h.apart,h.lo,h.none',h.up⟩
theorem Tre.lt (h:Tre w B N M c){p:List Ky}{x:Nat×Nat}(hx:N p=some x):x.1<w.heap.size/\ x.2<w.heap.size:=⟨(h.kids p x hx).lt,(h.marks p x hx).lt⟩
theorem Tre.below (h:Tre w B N M c)(hb:Below w.heap.size w w'):Tre w' B N M c:=h.same fun p x hx=>⟨hb.block _ (h.lt hx).1,hb.block _ (h.lt hx).2⟩
theorem Tre.mono {c':Nat}(h:Tre w B N M c)(hc:c<=c'):Tre w B N M c':=⟨fun p x hx=>(h.kids p x hx).mono hc,fun p x hx=>(h.marks p x hx).mono hc,h.apart,h.lo,h.none',h.up⟩
theorem cell_obj {w:World}{q:Addr}{v:Value}(h:w.cell? q=some v):∀es Ha,w.heap[q.block]? ≠some (.map es Ha):=by
 intro es Ha e;simp [World.cell?,e] at h
theorem Tre.set (h:Tre w B N M c){q:Addr}{v:Value}(u:Value)(hc:w.cell? q=some v):Tre (w.setCell q u) B N M c:=by
 refine h.same fun p x hx=>⟨zH _ _ _ _ fun e=> ?_,zH _ _ _ _ fun e=> ?_⟩
 ·obtain⟨es,cl,ho⟩:=(h.kids p x hx).obj;rw [e] at ho;exact cell_obj hc _ _ ho
 ·obtain⟨es,cl,ho⟩:=(h.marks p x hx).obj;rw [e] at ho;exact cell_obj hc _ _ ho
structure Gt (B:Nat)(w w':World):Prop where
 os:w'.os=w.os
 tape:w'.tape=w.tape
 output:w'.output=w.output
 size:w.heap.size<=w'.heap.size
 block:∀g,g<w.heap.size ->(g<B \/∀es cl,w.heap[g]? ≠some (.map es cl)) ->w'.heap[g]? =w.heap[g]?
theorem Gt.refl (B:Nat)(w:World):Gt B w w:=⟨rfl,rfl,rfl,Nat.le_refl _,fun _ _ _=>rfl⟩
theorem Gt.trans {a b d:World}(h:Gt B a b)(k:Gt B b d):Gt B a d:=
 ⟨k.os.trans h.os,k.tape.trans h.tape,k.output.trans h.output,Nat.le_trans h.size k.size,fun g hg ho=>by
  have e:=h.block g hg ho;exact(k.block g (Nat.lt_of_lt_of_le hg h.size) (ho.imp id fun hn es cl=>by rw [e];exact hn es cl)).trans e⟩
theorem Gt.of_below (h:Below w.heap.size w w'):Gt B w w':=⟨h.os,h.tape,h.output,h.size,fun g hg _=>h.block g hg⟩
theorem Gt.below (h:Gt B w w')(hB:B<=w.heap.size):Below B w w':=⟨h.os,h.tape,h.output,h.size,fun g hg=>h.block g (by omega) (.inl hg)⟩
theorem Gt.cell (h:Gt B w w'){q:Addr}{v:Value}(hc:w.cell? q=some v):w'.cell? q=some v:=
 (World.cell?_of_block (h.block q.block (block_lt_of_cell hc) (.inr (cell_obj hc)))).trans hc
theorem Gt.frozen (h:Gt B w w'){q r:Addr}{v:Value}(hc:w.cell? r=some v)(hr:r.block=q.block):w'.frozen? q=w.frozen? q:=
 World.frozen?_of_block (by rw [<- hr];exact h.block r.block (block_lt_of_cell hc) (.inr (cell_obj hc)))
theorem Gt.grown {b:Nat}(hg:w.grownBy w' (some b))(hB:B<=b)(ho:∃es cl,w.heap[b]? =some (.map es cl)):Gt B w w':=
 ⟨hg.os,hg.tape,hg.output,hg.size,fun g h1 h2=>hg.block g h1 fun e=>by
  injection e with e;subst e;obtain⟨es,cl,ho⟩:=ho;rcases h2 with h2|h2
  ·omega
  ·exact h2 _ _ ho⟩
theorem Tre.add {p:List Ky}{y:Ky}{x:Nat×Nat}{s s':Nat}(h:Tre w B N M c)(hN:N p=some x)(hn:N (p++[y])=none)(hk:MapF w 114 (α:=Ky) keyV nodV s 0 (fun _=>none))(hm:MapF w 58 (α:=Dt) dtV mrkV s' 0 (fun _=>none))(hss:s≠s')
  (hs:∀p x,N p=some x ->x.1<s/\ x.2<s/\ x.1<s'/\ x.2<s') (hB:B<=s/\ B<=s')
  (hu:MapF w' 114 keyV nodV x.1 (c+1) (updF (fun z=>N (p++[z])) y (some (s,s')))) (hg:w.grownBy w' (some x.1)):Tre w' B (updF N (p++[y]) (some (s,s'))) M (c+1):=by
 have Hd:∀q z,q≠p ->q++[z]≠p++[y]:=fun q z hq e=>hq (List.append_inj' e rfl).1;have Ha:∀g,g<w.heap.size ->g≠x.1 ->w'.heap[g]? =w.heap[g]? :=fun g h1 h2=>hg.block g h1 (fun e=>h2 (by injection e));have He:=hs p x hN;refine⟨fun q z hz=> ?_,fun q z hz=> ?_,fun q r u v hu' hv=> ?_,fun q z hz=> ?_,fun q hq=> ?_,fun q z hq=> ?_⟩
 ·by_cases e:q=p++[y]
  ·subst e;rw [updF_same] at hz;injection hz with hz;subst hz;refine((hk.same (Ha _ hk.lt (by simp;omega))).mono (Nat.zero_le _)).ext fun z=> ?_;rw [updF_other _ _ (by intro e;have:=congrArg List.length e;simp at this)];exact(h.up _ z hn).symm
  ·rw [updF_other _ _ e] at hz;by_cases e2:q=p
   ·subst e2;rw [hN] at hz;injection hz with hz;subst hz;refine hu.ext fun z=> ?_;by_cases e3:z=y
    ·subst e3;rw [updF_same,updF_same]
    ·rw [updF_other _ _ e3,updF_other _ _ (fun e=>e3 (by simpa using e))]
   ·have Hb:=h.kids q z hz;refine((Hb.same (Ha _ Hb.lt fun e3=>e2 ((h.apart q p z x hz hN).2.1 e3))).mono (Nat.le_succ _)).ext fun z=> ?_;rw [updF_other _ _ (Hd q z e2)]
 ·by_cases e:q=p++[y]
  ·subst e;rw [updF_same] at hz;injection hz with hz;subst hz;refine((hm.same (Ha _ hm.lt (by simp;omega))).mono (Nat.zero_le _)).ext fun z=> ?_;rw [h.none' _ hn]
  ·rw [updF_other _ _ e] at hz;have Hc:=h.marks q z hz;exact(Hc.same (Ha _ Hc.lt fun e3=>(h.apart p q x z hN hz).1 e3.symm)).mono (Nat.le_succ _)
 ·by_cases e:q=p++[y]
  ·by_cases e':r=p++[y]
   ·subst e;subst e';rw [updF_same] at hu' hv;injection hu' with hu';injection hv with hv;subst hu';subst hv;exact⟨hss,fun _=>rfl,fun _=>rfl⟩
   ·subst e;rw [updF_same] at hu';rw [updF_other _ _ e'] at hv;injection hu' with hu';subst hu';have:=hs r v hv;exact⟨by simp;omega,fun e=>by simp at e;omega,fun e=>by simp at e;omega⟩
  ·rw [updF_other _ _ e] at hu';by_cases e':r=p++[y]
   ·subst e';rw [updF_same] at hv;injection hv with hv;subst hv;have:=hs q u hu';exact⟨by simp;omega,fun e=>by simp at e;omega,fun e=>by simp at e;omega⟩
   ·rw [updF_other _ _ e'] at hv;exact h.apart q r u v hu' hv
 ·by_cases e:q=p++[y]
  ·subst e;rw [updF_same] at hz;injection hz with hz;subst hz;exact hB
  ·rw [updF_other _ _ e] at hz;exact h.lo q z hz
 ·by_cases e:q=p++[y]
  ·subst e;rw [updF_same] at hq;cases hq
  ·rw [updF_other _ _ e] at hq;exact h.none' q hq
 ·by_cases e:q=p++[y]
  ·subst e;rw [updF_same] at hq;cases hq
  ·rw [updF_other _ _ e] at hq;have e2:q≠p:=fun e2=>by subst e2;rw [hN] at hq;cases hq
   rw [updF_other _ _ (Hd q z e2)];exact h.up q z hq
noncomputable def updM (M:List Ky ->Dt ->Option ByteArray)(p:List Ky)(d:Dt)(s:ByteArray)(q:List Ky):Dt ->Option ByteArray:=if yes (q=p)=true then updF (M p) d (some s) else M q
theorem updM_same (M:List Ky ->Dt ->Option ByteArray)(p:List Ky)(d:Dt)(s:ByteArray):updM M p d s p=updF (M p) d (some s):=by unfold updM;rw [if_pos (yes_t rfl)]
theorem updM_other (M:List Ky ->Dt ->Option ByteArray){p q:List Ky}(d:Dt)(s:ByteArray)(h:q≠p):updM M p d s q=M q:=by unfold updM;rw [if_neg (by rw [yes_f h];simp)]
theorem Tre.mark {p:List Ky}{x:Nat×Nat}{d:Dt}{s:ByteArray}(h:Tre w B N M c)(hN:N p=some x)
  (hu:MapF w' 58 dtV mrkV x.2 (c+1) (updF (M p) d (some s))) (hg:w.grownBy w' (some x.2)):Tre w' B N (updM M p d s) (c+1):=by
 have Ha:∀g,g<w.heap.size ->g≠x.2 ->w'.heap[g]? =w.heap[g]? :=fun g h1 h2=>hg.block g h1 (fun e=>h2 (by injection e));refine⟨fun q z hz=> ?_,fun q z hz=> ?_,h.apart,h.lo,fun q hq=> ?_,h.up⟩
 ·exact((h.kids q z hz).same (Ha _ (h.lt hz).1 (h.apart q p z x hz hN).1)).mono (Nat.le_succ _)
 ·by_cases e:q=p
  ·subst e;rw [hN] at hz;injection hz with hz;subst hz;rw [updM_same];exact hu
  ·rw [updM_other _ _ _ e];exact((h.marks q z hz).same (Ha _ (h.lt hz).2 fun e2=>e ((h.apart q p z x hz hN).2.2 e2))).mono (Nat.le_succ _)
 ·have e:q≠p:=fun e=>by subst e;rw [hN] at hq;cases hq
  rw [updM_other _ _ _ e];exact h.none' q hq
end
end Go.Proofs.YtfidfeilljlbiaaGreat
