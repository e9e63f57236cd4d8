import Derived.Test.YtpfmeafmepgimaaGreatFkg13
import Derived.Test.YtpfmeafmepgimaaGreatFkg14
import Derived.Laws.StructEq
set_option linter.unusedVariables false
set_option linter.unusedSimpArgs false
set_option maxRecDepth 100000
set_option maxHeartbeats 40000000
namespace Go.Proofs.YtpfmeafmepgimaaGreat
open Go.ChangeShapes Go.WideShapes Go.ChangeAt Go.RowKit
def nz (f:Nat ->Int):Nat ->Nat ->Int
 | 0,_=>0
 | n+1,k=>if f k=0 then nz f n (k+1) else f k
theorem nz_step {f:Nat ->Int}{n k:Nat}(h:k<n):nz f (n - k) k=if f k=0 then nz f (n - (k+1)) (k+1) else f k:=by
 rw [show n - k=(n - (k+1))+1 by omega];rfl
theorem cmpOr (b n c:Nat)(f:Nat ->Int)(w:World)(hn:n<=1000)(h:∀i,i<n ->w.cell? ⟨b,i,none⟩=some (.int .i64 (f i))):
  Calls Tryz.prog 96 #[.slice (some ⟨b,0,none⟩) n c] w fun e w'=>e=.returned (.int .i64 (nz f n 0))/\ w'=w:=by
 go_enter Tryz.func96,Tryz.ntmps96;go_wp2_with fail;go_loop [8] (fun i=>∃k:Nat,k<=n/\ i=.int .i64 (k:Int)/\ Hid (nz f n 0=nz f (n - k) k)) (fun i=>n - (intOf i).toNat);case atStart=>exact⟨0,Nat.zero_le _,rfl,hid rfl⟩
 case round=>
  obtain⟨k,hk,rfl,HE⟩:=hrel;by_cases hlt:k<n
  ·have x0:=h k hlt;have i1:(0:Int)<=(k:Int):=Int.natCast_nonneg _;have i2:(k:Int)<(n:Int):=by omega
   have HG:Hid (nz f n 0=if f k=0 then nz f (n - (k+1)) (k+1) else f k):=hid (by rw [HE.out,nz_step hlt]);obtain⟨x,hx⟩:∃x,f k=x:=⟨_,rfl⟩;rw [hx] at x0 HG;clear h hx HE;by_cases h0:x=0
   ·subst h0;have HG:Hid (nz f n 0=nz f (n - (k+1)) (k+1)):=hid (by rw [HG.out,if_pos rfl]);go_wp2_with fail;go_round;case rel=>exact⟨k+1,hlt,by go_num,HG⟩
    case measure=>simp [intOf];omega
   ·have HG:Hid (nz f n 0=x):=hid (by rw [HG.out,if_neg h0]);have n0:(x !=0)=true:=by simpa using h0
    go_wp2_with fail;go_ret;exact⟨ret_i HG.out.symm,rfl⟩
  ·obtain rfl:k=n:=by omega
   have HG:Hid (nz f k 0=0):=hid (by rw [HE.out,Nat.sub_self];rfl);clear h HE;go_wp2_with fail;go_ret;exact⟨ret_i HG.out.symm,rfl⟩
def orI (x y:Int):Int:=if x=0 then y else x
theorem nz2 {f:Nat ->Int}:nz f 2 0=orI (f 0) (f 1):=by
 unfold orI nz;by_cases h:f 0=0
 ·rw [if_pos h,if_pos h];unfold nz;by_cases h1:f 1=0
  ·rw [if_pos h1,h1];rfl
  ·rw [if_neg h1]
 ·rw [if_neg h,if_neg h]
theorem nz3 {f:Nat ->Int}:nz f 3 0=orI (f 0) (orI (f 1) (f 2)):=by
 unfold orI nz;by_cases h:f 0=0
 ·rw [if_pos h,if_pos h];unfold nz;by_cases h1:f 1=0
  ·rw [if_pos h1,if_pos h1];unfold nz;by_cases h2:f 2=0
   ·rw [if_pos h2,h2];rfl
   ·rw [if_neg h2]
  ·rw [if_neg h1,if_neg h1]
 ·rw [if_neg h,if_neg h]
def kd (fl:Bool):Int:=if fl=true then 2 else 1
def cmpD (r q r' q':Int):Int:=orI (cmpI r r') (cmpI q q')
def cmpL (x y:Lf):Int:=orI (cmpP x.p y.p) (orI (cmpI (kd x.fl) (kd y.fl)) (cmpD x.r x.q y.r y.q))
theorem leafKind (v0:Value)(fl:Bool)(v2 v3 v4:Value)(w:World):Calls Tryz.prog 39 #[.agg #[v0,.bool fl,v2,v3,v4]] w fun e w'=>e=.returned (.int .i64 (kd fl))/\ Below w.heap.size w w':=by
 have HB:=hid ((Below.refl w.heap.size w).alloc (Nat.le_refl _) (.cells #[v0,.bool fl,v2,v3,v4] 65));cases fl
 ·go_enter Tryz.func39,Tryz.ntmps39;go_wp2_with fail;go_ret;exact⟨rfl,HB.out⟩
 ·go_enter Tryz.func39,Tryz.ntmps39;go_wp2_with fail;go_ret;exact⟨rfl,HB.out⟩
theorem compareDots (r q r' q':Int)(w:World):Calls Tryz.prog 90 #[.agg #[.int .i64 r,.int .i64 q],.agg #[.int .i64 r',.int .i64 q']] w fun e w'=>e=.returned (.int .i64 (cmpD r q r' q'))/\ Below w.heap.size w w':=by
 obtain⟨W,hW⟩:∃W,(w.alloc (.cells #[.int .i64 r,.int .i64 q] 63)).alloc (.cells #[.int .i64 r',.int .i64 q'] 63)=W:=⟨_,rfl⟩;have b0:Below w.heap.size w W:=by rw [<- hW];exact below2 _ _ _
 have zW:W.heap.size=w.heap.size+2:=by rw [<- hW];simp
 have k0:W.cell? ⟨w.heap.size,0,none⟩=some (.int .i64 r):=by rw [<- hW];simp
 have k1:W.cell? ⟨w.heap.size,1,none⟩=some (.int .i64 q):=by rw [<- hW];simp
 have l0:W.cell? ⟨w.heap.size+1,0,none⟩=some (.int .i64 r'):=by rw [<- hW];simp
 have l1:W.cell? ⟨w.heap.size+1,1,none⟩=some (.int .i64 q'):=by rw [<- hW];simp
 have HB0:=hid b0;have z0:w.heap.size<W.heap.size:=by omega
 have z1:w.heap.size+1<W.heap.size:=by omega
 clear b0 zW;go_enter Tryz.func90,Tryz.ntmps90;go_wp2_with fail;try rw [hW]
 clear hW;have CS:∀w',Below W.heap.size W w' ->(Below W.heap.size W w'/\ w'.cell? ⟨w.heap.size,0,none⟩=some (.int .i64 r)/\ w'.cell? ⟨w.heap.size,1,none⟩=some (.int .i64 q)/\ w'.cell? ⟨w.heap.size+1,0,none⟩=some (.int .i64 r')/\ w'.cell? ⟨w.heap.size+1,1,none⟩=some (.int .i64 q')):=fun w' hB=>⟨hB,(hB.cell (p:=⟨w.heap.size,0,none⟩) z0).trans k0,(hB.cell (p:=⟨w.heap.size,1,none⟩) z0).trans k1,(hB.cell (p:=⟨w.heap.size+1,0,none⟩) z1).trans l0,(hB.cell (p:=⟨w.heap.size+1,1,none⟩) z1).trans l1⟩;have HCS:=hid CS;clear CS;refine wp_region_held_drew (S:=fun w'=>Below W.heap.size W w'/\ w'.cell? ⟨w.heap.size,0,none⟩=some (.int .i64 r)/\ w'.cell? ⟨w.heap.size,1,none⟩=some (.int .i64 q)/\ w'.cell? ⟨w.heap.size+1,0,none⟩=some (.int .i64 r')/\ w'.cell? ⟨w.heap.size+1,1,none⟩=some (.int .i64 q')) (by kernel_rfl) (HCS.out _ (Below.refl _ _).drew) (fun hHeld=> ?_);refine tZ 0 5 ?_;refine tZ 1 6 ?_;refine tZ 2 7 ?_;refine tZ 3 8 ?_;refine tZ 5 10 ?_;refine tZ 6 11 ?_;refine tZ 7 12 ?_;refine tZ 8 13 ?_;refine cZ 4 ?_;intro K hK;go_simp;refine(compare r r' _).mono ?_;rintro e w1 ⟨rfl,rfl⟩;refine hK.out _ _ hHeld (fun hHeld=> ?_);clear hK K;try simp only [Act.put,sZa,sZb,sZc]
 refine cZ 9 ?_;intro K hK;go_simp;refine(compare q q' _).mono ?_;rintro e w2 ⟨rfl,rfl⟩;refine hK.out _ _ hHeld (fun hHeld=> ?_);clear hK K;try simp only [Act.put,sZa,sZb,sZc]
 refine cZ 10 ?_;intro K hK;go_simp;have hB:=hHeld.1.alloc hHeld.1.size (.cells #[.int .i64 (cmpI r r'),.int .i64 (cmpI q q')] 3);refine hK.out _ _ (HCS.out _ hB) (fun hHeld=> ?_);clear hK K;try simp only [Act.put,sZa,sZb,sZc]
 refine cZ 11 ?_;intro K hK;go_simp;refine(cmpOr _ 2 2 (fun i=>if i=0 then cmpI r r' else cmpI q q') _ (by omega) (fun i hi=> ?_)).mono ?_
 ·match i,hi with
  | 0,_=>simp
  | 1,_=>simp
 rintro e w3 ⟨rfl,rfl⟩;refine hK.out _ _ hHeld (fun hHeld=> ?_);clear hK K;try simp only [Act.put,sZa,sZb,sZc]
 refine tZ 12 4 ?_;refine wpAnyH_done (by kernel_rfl) ?_ _;have HB:=hid (HB0.out.trans (hHeld.1.mono HB0.out.size));clear hHeld hB;go_wp2_with fail;go_ret;exact⟨ret_i nz2,HB.out⟩
theorem compareLeaves (a a':Option Addr)(c c':Nat)(p p':List ByteArray)(fl fl':Bool)(r q r' q':Int)(v v':ByteArray)(w:World)(hn:p.length<=1048576)(hn':p'.length<=1048576)(h:SSeg w a p)(h':SSeg w a' p'):
  Calls Tryz.prog 75 #[.agg #[.slice a p.length c,.bool fl,.int .i64 r,.int .i64 q,.string v],.agg #[.slice a' p'.length c',.bool fl',.int .i64 r',.int .i64 q',.string v']] w fun e w'=>e=.returned (.int .i64 (cmpL ⟨p,fl,r,q,v⟩ ⟨p',fl',r',q',v'⟩))/\ Below w.heap.size w w':=by
 obtain⟨W,hW⟩:∃W,(w.alloc (.cells #[.slice a p.length c,.bool fl,.int .i64 r,.int .i64 q,.string v] 65)).alloc (.cells #[.slice a' p'.length c',.bool fl',.int .i64 r',.int .i64 q',.string v'] 65)=W:=⟨_,rfl⟩;have b0:Below w.heap.size w W:=by rw [<- hW];exact below2 _ _ _
 have zW:W.heap.size=w.heap.size+2:=by rw [<- hW];simp
 have k0:W.cell? ⟨w.heap.size,0,none⟩=some (.slice a p.length c):=by rw [<- hW];simp
 have k1:W.cell? ⟨w.heap.size,1,none⟩=some (.bool fl):=by rw [<- hW];simp
 have k2:W.cell? ⟨w.heap.size,2,none⟩=some (.int .i64 r):=by rw [<- hW];simp
 have k3:W.cell? ⟨w.heap.size,3,none⟩=some (.int .i64 q):=by rw [<- hW];simp
 have k4:W.cell? ⟨w.heap.size,4,none⟩=some (.string v):=by rw [<- hW];simp
 have l0:W.cell? ⟨w.heap.size+1,0,none⟩=some (.slice a' p'.length c'):=by rw [<- hW];simp
 have l1:W.cell? ⟨w.heap.size+1,1,none⟩=some (.bool fl'):=by rw [<- hW];simp
 have l2:W.cell? ⟨w.heap.size+1,2,none⟩=some (.int .i64 r'):=by rw [<- hW];simp
 have l3:W.cell? ⟨w.heap.size+1,3,none⟩=some (.int .i64 q'):=by rw [<- hW];simp
 have l4:W.cell? ⟨w.heap.size+1,4,none⟩=some (.string v'):=by rw [<- hW];simp
 have HB0:=hid b0;have z0:w.heap.size<W.heap.size:=by omega
 have z1:w.heap.size+1<W.heap.size:=by omega
 have HS:=hid (h.below b0);have HS':=hid (h'.below b0);clear b0 zW h h';go_enter Tryz.func75,Tryz.ntmps75;go_wp2_with fail;try rw [hW]
 clear hW;have CS:∀w',Below W.heap.size W w' ->(Below W.heap.size W w'/\ w'.cell? ⟨w.heap.size,0,none⟩=some (.slice a p.length c)/\ w'.cell? ⟨w.heap.size,1,none⟩=some (.bool fl)/\ w'.cell? ⟨w.heap.size,2,none⟩=some (.int .i64 r)/\ w'.cell? ⟨w.heap.size,3,none⟩=some (.int .i64 q)/\ w'.cell? ⟨w.heap.size,4,none⟩=some (.string v)/\ w'.cell? ⟨w.heap.size+1,0,none⟩=some (.slice a' p'.length c')/\ w'.cell? ⟨w.heap.size+1,1,none⟩=some (.bool fl')/\ w'.cell? ⟨w.heap.size+1,2,none⟩=some (.int .i64 r')/\ w'.cell? ⟨w.heap.size+1,3,none⟩=some (.int .i64 q')/\ w'.cell? ⟨w.heap.size+1,4,none⟩=some (.string v')):=fun w' hB=>⟨hB,(hB.cell (p:=⟨w.heap.size,0,none⟩) z0).trans k0,(hB.cell (p:=⟨w.heap.size,1,none⟩) z0).trans k1,(hB.cell (p:=⟨w.heap.size,2,none⟩) z0).trans k2,(hB.cell (p:=⟨w.heap.size,3,none⟩) z0).trans k3,(hB.cell (p:=⟨w.heap.size,4,none⟩) z0).trans k4,(hB.cell (p:=⟨w.heap.size+1,0,none⟩) z1).trans l0,(hB.cell (p:=⟨w.heap.size+1,1,none⟩) z1).trans l1,(hB.cell (p:=⟨w.heap.size+1,2,none⟩) z1).trans l2,(hB.cell (p:=⟨w.heap.size+1,3,none⟩) z1).trans l3,(hB.cell (p:=⟨w.heap.size+1,4,none⟩) z1).trans l4⟩;have HCS:=hid CS;clear CS;refine wp_region_held_drew (S:=fun w'=>Below W.heap.size W w'/\ w'.cell? ⟨w.heap.size,0,none⟩=some (.slice a p.length c)/\ w'.cell? ⟨w.heap.size,1,none⟩=some (.bool fl)/\ w'.cell? ⟨w.heap.size,2,none⟩=some (.int .i64 r)/\ w'.cell? ⟨w.heap.size,3,none⟩=some (.int .i64 q)/\ w'.cell? ⟨w.heap.size,4,none⟩=some (.string v)/\ w'.cell? ⟨w.heap.size+1,0,none⟩=some (.slice a' p'.length c')/\ w'.cell? ⟨w.heap.size+1,1,none⟩=some (.bool fl')/\ w'.cell? ⟨w.heap.size+1,2,none⟩=some (.int .i64 r')/\ w'.cell? ⟨w.heap.size+1,3,none⟩=some (.int .i64 q')/\ w'.cell? ⟨w.heap.size+1,4,none⟩=some (.string v')) (by kernel_rfl) (HCS.out _ (Below.refl _ _).drew) (fun hHeld=> ?_);refine tZ 0 5 ?_;refine tZ 1 6 ?_;refine tZ 2 7 ?_;refine tZ 3 8 ?_;refine tZ 5 10 ?_;refine tZ 7 12 ?_;refine tZ 10 15 ?_;refine tZ 11 16 ?_;refine tZ 12 17 ?_;refine tZ 13 18 ?_;refine cZ 4 ?_;intro K hK;go_simp;refine(cmpImpl p p' a a' c c' _ hn hn' (HS.out.below hHeld.1) (HS'.out.below hHeld.1)).mono ?_;rintro e w1 ⟨rfl,rfl⟩;refine hK.out _ _ hHeld (fun hHeld=> ?_);clear hK K;try simp only [Act.put,sZa,sZb,sZc]
 refine cZ 6 ?_;intro K hK;go_simp;refine(leafKind _ fl _ _ _ _).mono ?_;rintro e w2 ⟨rfl,b2⟩;have hB2:=hHeld.1.trans (b2.mono hHeld.1.size);refine hK.out _ _ (HCS.out _ hB2) (fun hHeld=> ?_);clear hK K;try simp only [Act.put,sZa,sZb,sZc]
 refine cZ 8 ?_;intro K hK;go_simp;refine(leafKind _ fl' _ _ _ _).mono ?_;rintro e w3 ⟨rfl,b3⟩;have hB3:=hHeld.1.trans (b3.mono hHeld.1.size);refine hK.out _ _ (HCS.out _ hB3) (fun hHeld=> ?_);clear hK K;try simp only [Act.put,sZa,sZb,sZc]
 refine cZ 9 ?_;intro K hK;go_simp;refine(compare (kd fl) (kd fl') _).mono ?_;rintro e w4 ⟨rfl,rfl⟩;refine hK.out _ _ hHeld (fun hHeld=> ?_);clear hK K;try simp only [Act.put,sZa,sZb,sZc]
 refine cZ 14 ?_;intro K hK;go_simp;refine(compareDots r q r' q' _).mono ?_;rintro e w5 ⟨rfl,b5⟩;have hB5:=hHeld.1.trans (b5.mono hHeld.1.size);refine hK.out _ _ (HCS.out _ hB5) (fun hHeld=> ?_);clear hK K;try simp only [Act.put,sZa,sZb,sZc]
 refine cZ 15 ?_;intro K hK;go_simp;have hB:=hHeld.1.alloc hHeld.1.size (.cells #[.int .i64 (cmpP p p'),.int .i64 (cmpI (kd fl) (kd fl')),.int .i64 (cmpD r q r' q')] 3);refine hK.out _ _ (HCS.out _ hB) (fun hHeld=> ?_);clear hK K;try simp only [Act.put,sZa,sZb,sZc]
 refine cZ 16 ?_;intro K hK;go_simp;refine(cmpOr _ 3 3 (fun i=>if i=0 then cmpP p p' else if i=1 then cmpI (kd fl) (kd fl') else cmpD r q r' q') _ (by omega) (fun i hi=> ?_)).mono ?_
 ·match i,hi with
  | 0,_=>simp
  | 1,_=>simp
  | 2,_=>simp
 rintro e w6 ⟨rfl,rfl⟩;refine hK.out _ _ hHeld (fun hHeld=> ?_);clear hK K;try simp only [Act.put,sZa,sZb,sZc]
 refine tZ 17 4 ?_;refine wpAnyH_done (by kernel_rfl) ?_ _;have HB:=hid (HB0.out.trans (hHeld.1.mono HB0.out.size));clear hHeld hB hB5 hB3 hB2 b5 b3 b2;go_wp2_with fail;go_ret;exact⟨ret_i nz3,HB.out⟩
theorem yes_d {P:Prop} [Decidable P]:yes P=decide P:=by
 by_cases h:P
 ·rw [yes_t h,decide_eq_true h]
 ·rw [yes_f h,decide_eq_false h]
theorem cmpI_neg {x y:Int}:cmpI x y<0↔x<y:=by unfold cmpI;split<;>(try split)<;>omega
theorem cmpI_z {x y:Int}:cmpI x y=0↔x=y:=by unfold cmpI;split<;>(try split)<;>omega
theorem befF {p p':List ByteArray}{fl fl':Bool}{r q r' q':Int}{v v':ByteArray}:
  (cmpP p p'≠0 ->yes (cmpL ⟨p,fl,r,q,v⟩ ⟨p',fl',r',q',v'⟩<0)=decide (cmpP p p'<0))/\
  (cmpP p p'=0 ->fl≠fl' ->yes (cmpL ⟨p,fl,r,q,v⟩ ⟨p',fl',r',q',v'⟩<0)=fl')/\
  (cmpP p p'=0 ->fl=fl' ->r≠r' ->yes (cmpL ⟨p,fl,r,q,v⟩ ⟨p',fl',r',q',v'⟩<0)=decide (r<r'))/\
  (cmpP p p'=0 ->fl=fl' ->r=r' ->yes (cmpL ⟨p,fl,r,q,v⟩ ⟨p',fl',r',q',v'⟩<0)=decide (q<q')):=by
 refine⟨fun h=> ?_,fun h hf=> ?_,fun h hf hr=> ?_,fun h hf hr=> ?_⟩
 ·rw [yes_d];simp only [cmpL,orI,if_neg h]
 ·have e:cmpL ⟨p,fl,r,q,v⟩ ⟨p',fl',r',q',v'⟩=cmpI (kd fl) (kd fl'):=by
   have:cmpI (kd fl) (kd fl')≠0:=by rw [Ne,cmpI_z];cases fl<;>cases fl'<;>simp_all [kd]
   simp only [cmpL,orI,if_pos h,if_neg this]
  rw [e,yes_d];cases fl<;>cases fl'<;>simp_all [kd,cmpI]
 ·have e:cmpL ⟨p,fl,r,q,v⟩ ⟨p',fl',r',q',v'⟩=cmpI r r':=by
   have h1:cmpI (kd fl) (kd fl')=0:=by rw [cmpI_z,hf]
   have h2:cmpI r r'≠0:=by rw [Ne,cmpI_z];exact hr
   simp only [cmpL,orI,if_pos h,if_pos h1,cmpD,if_neg h2]
  rw [e,yes_d];exact decide_eq_decide.2 cmpI_neg
 ·have e:cmpL ⟨p,fl,r,q,v⟩ ⟨p',fl',r',q',v'⟩=cmpI q q':=by
   have h1:cmpI (kd fl) (kd fl')=0:=by rw [cmpI_z,hf]
   have h2:cmpI r r'=0:=by rw [cmpI_z];exact hr
   simp only [cmpL,orI,if_pos h,if_pos h1,cmpD,if_pos h2]
  rw [e,yes_d];exact decide_eq_decide.2 cmpI_neg
theorem l3Before (a a':Option Addr)(c c':Nat)(p p':List ByteArray)(fl fl':Bool)(r q r' q':Int)(v v':ByteArray)(w:World)(hn:p.length<=1048576)(hn':p'.length<=1048576)(hc:p.length<=c)(hc':p'.length<=c')(hx:c<=9223372036854775807)(hx':c'<=9223372036854775807)(h:SSeg w a p)(h':SSeg w a' p'):
  Calls Tryz.prog 31 #[.agg #[.slice a p.length c,.bool fl,.int .i64 r,.int .i64 q,.string v],.agg #[.slice a' p'.length c',.bool fl',.int .i64 r',.int .i64 q',.string v']] w fun e w'=>e=.returned (.bool (yes (cmpL ⟨p,fl,r,q,v⟩ ⟨p',fl',r',q',v'⟩<0)))/\ Below w.heap.size w w':=by
 obtain⟨W,hW⟩:∃W,(w.alloc (.cells #[.slice a p.length c,.bool fl,.int .i64 r,.int .i64 q,.string v] 65)).alloc (.cells #[.slice a' p'.length c',.bool fl',.int .i64 r',.int .i64 q',.string v'] 65)=W:=⟨_,rfl⟩;have b0:Below w.heap.size w W:=by rw [<- hW];exact below2 _ _ _
 have zW:W.heap.size=w.heap.size+2:=by rw [<- hW];simp
 have k0:W.cell? ⟨w.heap.size,0,none⟩=some (.slice a p.length c):=by rw [<- hW];simp
 have k1:W.cell? ⟨w.heap.size,1,none⟩=some (.bool fl):=by rw [<- hW];simp
 have k2:W.cell? ⟨w.heap.size,2,none⟩=some (.int .i64 r):=by rw [<- hW];simp
 have k3:W.cell? ⟨w.heap.size,3,none⟩=some (.int .i64 q):=by rw [<- hW];simp
 have k4:W.cell? ⟨w.heap.size,4,none⟩=some (.string v):=by rw [<- hW];simp
 have l0:W.cell? ⟨w.heap.size+1,0,none⟩=some (.slice a' p'.length c'):=by rw [<- hW];simp
 have l1:W.cell? ⟨w.heap.size+1,1,none⟩=some (.bool fl'):=by rw [<- hW];simp
 have l2:W.cell? ⟨w.heap.size+1,2,none⟩=some (.int .i64 r'):=by rw [<- hW];simp
 have l3:W.cell? ⟨w.heap.size+1,3,none⟩=some (.int .i64 q'):=by rw [<- hW];simp
 have l4:W.cell? ⟨w.heap.size+1,4,none⟩=some (.string v'):=by rw [<- hW];simp
 have HB0:=hid b0;have z0:w.heap.size<W.heap.size:=by omega
 have z1:w.heap.size+1<W.heap.size:=by omega
 have HS:=hid (cmpSpec p p' a a' c c' W hc hc' hx hx' (h.below b0) (h'.below b0));obtain⟨F1,F2,F3,F4⟩:=@befF p p' fl fl' r q r' q' v v';have H1:=hid F1;have H2:=hid F2;have H3:=hid F3;have H4:=hid F4;obtain⟨B,hB⟩:∃B,yes (cmpL ⟨p,fl,r,q,v⟩ ⟨p',fl',r',q',v'⟩<0)=B:=⟨_,rfl⟩;obtain⟨x,hx⟩:∃x,cmpP p p'=x:=⟨_,rfl⟩;rw [hB] at H1 H2 H3 H4;rw [hx] at H1 H2 H3 H4 HS;rw [hB];clear b0 zW h h' F1 F2 F3 F4 hB hx;go_enter Tryz.func31,Tryz.ntmps31;go_wp2_with fail;try rw [hW]
 clear hW;refine HS.out.mono ?_;rintro e w1 ⟨rfl,k,hk⟩;have mk1:w1.cell? ⟨w.heap.size,1,none⟩=some (.bool fl):=by rw [hk];exact k1
 have mk2:w1.cell? ⟨w.heap.size,2,none⟩=some (.int .i64 r):=by rw [hk];exact k2
 have mk3:w1.cell? ⟨w.heap.size,3,none⟩=some (.int .i64 q):=by rw [hk];exact k3
 have ml1:w1.cell? ⟨w.heap.size+1,1,none⟩=some (.bool fl'):=by rw [hk];exact l1
 have ml2:w1.cell? ⟨w.heap.size+1,2,none⟩=some (.int .i64 r'):=by rw [hk];exact l2
 have ml3:w1.cell? ⟨w.heap.size+1,3,none⟩=some (.int .i64 q'):=by rw [hk];exact l3
 have HB1:Hid (Below w.heap.size w w1):=hid (by rw [hk];exact⟨HB0.out.os,HB0.out.tape,HB0.out.output,HB0.out.size,HB0.out.block⟩);clear hk k0 k1 k2 k3 k4 l0 l1 l2 l3 l4 HS z0 z1 HB0;by_cases h0:x=0
 ·have e0:(x !=0)=false:=by simp [h0]
  by_cases h1:fl=fl'
  ·have e1:(fl !=fl')=false:=by simp [h1]
   by_cases h2:r=r'
   ·have e2:(r !=r')=false:=by simp [h2]
    have HG:=hid (H4.out h0 h1 h2);clear H1 H2 H3 H4;go_wp2_with fail;go_ret;exact⟨ret_b HG.out.symm,HB1.out⟩
   ·have e2:(r !=r')=true:=by simpa using h2
    have HG:=hid (H3.out h0 h1 h2);clear H1 H2 H3 H4;go_wp2_with fail;go_ret;exact⟨ret_b HG.out.symm,HB1.out⟩
  ·have e1:(fl !=fl')=true:=by simpa using h1
   have HG:=hid (H2.out h0 h1);clear H1 H2 H3 H4 e1;cases fl<;>cases fl'<;>first
    | exact absurd rfl h1
    | (clear h1;go_wp2_with fail;go_ret;exact⟨ret_b HG.out.symm,HB1.out⟩)
 ·have e0:(x !=0)=true:=by simpa using h0
  have HG:=hid (H1.out h0);clear H1 H2 H3 H4;go_wp2_with fail;go_ret;exact⟨ret_b HG.out.symm,HB1.out⟩
def emB (v:ByteArray):Bool:=v.toList.isEmpty
def LfOk1 (x:Lf):Prop:=PthOk x.p/\ x.v.size<=200/\ (x.fl=true ->emB x.v=true)
theorem leafOk (a:Option Addr)(c:Nat)(p:List ByteArray)(fl:Bool)(r q:Int)(v:ByteArray)(w:World)(hn:p.length<=1048576)(h:SSeg w a p):
  Calls Tryz.prog 82 #[.agg #[.slice a p.length c,.bool fl,.int .i64 r,.int .i64 q,.string v]] w fun e w'=>e=.returned (.bool (yes (LfOk1 ⟨p,fl,r,q,v⟩)))/\ Below w.heap.size w w':=by
 obtain⟨W,hW⟩:∃W,w.alloc (.cells #[.slice a p.length c,.bool fl,.int .i64 r,.int .i64 q,.string v] 65)=W:=⟨_,rfl⟩;have b0:Below w.heap.size w W:=by rw [<- hW];exact(Below.refl _ _).alloc (Nat.le_refl _) _
 have k0:W.cell? ⟨w.heap.size,0,none⟩=some (.slice a p.length c):=by rw [<- hW];simp
 have k1:W.cell? ⟨w.heap.size,1,none⟩=some (.bool fl):=by rw [<- hW];simp
 have k4:W.cell? ⟨w.heap.size,4,none⟩=some (.string v):=by rw [<- hW];simp
 have HS:=hid (pathImpl p a c W hn (h.below b0));have HB0:=hid b0;obtain⟨B,hB⟩:∃B,yes (LfOk1 ⟨p,fl,r,q,v⟩)=B:=⟨_,rfl⟩;have HE:=hid hB;rw [hB];clear b0 h hB;by_cases hbad:fl=true/\ emB v=false
 ·have e0:v.toList.isEmpty=false:=hbad.2;have HG:Hid (B=false):=hid (by rw [<- HE.out];exact yes_f (fun h=>by have:=h.2.2 hbad.1;simp only at this;rw [hbad.2] at this;cases this));obtain⟨rfl,_⟩:=hbad;go_enter Tryz.func82,Tryz.ntmps82;go_wp2_with fail;try rw [hW]
  clear hW;go_wp2_with fail;go_ret;exact⟨ret_b HG.out.symm,HB0.out⟩
 ·have HG:Hid (B=(yes (PthOk p) && decide (v.size<=200))):=hid (by
   rw [<- HE.out];have hi:fl=true ->emB v=true:=fun e=>by
    by_cases h:emB v=true
    ·exact h
    ·exact absurd ⟨e,by simpa using h⟩ hbad
   by_cases h1:PthOk p
   ·by_cases h2:v.size<=200
    ·rw [yes_t ⟨h1,h2,hi⟩,yes_t h1,decide_eq_true h2];rfl
    ·rw [yes_f (fun h=>h2 h.2.1),yes_t h1,decide_eq_false h2];rfl
   ·rw [yes_f (fun h=>h1 h.1),yes_f h1];rfl)
  obtain⟨Y,hY⟩:∃Y,yes (PthOk p)=Y:=⟨_,rfl⟩;rw [hY] at HG HS;clear hY HE;have hsz:decide ((v.size:Int)<=200)=decide (v.size<=200):=decide_eq_decide.2 (by omega);obtain⟨Z,hZ⟩:∃Z,decide (v.size<=200)=Z:=⟨_,rfl⟩;rw [hZ] at HG hsz;clear hZ;have fin:∀(Y Z:Bool),B=(Y && Z) ->Y=false ->B=false:=fun Y Z h h1=>by rw [h,h1];rfl
  have HF:=hid fin;clear fin;cases fl with
  | false=>
   clear hbad;go_enter Tryz.func82,Tryz.ntmps82;go_wp2_with fail;try rw [hW]
   clear hW;go_wp2_with fail;refine HS.out.mono ?_;rintro e w1 ⟨rfl,rfl⟩;cases Y with
   | true=>
    go_wp2_with fail;go_ret;exact⟨ret_b (by rw [HG.out];simp [hsz]),HB0.out⟩
   | false=>
    go_wp2_with fail;go_ret;exact⟨ret_b (by rw [HG.out];rfl),HB0.out⟩
  | true=>
   have e0:v.toList.isEmpty=true:=by
    by_cases h:emB v=true
    ·exact h
    ·exact absurd ⟨rfl,by simpa using h⟩ hbad
   clear hbad;go_enter Tryz.func82,Tryz.ntmps82;go_wp2_with fail;try rw [hW]
   clear hW;go_wp2_with fail;refine HS.out.mono ?_;rintro e w1 ⟨rfl,rfl⟩;cases Y with
   | true=>
    go_wp2_with fail;go_ret;exact⟨ret_b (by rw [HG.out];simp [hsz]),HB0.out⟩
   | false=>
    go_wp2_with fail;go_ret;exact⟨ret_b (by rw [HG.out];rfl),HB0.out⟩
theorem dotF:Tryz.prog.fieldsOf 63=match Tryz.prog.underlying 63 with|some (.struct fs)=>fs|_=>#[]:=rfl
theorem dotStood:Tryz.prog.stoodInHeld 63=false:=by kernel_rfl
theorem dotGuard:Tryz.prog.eqGuardType Tryz.prog.depth 63=false:=by kernel_rfl
theorem eqlDot (r q r' q':Int)(w:World):(binOp .eql 63 (.agg #[.int .i64 r,.int .i64 q]) (.agg #[.int .i64 r',.int .i64 q'])).run Tryz.prog w=.ok (.bool (r==r' && q==q')) w:=by
 rw [run_eql_struct,show (10000:Nat)=9999+1 from rfl,run_equalIn_agg _ _ _ _ _ (by kernel_rfl) dotStood,dotF,Tryz.underlying63];cases h1:(r==r')<;>simp [Op.eqFields,go_sem,Tryz.underlying3,h1];by_cases h2:q=q'<;>simp [h2]
end Go.Proofs.YtpfmeafmepgimaaGreat
