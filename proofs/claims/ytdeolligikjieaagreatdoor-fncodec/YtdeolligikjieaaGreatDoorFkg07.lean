import Derived.Test.YtdeolligikjieaaGreatDoorFkg06
import Derived.Laws.StructEq
import Derived.Deep.CutRange
import Derived.Deep.Slices
import Derived.Deep.Strs
import Derived.Maps.Own
import Derived.Maps.OwnSet
import Derived.Maps.OwnOps
import Derived.Maps.Views
import Derived.DeepKeys4
import Derived.Maps.Range
set_option linter.unusedVariables false
set_option linter.unusedSimpArgs false
set_option maxRecDepth 100000
set_option maxHeartbeats 40000000
namespace Go.Proofs.YtdeolligikjieaaGreatDoor
open Go.ChangeShapes Go.WideShapes Go.ChangeAt Go.RowKit Go.Maps
theorem Qkk {R F T:Nat ->Int}{r f t:Int}{k n:Nat}(hk:k<n)(h:R k=r/\ F k<=f/\ t<=T k):Qco R F T r f t n=true:=by
 induction n with
 | zero=>omega
 | succ n ih=>
  simp only [Qco,Bool.or_eq_true,decide_eq_true_iff];by_cases e:k=n
  ·subst e;exact .inr h
  ·exact .inl (ih (by omega))
theorem QdE {R F T:Nat ->Int}{r f t:Int}{k:Nat}(h:Qco R F T r f t k=false)(h2:¬(R k=r/\ F k<=f/\ t<=T k)):Qco R F T r f t (k+1)=false:=by
 simp only [Qco,h,Bool.false_or,decide_eq_false_iff_not];exact h2
theorem Qms (a:Option Addr)(n c:Nat)(R F T:Nat ->Int)(r q:Int)(w:World)(hn:n<=1048576)(h:Qb3 w a n R F T):
  Calls Tryz.prog 26 #[.agg #[.slice a n c],.agg #[.int .i64 r,.int .i64 q]] w fun e w'=>e=.returned (.bool (Qco R F T r q q n))/\ Below w.heap.size w w':=by
 obtain⟨j,v⟩:∃j,(w.alloc (.cells #[.slice a n c] 26)).alloc (.cells #[.int .i64 r,.int .i64 q] 67)=j:=⟨_,rfl⟩;have Y:Below w.heap.size w j:=by rw [<- v];exact Qak _ _ _
 have H:j.cell? ⟨w.heap.size,0,none⟩=some (.slice a n c):=by rw [<- v];simp
 have x0:j.cell? ⟨w.heap.size+1,0,none⟩=some (.int .i64 r):=by rw [<- v];simp
 have J:j.cell? ⟨w.heap.size+1,1,none⟩=some (.int .i64 q):=by rw [<- v];simp
 have W:j.heap.size=w.heap.size+2:=by rw [<- v];simp
 have Z:=h.below Y;clear h;go_enter Tryz.func26,Tryz.ntmps26;go_wp2_with fail;try rw [v]
 clear v;go_loopw [5] (fun i wr=>∃k:Nat,k<=n/\ i=.int .i64 k/\ Qco R F T r q q k=false/\ Below j.heap.size j wr) (fun i _=>n - (intOf i).toNat);case atStart=>exact⟨0,Nat.zero_le _,rfl,rfl,zI⟩
 case round=>
  obtain⟨k,C,rfl,I,m⟩:=hrel;have A:=(m.cell (p:=⟨w.heap.size,0,none⟩) (show w.heap.size<j.heap.size by omega)).trans H;have U:=(m.cell (p:=⟨w.heap.size+1,0,none⟩) (show w.heap.size+1<j.heap.size by omega)).trans x0;have V:=(m.cell (p:=⟨w.heap.size+1,1,none⟩) (show w.heap.size+1<j.heap.size by omega)).trans J;have g:=hid m;have s:=hid I;by_cases y:k<n
  ·rcases Z with Z|⟨b,off,rfl,G,Q⟩
   ·omega
   have E:=(m.cell (p:=⟨b,off+k*3,none⟩) G).trans (Q k y).1;have M:=(m.cell (p:=⟨b,off+k*3+1,none⟩) G).trans (Q k y).2.1;have O:=(m.cell (p:=⟨b,off+k*3+2,none⟩) G).trans (Q k y).2.2;have D:(0:Int)<=(k:Int):=Int.natCast_nonneg _;have P:(k:Int)<(n:Int):=by omega
   clear Q m I H x0 J;by_cases z:R k=r
   ·have N:(R k==r)=true:=by simp;exact z
    have K:=hid z;clear z;by_cases t:F k<=q
    ·have X:decide (F k<=q)=true:=by simp;exact t
     have L:=hid t;clear t;by_cases o:q<=T k
     ·have B:decide (q<=T k)=true:=by simp;exact o
      have u:=hid (Qkk (n:=n) y ⟨K.out,L.out,o⟩);clear o;go_wp2_with fail;refine zR (S:=fun w'=>w'.cell? ⟨w.heap.size,0,none⟩=some (.slice (some ⟨b,off,none⟩) n c)/\ w'.cell? ⟨w.heap.size+1,0,none⟩=some (.int .i64 r)/\ w'.cell? ⟨w.heap.size+1,1,none⟩=some (.int .i64 q)/\ w'.cell? ⟨b,off+k*3,none⟩=some (.int .i64 (R k))/\ w'.cell? ⟨b,off+k*3+1,none⟩=some (.int .i64 (F k))/\ w'.cell? ⟨b,off+k*3+2,none⟩=some (.int .i64 (T k))) ⟨A,U,V,E,M,O⟩ (fun qh=> ?_);refine tZ 0 13 ?_;refine tZ 1 14 ?_;refine tZ 2 15 ?_;refine tZ 3 16 ?_;refine tZ 4 17 ?_;refine tZ 5 18 ?_;refine tZ 6 19 ?_;refine tZ 7 20 ?_;refine tZ 8 21 ?_;refine tZ 9 22 ?_;refine tZ 10 23 ?_;refine tZ 11 24 ?_;refine tZ 12 25 ?_;refine tZ 13 26 ?_;refine tZ 14 27 ?_;refine tZ 15 28 ?_;refine tZ 16 29 ?_;refine tZ 17 30 ?_;refine tZ 18 31 ?_;refine tZ 19 32 ?_;refine tZ 20 33 ?_;refine tZ 21 34 ?_;refine tZ 22 35 ?_;refine tZ 23 36 ?_;refine tZ 24 37 ?_;refine tZ 25 38 ?_;refine tZ 26 39 ?_;refine tZ 27 40 ?_;refine tZ 28 41 ?_;refine tZ 29 42 ?_;refine tZ 30 43 ?_;refine zD ?_;go_wp2_with fail;go_ret;exact⟨QbA u.symm,(Y.trans (g.mono (by omega))).drew⟩
     ·have B:decide (q<=T k)=false:=by simp;omega
      have u:=hid (QdE s.out (fun hh=>o hh.2.2));clear o;go_wp2_with fail;refine zR (S:=fun w'=>w'.cell? ⟨w.heap.size,0,none⟩=some (.slice (some ⟨b,off,none⟩) n c)/\ w'.cell? ⟨w.heap.size+1,0,none⟩=some (.int .i64 r)/\ w'.cell? ⟨w.heap.size+1,1,none⟩=some (.int .i64 q)/\ w'.cell? ⟨b,off+k*3,none⟩=some (.int .i64 (R k))/\ w'.cell? ⟨b,off+k*3+1,none⟩=some (.int .i64 (F k))/\ w'.cell? ⟨b,off+k*3+2,none⟩=some (.int .i64 (T k))) ⟨A,U,V,E,M,O⟩ (fun qh=> ?_);refine tZ 0 13 ?_;refine tZ 1 14 ?_;refine tZ 2 15 ?_;refine tZ 3 16 ?_;refine tZ 4 17 ?_;refine tZ 5 18 ?_;refine tZ 6 19 ?_;refine tZ 7 20 ?_;refine tZ 8 21 ?_;refine tZ 9 22 ?_;refine tZ 10 23 ?_;refine tZ 11 24 ?_;refine tZ 12 25 ?_;refine tZ 13 26 ?_;refine tZ 14 27 ?_;refine tZ 15 28 ?_;refine tZ 16 29 ?_;refine tZ 17 30 ?_;refine tZ 18 31 ?_;refine tZ 19 32 ?_;refine tZ 20 33 ?_;refine tZ 21 34 ?_;refine tZ 22 35 ?_;refine tZ 23 36 ?_;refine tZ 24 37 ?_;refine tZ 25 38 ?_;refine tZ 26 39 ?_;refine tZ 27 40 ?_;refine tZ 28 41 ?_;refine tZ 29 42 ?_;refine tZ 30 43 ?_;refine zD ?_;go_wp2_with fail;go_roundw;case rel=>exact⟨k+1,y,by go_num,u.out,g.drew⟩
      case measure=>simp [intOf];omega
    ·have X:decide (F k<=q)=false:=by simp;omega
     have u:=hid (QdE s.out (fun hh=>t hh.2.1));clear t;go_wp2_with fail;refine zR (S:=fun w'=>w'.cell? ⟨w.heap.size,0,none⟩=some (.slice (some ⟨b,off,none⟩) n c)/\ w'.cell? ⟨w.heap.size+1,0,none⟩=some (.int .i64 r)/\ w'.cell? ⟨w.heap.size+1,1,none⟩=some (.int .i64 q)/\ w'.cell? ⟨b,off+k*3,none⟩=some (.int .i64 (R k))/\ w'.cell? ⟨b,off+k*3+1,none⟩=some (.int .i64 (F k))/\ w'.cell? ⟨b,off+k*3+2,none⟩=some (.int .i64 (T k))) ⟨A,U,V,E,M,O⟩ (fun qh=> ?_);refine tZ 0 13 ?_;refine tZ 1 14 ?_;refine tZ 2 15 ?_;refine tZ 3 16 ?_;refine tZ 4 17 ?_;refine tZ 5 18 ?_;refine tZ 6 19 ?_;refine tZ 7 20 ?_;refine tZ 8 21 ?_;refine tZ 9 22 ?_;refine tZ 10 23 ?_;refine tZ 11 24 ?_;refine tZ 12 25 ?_;refine tZ 13 26 ?_;refine tZ 14 27 ?_;refine tZ 15 28 ?_;refine tZ 16 29 ?_;refine tZ 17 30 ?_;refine tZ 18 31 ?_;refine tZ 19 32 ?_;refine tZ 20 33 ?_;refine uZ 21 34 ?_;refine uZ 22 35 ?_;refine uZ 23 36 ?_;refine uZ 24 37 ?_;refine uZ 25 38 ?_;refine uZ 26 39 ?_;refine uZ 27 40 ?_;refine uZ 28 41 ?_;refine uZ 29 42 ?_;refine tZ 30 43 ?_;refine zD ?_;go_wp2_with fail;go_roundw;case rel=>exact⟨k+1,y,by go_num,u.out,g.drew⟩
     case measure=>simp [intOf];omega
   ·have N:(R k==r)=false:=by simp;exact z
    have u:=hid (QdE s.out (fun hh=>z hh.1));clear z;go_wp2_with fail;refine zR (S:=fun w'=>w'.cell? ⟨w.heap.size,0,none⟩=some (.slice (some ⟨b,off,none⟩) n c)/\ w'.cell? ⟨w.heap.size+1,0,none⟩=some (.int .i64 r)/\ w'.cell? ⟨w.heap.size+1,1,none⟩=some (.int .i64 q)/\ w'.cell? ⟨b,off+k*3,none⟩=some (.int .i64 (R k))/\ w'.cell? ⟨b,off+k*3+1,none⟩=some (.int .i64 (F k))/\ w'.cell? ⟨b,off+k*3+2,none⟩=some (.int .i64 (T k))) ⟨A,U,V,E,M,O⟩ (fun qh=> ?_);refine tZ 0 13 ?_;refine tZ 1 14 ?_;refine tZ 2 15 ?_;refine tZ 3 16 ?_;refine tZ 4 17 ?_;refine tZ 5 18 ?_;refine tZ 6 19 ?_;refine tZ 7 20 ?_;refine tZ 8 21 ?_;refine tZ 9 22 ?_;refine uZ 10 23 ?_;refine uZ 11 24 ?_;refine uZ 12 25 ?_;refine uZ 13 26 ?_;refine uZ 14 27 ?_;refine uZ 15 28 ?_;refine uZ 16 29 ?_;refine uZ 17 30 ?_;refine uZ 18 31 ?_;refine tZ 19 32 ?_;refine tZ 20 33 ?_;refine uZ 21 34 ?_;refine uZ 22 35 ?_;refine uZ 23 36 ?_;refine uZ 24 37 ?_;refine uZ 25 38 ?_;refine uZ 26 39 ?_;refine uZ 27 40 ?_;refine uZ 28 41 ?_;refine uZ 29 42 ?_;refine tZ 30 43 ?_;refine zD ?_;go_wp2_with fail;go_roundw;case rel=>exact⟨k+1,y,by go_num,u.out,g.drew⟩
    case measure=>simp [intOf];omega
  ·obtain rfl:k=n:=by omega
   clear m I H x0 J Z;go_wp2_with fail;go_ret;exact⟨QbA s.symm,Y.trans (g.mono (by omega))⟩
def nz (f:Nat ->Int):Nat ->Nat ->Int
 | 0,_=>0
 | n+1,k=>if f k=0 then nz f n (k+1) else f k
theorem Qm7 {f:Nat ->Int}{n k:Nat}(h:k<n):nz f (n - k) k=if f k=0 then nz f (n - (k+1)) (k+1) else f k:=by
 rw [show n - k=(n - (k+1))+1 by omega];rfl
theorem Qi1 (b n c:Nat)(f:Nat ->Int)(w:World)(hn:n<=1000)(h:∀i,i<n ->w.cell? ⟨b,i,none⟩=some (.int .i64 (f i))):
  Calls Tryz.prog 95 #[.slice (some ⟨b,0,none⟩) n c] w fun e w'=>e=.returned (.int .i64 (nz f n 0))/\ w'=w:=by
 go_enter Tryz.func95,Tryz.ntmps95;go_wp2_with fail;go_loop [8] (fun i=>∃k:Nat,k<=n/\ i=.int .i64 (k:Int)/\ Hid (nz f n 0=nz f (n - k) k)) (fun i=>n - (intOf i).toNat);case atStart=>exact⟨0,Nat.zero_le _,rfl,hid rfl⟩
 case round=>
  obtain⟨k,v,rfl,m⟩:=hrel;by_cases r:k<n
  ·have x0:=h k r;have y:(0:Int)<=(k:Int):=Int.natCast_nonneg _;have z:(k:Int)<(n:Int):=by omega
   have j:Hid (nz f n 0=if f k=0 then nz f (n - (k+1)) (k+1) else f k):=hid (by rw [m.out,Qm7 r]);obtain⟨x,u⟩:∃x,f k=x:=⟨_,rfl⟩;rw [u] at x0 j;clear h u m;by_cases q:x=0
   ·subst q;have j:Hid (nz f n 0=nz f (n - (k+1)) (k+1)):=hid (by rw [j.out,if_pos rfl]);go_wp2_with fail;go_round;case rel=>exact⟨k+1,r,by go_num,j⟩
    case measure=>simp [intOf];omega
   ·have j:Hid (nz f n 0=x):=hid (by rw [j.out,if_neg q]);have g:(x !=0)=true:=by simpa using q
    go_wp2_with fail;go_ret;exact⟨QbB j.symm,rfl⟩
  ·obtain rfl:k=n:=by omega
   have j:Hid (nz f k 0=0):=hid (by rw [m.out,Nat.sub_self];rfl);clear h m;go_wp2_with fail;go_ret;exact⟨QbB j.symm,rfl⟩
def orI (x y:Int):Int:=if x=0 then y else x
theorem nz2 {f:Nat ->Int}:nz f 2 0=orI (f 0) (f 1):=by
 unfold orI nz;by_cases h:f 0=0
 ·rw [if_pos h,if_pos h];unfold nz;by_cases j:f 1=0
  ·rw [if_pos j,j];rfl
  ·rw [if_neg j]
 ·rw [if_neg h,if_neg h]
theorem nz3 {f:Nat ->Int}:nz f 3 0=orI (f 0) (orI (f 1) (f 2)):=by
 unfold orI nz;by_cases h:f 0=0
 ·rw [if_pos h,if_pos h];unfold nz;by_cases j:f 1=0
  ·rw [if_pos j,if_pos j];unfold nz;by_cases k:f 2=0
   ·rw [if_pos k,k];rfl
   ·rw [if_neg k]
  ·rw [if_neg j,if_neg j]
 ·rw [if_neg h,if_neg h]
def kd (fl:Bool):Int:=if fl=true then 2 else 1
def Qlb (r q r' q':Int):Int:=orI (QaT r r') (QaT q q')
def QaG (x y:Lf):Int:=orI (QaE x.p y.p) (orI (QaT (kd x.fl) (kd y.fl)) (Qlb x.r x.q y.r y.q))
theorem Qfb (v0:Value)(fl:Bool)(v2 v3 v4:Value)(w:World):Calls Tryz.prog 33 #[.agg #[v0,.bool fl,v2,v3,v4]] w fun e w'=>e=.returned (.int .i64 (kd fl))/\ Below w.heap.size w w':=by
 have j:=hid (zO w (.cells #[v0,.bool fl,v2,v3,v4] 69));cases fl
 ·go_enter Tryz.func33,Tryz.ntmps33;go_wp2_with fail;go_ret;exact⟨rfl,j.out⟩
 ·go_enter Tryz.func33,Tryz.ntmps33;go_wp2_with fail;go_ret;exact⟨rfl,j.out⟩
theorem Qd4 (r q r' q':Int)(w:World):Calls Tryz.prog 100 #[.agg #[.int .i64 r,.int .i64 q],.agg #[.int .i64 r',.int .i64 q']] w fun e w'=>e=.returned (.int .i64 (Qlb r q r' q'))/\ Below w.heap.size w w':=by
 obtain⟨W,m⟩:∃W,(w.alloc (.cells #[.int .i64 r,.int .i64 q] 67)).alloc (.cells #[.int .i64 r',.int .i64 q'] 67)=W:=⟨_,rfl⟩;have z:Below w.heap.size w W:=by rw [<- m];exact Qak _ _ _
 have E:W.heap.size=w.heap.size+2:=by rw [<- m];simp
 have o:W.cell? ⟨w.heap.size,0,none⟩=some (.int .i64 r):=by rw [<- m];simp
 have b:W.cell? ⟨w.heap.size,1,none⟩=some (.int .i64 q):=by rw [<- m];simp
 have s:W.cell? ⟨w.heap.size+1,0,none⟩=some (.int .i64 r'):=by rw [<- m];simp
 have A:W.cell? ⟨w.heap.size+1,1,none⟩=some (.int .i64 q'):=by rw [<- m];simp
 have v:=hid z;have h:w.heap.size<W.heap.size:=by omega
 have g:w.heap.size+1<W.heap.size:=by omega
 clear z E;go_enter Tryz.func100,Tryz.ntmps100;go_wp2_with fail;try rw [m]
 clear m;have u:∀w',Below W.heap.size W w' ->(Below W.heap.size W w'/\ w'.cell? ⟨w.heap.size,0,none⟩=some (.int .i64 r)/\ w'.cell? ⟨w.heap.size,1,none⟩=some (.int .i64 q)/\ w'.cell? ⟨w.heap.size+1,0,none⟩=some (.int .i64 r')/\ w'.cell? ⟨w.heap.size+1,1,none⟩=some (.int .i64 q')):=fun w' k=>⟨k,(k.cell (p:=⟨w.heap.size,0,none⟩) h).trans o,(k.cell (p:=⟨w.heap.size,1,none⟩) h).trans b,(k.cell (p:=⟨w.heap.size+1,0,none⟩) g).trans s,(k.cell (p:=⟨w.heap.size+1,1,none⟩) g).trans A⟩;have y:=hid u;clear u;refine zR (S:=fun w'=>Below W.heap.size W w'/\ w'.cell? ⟨w.heap.size,0,none⟩=some (.int .i64 r)/\ w'.cell? ⟨w.heap.size,1,none⟩=some (.int .i64 q)/\ w'.cell? ⟨w.heap.size+1,0,none⟩=some (.int .i64 r')/\ w'.cell? ⟨w.heap.size+1,1,none⟩=some (.int .i64 q')) (y _ zI.drew) (fun qh=> ?_);refine tZ 0 5 ?_;refine tZ 1 6 ?_;refine tZ 2 7 ?_;refine tZ 3 8 ?_;refine tZ 5 10 ?_;refine tZ 6 11 ?_;refine tZ 7 12 ?_;refine tZ 8 13 ?_;refine cZ 4 ?_;intro K j;go_simp;refine(QbY r r' _).mono ?_;rintro e w1 ⟨rfl,rfl⟩;refine j.out _ _ qh (fun qh=> ?_);clear j K;try simp only [zP]
 refine cZ 9 ?_;intro K j;go_simp;refine(QbY q q' _).mono ?_;rintro e M ⟨rfl,rfl⟩;refine j.out _ _ qh (fun qh=> ?_);clear j K;try simp only [zP]
 refine cZ 10 ?_;intro K j;go_simp;have k:=qh.1.alloc qh.1.size (.cells #[.int .i64 (QaT r r'),.int .i64 (QaT q q')] 3);refine j.out _ _ (y _ k) (fun qh=> ?_);clear j K;try simp only [zP]
 refine cZ 11 ?_;intro K j;go_simp;refine(Qi1 _ 2 2 (fun i=>if i=0 then QaT r r' else QaT q q') _ (by omega) (fun i hi=> ?_)).mono ?_
 ·match i,hi with
  | 0,_=>simp
  | 1,_=>simp
 rintro e O ⟨rfl,rfl⟩;refine j.out _ _ qh (fun qh=> ?_);clear j K;try simp only [zP]
 refine tZ 12 4 ?_;refine zD ?_;have t:=hid (v.trans (qh.1.mono v.size));clear qh k;go_wp2_with fail;go_ret;exact⟨QbB nz2,t.out⟩
theorem QeN (a a':Option Addr)(c c':Nat)(p p':List ByteArray)(fl fl':Bool)(r q r' q':Int)(v v':ByteArray)(w:World)(hn:p.length<=1048576)(hn':p'.length<=1048576)(h:QaR w a p)(h':QaR w a' p'):
  Calls Tryz.prog 91 #[.agg #[.slice a p.length c,.bool fl,.int .i64 r,.int .i64 q,.string v],.agg #[.slice a' p'.length c',.bool fl',.int .i64 r',.int .i64 q',.string v']] w fun e w'=>e=.returned (.int .i64 (QaG ⟨p,fl,r,q,v⟩ ⟨p',fl',r',q',v'⟩))/\ Below w.heap.size w w':=by
 obtain⟨W,m⟩:∃W,(w.alloc (.cells #[.slice a p.length c,.bool fl,.int .i64 r,.int .i64 q,.string v] 69)).alloc (.cells #[.slice a' p'.length c',.bool fl',.int .i64 r',.int .i64 q',.string v'] 69)=W:=⟨_,rfl⟩;have g:Below w.heap.size w W:=by rw [<- m];exact Qak _ _ _
 have B:W.heap.size=w.heap.size+2:=by rw [<- m];simp
 have V:W.cell? ⟨w.heap.size,0,none⟩=some (.slice a p.length c):=by rw [<- m];simp
 have Y:W.cell? ⟨w.heap.size,1,none⟩=some (.bool fl):=by rw [<- m];simp
 have Z:W.cell? ⟨w.heap.size,2,none⟩=some (.int .i64 r):=by rw [<- m];simp
 have G:W.cell? ⟨w.heap.size,3,none⟩=some (.int .i64 q):=by rw [<- m];simp
 have H:W.cell? ⟨w.heap.size,4,none⟩=some (.string v):=by rw [<- m];simp
 have I:W.cell? ⟨w.heap.size+1,0,none⟩=some (.slice a' p'.length c'):=by rw [<- m];simp
 have J:W.cell? ⟨w.heap.size+1,1,none⟩=some (.bool fl'):=by rw [<- m];simp
 have L:W.cell? ⟨w.heap.size+1,2,none⟩=some (.int .i64 r'):=by rw [<- m];simp
 have N:W.cell? ⟨w.heap.size+1,3,none⟩=some (.int .i64 q'):=by rw [<- m];simp
 have X:W.cell? ⟨w.heap.size+1,4,none⟩=some (.string v'):=by rw [<- m];simp
 have o:=hid g;have y:w.heap.size<W.heap.size:=by omega
 have z:w.heap.size+1<W.heap.size:=by omega
 have Q:=hid (h.below g);have U:=hid (h'.below g);clear g B h h';go_enter Tryz.func91,Tryz.ntmps91;go_wp2_with fail;try rw [m]
 clear m;have t:∀w',Below W.heap.size W w' ->(Below W.heap.size W w'/\ w'.cell? ⟨w.heap.size,0,none⟩=some (.slice a p.length c)/\ w'.cell? ⟨w.heap.size,1,none⟩=some (.bool fl)/\ w'.cell? ⟨w.heap.size,2,none⟩=some (.int .i64 r)/\ w'.cell? ⟨w.heap.size,3,none⟩=some (.int .i64 q)/\ w'.cell? ⟨w.heap.size,4,none⟩=some (.string v)/\ w'.cell? ⟨w.heap.size+1,0,none⟩=some (.slice a' p'.length c')/\ w'.cell? ⟨w.heap.size+1,1,none⟩=some (.bool fl')/\ w'.cell? ⟨w.heap.size+1,2,none⟩=some (.int .i64 r')/\ w'.cell? ⟨w.heap.size+1,3,none⟩=some (.int .i64 q')/\ w'.cell? ⟨w.heap.size+1,4,none⟩=some (.string v')):=fun w' k=>⟨k,(k.cell (p:=⟨w.heap.size,0,none⟩) y).trans V,(k.cell (p:=⟨w.heap.size,1,none⟩) y).trans Y,(k.cell (p:=⟨w.heap.size,2,none⟩) y).trans Z,(k.cell (p:=⟨w.heap.size,3,none⟩) y).trans G,(k.cell (p:=⟨w.heap.size,4,none⟩) y).trans H,(k.cell (p:=⟨w.heap.size+1,0,none⟩) z).trans I,(k.cell (p:=⟨w.heap.size+1,1,none⟩) z).trans J,(k.cell (p:=⟨w.heap.size+1,2,none⟩) z).trans L,(k.cell (p:=⟨w.heap.size+1,3,none⟩) z).trans N,(k.cell (p:=⟨w.heap.size+1,4,none⟩) z).trans X⟩;have u:=hid t;clear t;refine zR (S:=fun w'=>Below W.heap.size W w'/\ w'.cell? ⟨w.heap.size,0,none⟩=some (.slice a p.length c)/\ w'.cell? ⟨w.heap.size,1,none⟩=some (.bool fl)/\ w'.cell? ⟨w.heap.size,2,none⟩=some (.int .i64 r)/\ w'.cell? ⟨w.heap.size,3,none⟩=some (.int .i64 q)/\ w'.cell? ⟨w.heap.size,4,none⟩=some (.string v)/\ w'.cell? ⟨w.heap.size+1,0,none⟩=some (.slice a' p'.length c')/\ w'.cell? ⟨w.heap.size+1,1,none⟩=some (.bool fl')/\ w'.cell? ⟨w.heap.size+1,2,none⟩=some (.int .i64 r')/\ w'.cell? ⟨w.heap.size+1,3,none⟩=some (.int .i64 q')/\ w'.cell? ⟨w.heap.size+1,4,none⟩=some (.string v')) (u _ zI.drew) (fun qh=> ?_);refine tZ 0 5 ?_;refine tZ 1 6 ?_;refine tZ 2 7 ?_;refine tZ 3 8 ?_;refine tZ 5 10 ?_;refine tZ 7 12 ?_;refine tZ 10 15 ?_;refine tZ 11 16 ?_;refine tZ 12 17 ?_;refine tZ 13 18 ?_;refine cZ 4 ?_;intro K j;go_simp;refine(Qmc p p' a a' c c' _ hn hn' (Q.below qh.1) (U.below qh.1)).mono ?_;rintro e w1 ⟨rfl,rfl⟩;refine j.out _ _ qh (fun qh=> ?_);clear j K;try simp only [zP]
 refine cZ 6 ?_;intro K j;go_simp;refine(Qfb _ fl _ _ _ _).mono ?_;rintro e C ⟨rfl,b⟩;have A:=qh.1.trans (b.mono qh.1.size);refine j.out _ _ (u _ A) (fun qh=> ?_);clear j K;try simp only [zP]
 refine cZ 8 ?_;intro K j;go_simp;refine(Qfb _ fl' _ _ _ _).mono ?_;rintro e D ⟨rfl,b3⟩;have E:=qh.1.trans (b3.mono qh.1.size);refine j.out _ _ (u _ E) (fun qh=> ?_);clear j K;try simp only [zP]
 refine cZ 9 ?_;intro K j;go_simp;refine(QbY (kd fl) (kd fl') _).mono ?_;rintro e F ⟨rfl,rfl⟩;refine j.out _ _ qh (fun qh=> ?_);clear j K;try simp only [zP]
 refine cZ 14 ?_;intro K j;go_simp;refine(Qd4 r q r' q' _).mono ?_;rintro e P ⟨rfl,s⟩;have M:=qh.1.trans (s.mono qh.1.size);refine j.out _ _ (u _ M) (fun qh=> ?_);clear j K;try simp only [zP]
 refine cZ 15 ?_;intro K j;go_simp;have k:=qh.1.alloc qh.1.size (.cells #[.int .i64 (QaE p p'),.int .i64 (QaT (kd fl) (kd fl')),.int .i64 (Qlb r q r' q')] 3);refine j.out _ _ (u _ k) (fun qh=> ?_);clear j K;try simp only [zP]
 refine cZ 16 ?_;intro K j;go_simp;refine(Qi1 _ 3 3 (fun i=>if i=0 then QaE p p' else if i=1 then QaT (kd fl) (kd fl') else Qlb r q r' q') _ (by omega) (fun i hi=> ?_)).mono ?_
 ·match i,hi with
  | 0,_=>simp
  | 1,_=>simp
  | 2,_=>simp
 rintro e R ⟨rfl,rfl⟩;refine j.out _ _ qh (fun qh=> ?_);clear j K;try simp only [zP]
 refine tZ 17 4 ?_;refine zD ?_;have O:=hid (o.trans (qh.1.mono o.size));clear qh k M E A s b3 b;go_wp2_with fail;go_ret;exact⟨QbB nz3,O.out⟩
theorem QkQ {P:Prop} [Decidable P]:yes P=decide P:=by
 by_cases h:P
 ·rw [Qal h,decide_eq_true h]
 ·rw [Qaj h,decide_eq_false h]
theorem QeH {x y:Int}:QaT x y<0↔x<y:=by unfold QaT;split<;>(try split)<;>omega
theorem Qen {x y:Int}:QaT x y=0↔x=y:=by unfold QaT;split<;>(try split)<;>omega
theorem Qpd {p p':List ByteArray}{fl fl':Bool}{r q r' q':Int}{v v':ByteArray}:
  (QaE p p'≠0 ->yes (QaG ⟨p,fl,r,q,v⟩ ⟨p',fl',r',q',v'⟩<0)=decide (QaE p p'<0))/\
  (QaE p p'=0 ->fl≠fl' ->yes (QaG ⟨p,fl,r,q,v⟩ ⟨p',fl',r',q',v'⟩<0)=fl')/\
  (QaE p p'=0 ->fl=fl' ->r≠r' ->yes (QaG ⟨p,fl,r,q,v⟩ ⟨p',fl',r',q',v'⟩<0)=decide (r<r'))/\
  (QaE p p'=0 ->fl=fl' ->r=r' ->yes (QaG ⟨p,fl,r,q,v⟩ ⟨p',fl',r',q',v'⟩<0)=decide (q<q')):=by
 refine⟨fun h=> ?_,fun h hf=> ?_,fun h hf hr=> ?_,fun h hf hr=> ?_⟩
 ·rw [QkQ];simp only [QaG,orI,if_neg h]
 ·have e:QaG ⟨p,fl,r,q,v⟩ ⟨p',fl',r',q',v'⟩=QaT (kd fl) (kd fl'):=by
   have:QaT (kd fl) (kd fl')≠0:=by rw [Ne,Qen];cases fl<;>cases fl'<;>simp_all [kd]
   simp only [QaG,orI,if_pos h,if_neg this]
  rw [e,QkQ];cases fl<;>cases fl'<;>simp_all [kd,QaT]
 ·have e:QaG ⟨p,fl,r,q,v⟩ ⟨p',fl',r',q',v'⟩=QaT r r':=by
   have j:QaT (kd fl) (kd fl')=0:=by rw [Qen,hf]
   have k:QaT r r'≠0:=by rw [Ne,Qen];exact hr
   simp only [QaG,orI,if_pos h,if_pos j,Qlb,if_neg k]
  rw [e,QkQ];exact decide_eq_decide.2 QeH
 ·have e:QaG ⟨p,fl,r,q,v⟩ ⟨p',fl',r',q',v'⟩=QaT q q':=by
   have j:QaT (kd fl) (kd fl')=0:=by rw [Qen,hf]
   have k:QaT r r'=0:=by rw [Qen];exact hr
   simp only [QaG,orI,if_pos h,if_pos j,Qlb,if_pos k]
  rw [e,QkQ];exact decide_eq_decide.2 QeH
theorem Qhj (a a':Option Addr)(c c':Nat)(p p':List ByteArray)(fl fl':Bool)(r q r' q':Int)(v v':ByteArray)(w:World)(hn:p.length<=1048576)(hn':p'.length<=1048576)(hc:p.length<=c)(hc':p'.length<=c')(M:c<=9223372036854775807)(hx':c'<=9223372036854775807)(h:QaR w a p)(h':QaR w a' p'):
  Calls Tryz.prog 27 #[.agg #[.slice a p.length c,.bool fl,.int .i64 r,.int .i64 q,.string v],.agg #[.slice a' p'.length c',.bool fl',.int .i64 r',.int .i64 q',.string v']] w fun e w'=>e=.returned (.bool (yes (QaG ⟨p,fl,r,q,v⟩ ⟨p',fl',r',q',v'⟩<0)))/\ Below w.heap.size w w':=by
 obtain⟨W,j⟩:∃W,(w.alloc (.cells #[.slice a p.length c,.bool fl,.int .i64 r,.int .i64 q,.string v] 69)).alloc (.cells #[.slice a' p'.length c',.bool fl',.int .i64 r',.int .i64 q',.string v'] 69)=W:=⟨_,rfl⟩;have A:Below w.heap.size w W:=by rw [<- j];exact Qak _ _ _
 have zW:W.heap.size=w.heap.size+2:=by rw [<- j];simp
 have D:W.cell? ⟨w.heap.size,0,none⟩=some (.slice a p.length c):=by rw [<- j];simp
 have H:W.cell? ⟨w.heap.size,1,none⟩=some (.bool fl):=by rw [<- j];simp
 have I:W.cell? ⟨w.heap.size,2,none⟩=some (.int .i64 r):=by rw [<- j];simp
 have J:W.cell? ⟨w.heap.size,3,none⟩=some (.int .i64 q):=by rw [<- j];simp
 have F:W.cell? ⟨w.heap.size,4,none⟩=some (.string v):=by rw [<- j];simp
 have P:W.cell? ⟨w.heap.size+1,0,none⟩=some (.slice a' p'.length c'):=by rw [<- j];simp
 have K:W.cell? ⟨w.heap.size+1,1,none⟩=some (.bool fl'):=by rw [<- j];simp
 have L:W.cell? ⟨w.heap.size+1,2,none⟩=some (.int .i64 r'):=by rw [<- j];simp
 have N:W.cell? ⟨w.heap.size+1,3,none⟩=some (.int .i64 q'):=by rw [<- j];simp
 have R:W.cell? ⟨w.heap.size+1,4,none⟩=some (.string v'):=by rw [<- j];simp
 have i:=hid A;have S:w.heap.size<W.heap.size:=by omega
 have T:w.heap.size+1<W.heap.size:=by omega
 have O:=hid (QcN p p' a a' c c' W hc hc' M hx' (h.below A) (h'.below A));obtain⟨U,V,Y,Z⟩:=@Qpd p p' fl fl' r q r' q' v v';have u:=hid U;have y:=hid V;have z:=hid Y;have g:=hid Z;obtain⟨B,Q⟩:∃B,yes (QaG ⟨p,fl,r,q,v⟩ ⟨p',fl',r',q',v'⟩<0)=B:=⟨_,rfl⟩;obtain⟨x,M⟩:∃x,QaE p p'=x:=⟨_,rfl⟩;rw [Q] at u y z g;rw [M] at u y z g O;rw [Q];clear A zW h h' U V Y Z Q M;go_enter Tryz.func27,Tryz.ntmps27;go_wp2_with fail;try rw [j]
 clear j;refine O.mono ?_;rintro e w1 ⟨rfl,k,m⟩;have Ha:w1.cell? ⟨w.heap.size,1,none⟩=some (.bool fl):=by rw [m];exact H
 have Hb:w1.cell? ⟨w.heap.size,2,none⟩=some (.int .i64 r):=by rw [m];exact I
 have Hc:w1.cell? ⟨w.heap.size,3,none⟩=some (.int .i64 q):=by rw [m];exact J
 have Hd:w1.cell? ⟨w.heap.size+1,1,none⟩=some (.bool fl'):=by rw [m];exact K
 have He:w1.cell? ⟨w.heap.size+1,2,none⟩=some (.int .i64 r'):=by rw [m];exact L
 have Hf:w1.cell? ⟨w.heap.size+1,3,none⟩=some (.int .i64 q'):=by rw [m];exact N
 have s:Hid (Below w.heap.size w w1):=hid (by rw [m];exact⟨i.os,i.tape,i.output,i.size,i.block⟩);clear m D H I J F P K L N R O S T i;by_cases b:x=0
 ·have X:(x !=0)=false:=by simp [b]
  by_cases o:fl=fl'
  ·have G:(fl !=fl')=false:=by simp [o]
   by_cases E:r=r'
   ·have C:(r !=r')=false:=by simp [E]
    have t:=hid (g b o E);clear u y z g;go_wp2_with fail;go_ret;exact⟨Qa3 t.symm,s.out⟩
   ·have C:(r !=r')=true:=by simpa using E
    have t:=hid (z b o E);clear u y z g;go_wp2_with fail;go_ret;exact⟨Qa3 t.symm,s.out⟩
  ·have G:(fl !=fl')=true:=by simpa using o
   have t:=hid (y b o);clear u y z g G;cases fl<;>cases fl'<;>first
    | exact absurd rfl o
    | (clear o;go_wp2_with fail;go_ret;exact⟨Qa3 t.symm,s.out⟩)
 ·have X:(x !=0)=true:=by simpa using b
  have t:=hid (u b);clear u y z g;go_wp2_with fail;go_ret;exact⟨Qa3 t.symm,s.out⟩
def emB (v:ByteArray):Bool:=v.toList.isEmpty
def QbV (x:Lf):Prop:=QaQ x.p/\ x.v.size<=200/\ (x.fl=true ->emB x.v=true)
theorem Qn6 (a:Option Addr)(c:Nat)(p:List ByteArray)(fl:Bool)(r q:Int)(v:ByteArray)(w:World)(hn:p.length<=1048576)(h:QaR w a p):
  Calls Tryz.prog 89 #[.agg #[.slice a p.length c,.bool fl,.int .i64 r,.int .i64 q,.string v]] w fun e w'=>e=.returned (.bool (yes (QbV ⟨p,fl,r,q,v⟩)))/\ Below w.heap.size w w':=by
 obtain⟨W,j⟩:∃W,w.alloc (.cells #[.slice a p.length c,.bool fl,.int .i64 r,.int .i64 q,.string v] 69)=W:=⟨_,rfl⟩;have o:Below w.heap.size w W:=by rw [<- j];exact zO _ _
 have U:W.cell? ⟨w.heap.size,0,none⟩=some (.slice a p.length c):=by rw [<- j];simp
 have V:W.cell? ⟨w.heap.size,1,none⟩=some (.bool fl):=by rw [<- j];simp
 have G:W.cell? ⟨w.heap.size,4,none⟩=some (.string v):=by rw [<- j];simp
 have t:=hid (Qk2 p a c W hn (h.below o));have y:=hid o;obtain⟨B,i⟩:∃B,yes (QbV ⟨p,fl,r,q,v⟩)=B:=⟨_,rfl⟩;have g:=hid i;rw [i];clear o h i;by_cases m:fl=true/\ emB v=false
 ·have M:v.toList.isEmpty=false:=m.2;have k:Hid (B=false):=hid (by rw [<- g.out];exact Qaj (fun h=>by have:=h.2.2 m.1;simp only at this;rw [m.2] at this;cases this));obtain⟨rfl,_⟩:=m;go_enter Tryz.func89,Tryz.ntmps89;go_wp2_with fail;try rw [j]
  clear j;go_wp2_with fail;go_ret;exact⟨Qa3 k.symm,y.out⟩
 ·have k:Hid (B=(yes (QaQ p) && decide (v.size<=200))):=hid (by
   rw [<- g.out];have O:fl=true ->emB v=true:=fun e=>by
    by_cases h:emB v=true
    ·exact h
    ·exact absurd ⟨e,by simpa using h⟩ m
   by_cases u:QaQ p
   ·by_cases z:v.size<=200
    ·rw [Qal ⟨u,z,O⟩,Qal u,decide_eq_true z];rfl
    ·rw [Qaj (fun h=>z h.2.1),Qal u,decide_eq_false z];rfl
   ·rw [Qaj (fun h=>u h.1),Qaj u];rfl)
  obtain⟨Y,A⟩:∃Y,yes (QaQ p)=Y:=⟨_,rfl⟩;rw [A] at k t;clear A g;have b:decide ((v.size:Int)<=200)=decide (v.size<=200):=decide_eq_decide.2 (by omega);obtain⟨Z,E⟩:∃Z,decide (v.size<=200)=Z:=⟨_,rfl⟩;rw [E] at k b;clear E;have s:∀(Y Z:Bool),B=(Y && Z) ->Y=false ->B=false:=fun Y Z h u=>by rw [h,u];rfl
  have Q:=hid s;clear s;cases fl with
  | false=>
   clear m;go_enter Tryz.func89,Tryz.ntmps89;go_wp2_with fail;try rw [j]
   clear j;go_wp2_with fail;refine t.mono ?_;rintro e w1 ⟨rfl,rfl⟩;cases Y with
   | true=>
    go_wp2_with fail;go_ret;exact⟨Qa3 (by rw [k.out];simp [b]),y.out⟩
   | false=>
    go_wp2_with fail;go_ret;exact⟨Qa3 (by rw [k.out];rfl),y.out⟩
  | true=>
   have M:v.toList.isEmpty=true:=by
    by_cases h:emB v=true
    ·exact h
    ·exact absurd ⟨rfl,by simpa using h⟩ m
   clear m;go_enter Tryz.func89,Tryz.ntmps89;go_wp2_with fail;try rw [j]
   clear j;go_wp2_with fail;refine t.mono ?_;rintro e w1 ⟨rfl,rfl⟩;cases Y with
   | true=>
    go_wp2_with fail;go_ret;exact⟨Qa3 (by rw [k.out];simp [b]),y.out⟩
   | false=>
    go_wp2_with fail;go_ret;exact⟨Qa3 (by rw [k.out];rfl),y.out⟩
theorem Qpg:Tryz.prog.fieldsOf 67=match Tryz.prog.underlying 67 with|some (.struct fs)=>fs|_=>#[]:=rfl
theorem QjX:Tryz.prog.stoodInHeld 67=false:=by kernel_rfl
theorem QjW:Tryz.prog.eqGuardType Tryz.prog.depth 67=false:=by kernel_rfl
theorem Qlg (r q r' q':Int)(w:World):(binOp .eql 67 (.agg #[.int .i64 r,.int .i64 q]) (.agg #[.int .i64 r',.int .i64 q'])).run Tryz.prog w=.ok (.bool (r==r' && q==q')) w:=by
 rw [run_eql_struct,show (10000:Nat)=9999+1 from rfl,run_equalIn_agg _ _ _ _ _ (by kernel_rfl) QjX,Qpg,Tryz.underlying67];cases h1:(r==r')<;>simp [Op.eqFields,go_sem,Tryz.underlying3,h1];by_cases j:q=q'<;>simp [j]
theorem Bx5.set2 {w:World}{b:Nat}{v0 v1 v2 v3 v4:Value}(h:Bx5 w b v0 v1 v2 v3 v4)(u:Value):Bx5 (w.setCell ⟨b,2,none⟩ u) b v0 v1 u v3 v4:=
 ⟨by simp [World.cell?_setCell_other,h.c0],by simp [World.cell?_setCell_other,h.c1],World.cell?_setCell_same _ _ _ h.c2,by simp [World.cell?_setCell_other,h.c3],by simp [World.cell?_setCell_other,h.c4],fun i=>by rw [World.frozen?_setCell];exact h.f i,by simp [World.setCell];exact h.lt⟩
theorem Bx5.set3 {w:World}{b:Nat}{v0 v1 v2 v3 v4:Value}(h:Bx5 w b v0 v1 v2 v3 v4)(u:Value):Bx5 (w.setCell ⟨b,3,none⟩ u) b v0 v1 v2 u v4:=
 ⟨by simp [World.cell?_setCell_other,h.c0],by simp [World.cell?_setCell_other,h.c1],by simp [World.cell?_setCell_other,h.c2],World.cell?_setCell_same _ _ _ h.c3,by simp [World.cell?_setCell_other,h.c4],fun i=>by rw [World.frozen?_setCell];exact h.f i,by simp [World.setCell];exact h.lt⟩
theorem Bx5.set4 {w:World}{b:Nat}{v0 v1 v2 v3 v4:Value}(h:Bx5 w b v0 v1 v2 v3 v4)(u:Value):Bx5 (w.setCell ⟨b,4,none⟩ u) b v0 v1 v2 v3 u:=
 ⟨by simp [World.cell?_setCell_other,h.c0],by simp [World.cell?_setCell_other,h.c1],by simp [World.cell?_setCell_other,h.c2],by simp [World.cell?_setCell_other,h.c3],World.cell?_setCell_same _ _ _ h.c4,fun i=>by rw [World.frozen?_setCell];exact h.f i,by simp [World.setCell];exact h.lt⟩
def QbQ (R F T:Nat ->Int)(n:Nat)(l:List Lf)(k:Nat):Prop:=∀i,i<k ->QbV (gL l i)/\ Qco R F T (gL l i).r (gL l i).q (gL l i).q n=true/\ (0<i ->QaG (gL l (i - 1)) (gL l i)<0)
def Dif (x y:Lf):Prop:=¬(x.r=y.r/\ x.q=y.q)
def Dis (l:List Lf)(k:Nat):Prop:=∀i,i<k ->∀j,j<i ->Dif (gL l j) (gL l i)
def Qbe (R F T:Nat ->Int)(n:Nat)(l:List Lf):Prop:=QcL R F T n=true/\ l.length<=1000/\ QbQ R F T n l l.length/\ Dis l l.length
theorem QbQ.step {R F T:Nat ->Int}{n:Nat}{l:List Lf}{k:Nat}(h:QbQ R F T n l k)(h1:QbV (gL l k))(h2:Qco R F T (gL l k).r (gL l k).q (gL l k).q n=true)(h3:0<k ->QaG (gL l (k - 1)) (gL l k)<0):QbQ R F T n l (k+1):=fun i hi=>by
 by_cases e:i=k
 ·subst e;exact⟨h1,h2,h3⟩
 ·exact h i (by omega)
theorem Dis.step {l:List Lf}{k:Nat}(h:Dis l k)(h1:∀j,j<k ->Dif (gL l j) (gL l k)):Dis l (k+1):=fun i hi j hj=>by
 by_cases e:i=k
 ·subst e;exact h1 j hj
 ·exact h i (by omega) j hj
theorem Qaz {B:Nat}{a w:World}(h:Below B a w)(n:Nat):Below B a (w.drewN n):=⟨h.os,h.tape,h.output,h.size,h.block⟩
theorem Qbt (a:Option Addr)(c:Nat)(l:List Lf)(x:Option Addr)(n d:Nat)(R F T:Nat ->Int)(w:World)(hn:l.length<=1048576)(hp:LBd l)(hm:n<=1048576)(h:Qef w a l)(h':Qb3 w x n R F T):
  Calls Tryz.prog 11 #[.agg #[.slice a l.length c,.slice x n d]] w fun e w'=>e=.returned (.bool (yes (Qbe R F T n l)))/\ Below w.heap.size w w':=by
 obtain⟨W,hW⟩:∃W,w.alloc (.cells #[.slice a l.length c,.slice x n d] 28)=W:=⟨_,rfl⟩;have b0:Below w.heap.size w W:=by rw [<- hW];exact zO _ _
 have zW:w.heap.size<W.heap.size:=by rw [<- hW];simp
 have k0:W.cell? ⟨w.heap.size,0,none⟩=some (.slice a l.length c):=by rw [<- hW];simp
 have k1:W.cell? ⟨w.heap.size,1,none⟩=some (.slice x n d):=by rw [<- hW];simp
 have HC:=hid (QfT x n d R F T W hm (h'.below b0));have HL:=hid (h.below b0);have HR:=hid (h'.below b0);have Hn:=hid b0;clear h h' b0;obtain⟨Y,hY⟩:∃Y,yes (Qbe R F T n l)=Y:=⟨_,rfl⟩;have HY:=hid hY;rw [hY];clear hY;go_enter Tryz.func11,Tryz.ntmps11;go_wp2_with fail;try rw [hW]
 clear hW;refine HC.mono ?_;rintro e w1 ⟨rfl,b1⟩;have m0:=(b1.cell (p:=⟨w.heap.size,0,none⟩) zW).trans k0;have m1:=(b1.cell (p:=⟨w.heap.size,1,none⟩) zW).trans k1;have E:=hid (Hn.trans (b1.mono Hn.size));have H9:=hid (HL.below b1);have Ga:=hid (HR.below b1);have z1:w.heap.size<w1.heap.size:=Nat.lt_of_lt_of_le zW b1.size;clear HC HL HR Hn k0 k1 zW b1;obtain⟨C,hC⟩:∃C,QcL R F T n=C:=⟨_,rfl⟩;have HC:=hid hC;rw [hC];clear hC;cases C with
 | false=>
  have Q:Hid (Y=false):=hid (by rw [<- HY.out];exact Qaj (fun h=>by have:=h.1;rw [HC.out] at this;cases this));go_wp2_with fail;go_ret;exact⟨Qa3 Q.symm,E.out⟩
 | true=>
  by_cases Hg:(1000:Int)<(l.length:Int)
  ·have d0:decide ((1000:Int)<(l.length:Int))=true:=by simpa using Hg
   have Q:Hid (Y=false):=hid (by rw [<- HY.out];exact Qaj (fun h=>by have:=h.2.1;omega));go_wp2_with fail;go_ret;exact⟨Qa3 Q.symm,E.out⟩
  ·have d0:decide ((1000:Int)<(l.length:Int))=false:=by simpa using Hg
   go_wp2_with fail;clear d0;go_loopw [3] (fun i wr=>∃k:Nat,k<=l.length/\ i=.int .i64 k/\ Hid (Below w1.heap.size w1 wr)/\ Hid (QbQ R F T n l k/\ Dis l k)) (fun i _=>l.length - (intOf i).toNat);case atStart=>exact⟨0,Nat.zero_le _,rfl,hid zI,hid ⟨fun i hi=>by omega,fun i hi=>by omega⟩⟩
   case round=>
    obtain⟨k,hk,rfl,g,HI⟩:=hrel;have r0:=(g.cell (p:=⟨w.heap.size,0,none⟩) z1).trans m0;have r1:=(g.cell (p:=⟨w.heap.size,1,none⟩) z1).trans m1;by_cases Hj:k<l.length
    ·rcases H9.out with h|⟨b,off,rfl,P,hc⟩
     ·omega
     obtain⟨pa,pc,⟨c0,cp,cq⟩,s,c1,H,I,c4⟩:=hc k Hj;have x0:=(g.cell (p:=⟨b,off+k*5,none⟩) P).trans c0;have x1:=(g.cell (p:=⟨b,off+k*5+1,none⟩) P).trans c1;have x2:=(g.cell (p:=⟨b,off+k*5+2,none⟩) P).trans H;have x3:=(g.cell (p:=⟨b,off+k*5+3,none⟩) P).trans I;have x4:=(g.cell (p:=⟨b,off+k*5+4,none⟩) P).trans c4;have HS:=hid (s.below g.out);have i1:(0:Int)<=(k:Int):=Int.natCast_nonneg _;have i2:(k:Int)<(l.length:Int):=by omega
     have N:=hid hc;have zr:w1.heap.size<=wr.heap.size:=g.size;clear hc c0 c1 H I c4 s m0 m1;go_upto_region 7 with fail;obtain⟨y,hy⟩:∃y,gL l k=y:=⟨_,rfl⟩;have Hk:=hp k;rw [hy] at HS x0 x1 x2 x3 x4 cp Hk ⊢;have HE:=hid hy;clear hy;obtain⟨p,fl,r,q,v⟩:=y;dsimp only at HS x0 x1 x2 x3 x4 cp Hk ⊢;obtain⟨G,Hi⟩:∃G,wr.alloc (.cells #[.slice pa p.length pc,.bool fl,.int .i64 r,.int .i64 q,.string v] 69)=G:=⟨_,rfl⟩;have b2:Below wr.heap.size wr G:=by rw [<- Hi];exact zO _ _
     have D:Bx5 G wr.heap.size (.slice pa p.length pc) (.bool fl) (.int .i64 r) (.int .i64 q) (.string v):=by rw [<- Hi];exact⟨by simp,by simp,by simp,by simp,by simp,fun i=>by simp,by simp⟩
     have t0:=(b2.cell (p:=⟨w.heap.size,0,none⟩) (show w.heap.size<wr.heap.size by omega)).trans r0;have t1:=(b2.cell (p:=⟨w.heap.size,1,none⟩) (show w.heap.size<wr.heap.size by omega)).trans r1;have y0:=D.c0;have y1:=D.c1;have y2:=D.c2;have y3:=D.c3;have y4:=D.c4;have Hd:=hid (g.trans (b2.mono g.size));have Ht:=hid (HS.below b2);have HP:=hid (Qfg p pa pc G Hk Ht.out);have HA:=hid (Qms x n d R F T r q G hm (Ga.below Hd.out));have z2:wr.heap.size<G.heap.size:=D.lt;have z:=hid D;rw [Hi];clear Hi b2 D x0 x1 x2 x3 x4 r0 r1 HS g;have H7:=hid (E.trans (Hd.mono E.size));have Z:Hid (¬(QbV ⟨p,fl,r,q,v⟩/\ Qco R F T r q q n=true/\ (0<k ->QaG (gL l (k - 1)) ⟨p,fl,r,q,v⟩<0)) ->Y=false):=hid (fun no=>by
      rw [<- HY.out];exact Qaj (fun h=>no (by have:=h.2.2.1 k Hj;rw [HE.out] at this;exact this)))
     go_cut [54] from 16 to 81 (fun v5 wx=>∃A:Bool,v5=.bool (!A)/\ Hid (A=true↔QbV ⟨p,fl,r,q,v⟩/\ Qco R F T r q q n=true)/\ Hid (Below G.heap.size G wx));case first=>
      go_wp2_with fail;refine HP.mono ?_;rintro e w3 ⟨rfl,rfl⟩;obtain⟨Y1,Hy⟩:∃Y1,yes (QaQ p)=Y1:=⟨_,rfl⟩;have Hu:=hid Hy;rw [Hy];clear Hy HP Z;cases Y1 with
      | false=>
       go_wp2_with fail;go_meet;exact⟨false,rfl,hid ⟨fun h=>(by cases h),fun h=>(by have:=Qal h.1.1;rw [Hu.out] at this;cases this)⟩,hid zI⟩
      | true=>
       by_cases hv:(200:Int)<(v.size:Int)
       ·have d1:decide ((200:Int)<(v.size:Int))=true:=by simpa using hv
        go_wp2_with fail;go_meet;exact⟨false,rfl,hid ⟨fun h=>(by cases h),fun h=>(by have:v.size<=200:=h.1.2.1;omega)⟩,hid zI⟩
       ·have d1:decide ((200:Int)<(v.size:Int))=false:=by simpa using hv
        by_cases Ha:fl=true/\ v.toList.isEmpty=false
        ·obtain⟨rfl,Ha⟩:=Ha;go_wp2_with fail;go_meet;exact⟨false,rfl,hid ⟨fun h=>(by cases h),fun h=>(by have:v.toList.isEmpty=true:=h.1.2.2 rfl;rw [Ha] at this;cases this)⟩,hid zI⟩
        ·have he:fl=true ->v.toList.isEmpty=true:=fun e=>by
          by_cases h:v.toList.isEmpty=true
          ·exact h
          ·exact absurd ⟨e,by simpa using h⟩ Ha
         have Hh:Hid (QbV ⟨p,fl,r,q,v⟩):=hid ⟨QbP.1 Hu.out,by show v.size<=200;omega,he⟩;clear Ha Hu;cases fl with
         | true=>
          have he:=he rfl;go_wp2_with fail;refine HA.mono ?_;rintro e m ⟨rfl,b4⟩;have O:=hid b4;clear b4;go_wp2_with fail;go_meet;exact⟨_,rfl,hid ⟨fun h=>⟨Hh.out,h⟩,fun h=>h.2⟩,O⟩
         | false=>
          clear he;go_wp2_with fail;refine HA.mono ?_;rintro e m ⟨rfl,b4⟩;have O:=hid b4;clear b4;go_wp2_with fail;go_meet;exact⟨_,rfl,hid ⟨fun h=>⟨Hh.out,h⟩,fun h=>h.2⟩,O⟩
     case rest=>
      obtain⟨A,rfl,J,u⟩:=hcut;obtain⟨m,rfl⟩:∃m,m=wc:=⟨_,rfl⟩;have zt:w.heap.size<m.heap.size:=by have:=u.size;omega
      have V:wr.heap.size<m.heap.size:=by have:=u.size;omega
      have B4:=z.below u.out z2;have t0:=(u.cell (p:=⟨w.heap.size,0,none⟩) (show w.heap.size<G.heap.size by omega)).trans t0;have y0:=B4.c0;have y1:=B4.c1;have y2:=B4.c2;have y3:=B4.c3;have y4:=B4.c4;have O:=hid (Hd.trans (u.mono Hd.size));have H6:=hid (Ht.below u.out);have He:=hid (E.trans (O.mono E.size));clear B4 z Ht H7 u HP HA t1 Hd z2;cases A with
      | false=>
       have Q:=hid (Z (fun h=>by have:=J.2 ⟨h.1,h.2.1⟩;cases this));clear Z N;go_wp2_with fail;go_ret;exact⟨Qa3 Q.symm,He.out⟩
      | true=>
       have Hh:=hid (J.1 rfl).1;have Hq:=hid (J.1 rfl).2;clear J;go_upto_region 9 with fail;go_cut [67] from 16 to 81 (fun v5 wx=>∃A:Bool,v5=.bool (!A)/\ Hid (A=true↔(0<k ->QaG (gL l (k - 1)) ⟨p,fl,r,q,v⟩<0))/\ Hid (Below m.heap.size m wx));case first=>
        by_cases Ge:k=0
        ·have d2:decide ((0:Int)<(k:Int))=false:=by simp;omega
         have d3:decide (0<k)=false:=by simp;omega
         go_quiet (fail);go_wp2_with fail;go_meet;exact⟨true,rfl,hid ⟨fun _ h=>by omega,fun _=>rfl⟩,hid (Qaz zI _)⟩
        ·obtain⟨j,hj⟩:∃j,k=j+1:=⟨k - 1,by omega⟩;obtain⟨Hl,Hm,⟨c0,Hv,Gd⟩,s',c1,H,I,c4⟩:=N j (by omega);have M:=fun(o:Nat)=>O.cell (p:=⟨b,o,none⟩) P;have j0:=(M _).trans c0;have j1:=(M _).trans c1;have j2:=(M _).trans H;have j3:=(M _).trans I;have j4:=(M _).trans c4;have Hs:=hid (s'.below O.out);have H0:=hp j;obtain⟨y',H2⟩:∃y',gL l j=y':=⟨_,rfl⟩;rw [H2] at j0 j1 j2 j3 j4 Hs H0 Hv;have Hf:=hid H2;obtain⟨p',Hc,r',M,v'⟩:=y';dsimp only at j0 j1 j2 j3 j4 Hs H0 Hv;have zb:b<m.heap.size:=by have:=O.size;omega
         have d2:decide ((0:Int)<(k:Int))=true:=by simp;omega
         have d3:decide (0<k)=true:=by simp;omega
         have H1:(k:Int) - 1=(j:Int):=by omega
         have Gf:IntKind.i64.wrap (j:Int)=(j:Int):=by rw [IntKind.wrap_i64];omega
         have Gg:IntKind.i64.wrap ((k:Int) - 1)=(j:Int):=by rw [H1];exact Gf
         have q1:(0:Int)<=(j:Int):=Int.natCast_nonneg _;have q2:(j:Int)<(l.length:Int):=by omega
         have H4:=hid hj;obtain⟨Bf,Hx⟩:∃Bf,yes (QaG ⟨p',Hc,r',M,v'⟩ ⟨p,fl,r,q,v⟩<0)=Bf:=⟨_,rfl⟩;have H8:=hid Hx;have H5:Hid (∀W,Below m.heap.size m W ->Calls Tryz.prog 27 #[.agg #[.slice Hl p'.length Hm,.bool Hc,.int .i64 r',.int .i64 M,.string v'],.agg #[.slice pa p.length pc,.bool fl,.int .i64 r,.int .i64 q,.string v]] W fun e w'=>e=.returned (.bool Bf)/\ Below W.heap.size W w'):=hid (fun W hB=>by rw [<- Hx];exact Qhj Hl pa Hm pc p' p Hc fl r' M r q v' v W H0 Hk Hv cp Gd cq (Hs.below hB) (H6.below hB));clear Hx hj Ge c0 c1 H I c4 s' H2;have Hp:Hid (∀w',Below m.heap.size m w' ->(Below m.heap.size m w'/\ w'.cell? ⟨w.heap.size,0,none⟩=some (.slice (some ⟨b,off,none⟩) l.length c)/\ w'.cell? ⟨wr.heap.size,0,none⟩=some (.slice pa p.length pc)/\ w'.cell? ⟨wr.heap.size,1,none⟩=some (.bool fl)/\ w'.cell? ⟨wr.heap.size,2,none⟩=some (.int .i64 r)/\ w'.cell? ⟨wr.heap.size,3,none⟩=some (.int .i64 q)/\ w'.cell? ⟨wr.heap.size,4,none⟩=some (.string v)/\ w'.cell? ⟨b,off+j*5,none⟩=some (.slice Hl p'.length Hm)/\ w'.cell? ⟨b,off+j*5+1,none⟩=some (.bool Hc)/\ w'.cell? ⟨b,off+j*5+2,none⟩=some (.int .i64 r')/\ w'.cell? ⟨b,off+j*5+3,none⟩=some (.int .i64 M)/\ w'.cell? ⟨b,off+j*5+4,none⟩=some (.string v'))):=hid (fun w' hB=>⟨hB,(hB.cell (p:=⟨w.heap.size,0,none⟩) zt).trans t0,(hB.cell (p:=⟨wr.heap.size,0,none⟩) V).trans y0,(hB.cell (p:=⟨wr.heap.size,1,none⟩) V).trans y1,(hB.cell (p:=⟨wr.heap.size,2,none⟩) V).trans y2,(hB.cell (p:=⟨wr.heap.size,3,none⟩) V).trans y3,(hB.cell (p:=⟨wr.heap.size,4,none⟩) V).trans y4,(hB.cell (p:=⟨b,off+j*5,none⟩) zb).trans j0,(hB.cell (p:=⟨b,off+j*5+1,none⟩) zb).trans j1,(hB.cell (p:=⟨b,off+j*5+2,none⟩) zb).trans j2,(hB.cell (p:=⟨b,off+j*5+3,none⟩) zb).trans j3,(hB.cell (p:=⟨b,off+j*5+4,none⟩) zb).trans j4⟩);refine zR (S:=fun w'=>Below m.heap.size m w'/\ w'.cell? ⟨w.heap.size,0,none⟩=some (.slice (some ⟨b,off,none⟩) l.length c)/\ w'.cell? ⟨wr.heap.size,0,none⟩=some (.slice pa p.length pc)/\ w'.cell? ⟨wr.heap.size,1,none⟩=some (.bool fl)/\ w'.cell? ⟨wr.heap.size,2,none⟩=some (.int .i64 r)/\ w'.cell? ⟨wr.heap.size,3,none⟩=some (.int .i64 q)/\ w'.cell? ⟨wr.heap.size,4,none⟩=some (.string v)/\ w'.cell? ⟨b,off+j*5,none⟩=some (.slice Hl p'.length Hm)/\ w'.cell? ⟨b,off+j*5+1,none⟩=some (.bool Hc)/\ w'.cell? ⟨b,off+j*5+2,none⟩=some (.int .i64 r')/\ w'.cell? ⟨b,off+j*5+3,none⟩=some (.int .i64 M)/\ w'.cell? ⟨b,off+j*5+4,none⟩=some (.string v')) (Hp _ zI.drew) (fun qh=> ?_);refine tZ 0 55 ?_;refine tZ 1 56 ?_;refine tZ 2 57 ?_;refine tZ 3 58 ?_;refine tZ 4 59 ?_;refine tZ 5 60 ?_;refine tZ 6 61 ?_;refine tZ 7 62 ?_;refine tZ 8 63 ?_;refine tZ 9 64 ?_;refine cZ 10 ?_;intro K hK;go_simp;refine(H5 _ qh.1).mono ?_;rintro e U ⟨rfl,b5⟩;have Hw:=qh.1.trans (b5.mono qh.1.size);refine hK.out _ _ (Hp _ Hw) (fun qh=> ?_);clear hK K;try simp only [zP]
         refine tZ 11 66 ?_;refine tZ 12 67 ?_;refine zD ?_;have z:=hid Hw;have J:Hid (Bf=true↔(0<k ->QaG (gL l (k - 1)) ⟨p,fl,r,q,v⟩<0)):=hid (by
          have e:gL l (k - 1)=⟨p',Hc,r',M,v'⟩:=by rw [show k - 1=j by have:=H4.out;omega,Hf.out]
          rw [e,<- H8.out,QbP];exact⟨fun h _=>h,fun h=>h (by have:=H4.out;omega)⟩)
         clear qh Hw b5 Hp H5 Z N;go_wp2_with fail;go_meet;exact⟨Bf,rfl,J,z⟩
       case rest=>
        obtain⟨A,rfl,J,u⟩:=hcut;obtain⟨U,rfl⟩:∃U,U=wc:=⟨_,rfl⟩;have z:=hid (O.trans (u.mono O.size));have t0:=(u.cell (p:=⟨w.heap.size,0,none⟩) zt).trans t0;have y2:=(u.cell (p:=⟨wr.heap.size,2,none⟩) V).trans y2;have y3:=(u.cell (p:=⟨wr.heap.size,3,none⟩) V).trans y3;have zt:w.heap.size<U.heap.size:=Nat.lt_of_lt_of_le zt u.size;have V:wr.heap.size<U.heap.size:=Nat.lt_of_lt_of_le V u.size;clear u y0 y1 y4 H6 O He;cases A with
        | false=>
         have Q:=hid (Z (fun h=>by have:=J.2 h.2.2;cases this));have HZ:=hid (E.trans (z.mono E.size));clear Z N;go_wp2_with fail;go_ret;exact⟨Qa3 Q.symm,HZ.out⟩
        | true=>
         have Hr:Hid (0<k ->QaG (gL l (k - 1)) ⟨p,fl,r,q,v⟩<0):=hid (J.1 rfl);have Gb:Hid (∀wi,Below U.heap.size U wi ->wi.cell? ⟨wr.heap.size,2,none⟩=some (.int .i64 r)):=hid (fun wi h=>(h.cell (p:=⟨wr.heap.size,2,none⟩) V).trans y2);have Gc:Hid (∀wi,Below U.heap.size U wi ->wi.cell? ⟨wr.heap.size,3,none⟩=some (.int .i64 q)):=hid (fun wi h=>(h.cell (p:=⟨wr.heap.size,3,none⟩) V).trans y3);go_wp2_with fail;go_loopw [5] (fun i wi=>∃j:Nat,j<=k/\ i=.int .i64 j/\ Hid (Below U.heap.size U wi)/\ Hid (∀t,t<j ->Dif (gL l t) (gL l k))) (fun i _=>k - (intOf i).toNat);case atStart=>exact⟨0,Nat.zero_le _,rfl,hid zI,hid (fun t ht=>by omega)⟩
         case round=>
          obtain⟨j,hj,rfl,L,Hb⟩:=hrel;have g0:=(L.cell (p:=⟨w.heap.size,0,none⟩) zt).trans t0;have g2:=Gb _ L.out;have g3:=Gc _ L.out;by_cases Hz:j<k
          ·obtain⟨ja,jc,_,_,_,H,I,_⟩:=N j (by omega);have j2:=(((z.trans (L.mono z.size)).cell (p:=⟨b,off+j*5+2,none⟩) P)).trans H;have j3:=(((z.trans (L.mono z.size)).cell (p:=⟨b,off+j*5+3,none⟩) P)).trans I;obtain⟨yj,H3⟩:∃yj,gL l j=yj:=⟨_,rfl⟩;rw [H3] at j2 j3;have Hf:=hid H3;obtain⟨pj,fj,B,X,vj⟩:=yj;dsimp only at j2 j3;have q1:(0:Int)<=(j:Int):=Int.natCast_nonneg _;have q2:(j:Int)<(l.length:Int):=by omega
           have q3:(j:Int)<(k:Int):=by omega
           have hG:=QjW;have EQ:∀w:World,(binOp .eql 67 (.agg #[.int .i64 B,.int .i64 X]) (.agg #[.int .i64 r,.int .i64 q])).run Tryz.prog w=.ok (.bool (B==r && X==q)) w:=fun w=>Qlg B X r q w;clear H3 H I t0 y2 y3;by_cases hr:B=r
           ·have e1:(B==r)=true:=by simpa using hr
            by_cases hq:X=q
            ·have e2:(X==q)=true:=by simpa using hq
             have EQ:∀w:World,(binOp .eql 67 (.agg #[.int .i64 B,.int .i64 X]) (.agg #[.int .i64 r,.int .i64 q])).run Tryz.prog w=.ok (.bool true) w:=fun w=>by rw [EQ w,e1,e2];rfl
             have Q:Hid (Y=false):=hid (by rw [<- HY.out];exact Qaj (fun h=>h.2.2.2 k Hj j Hz (by rw [Hf.out,HE.out];exact⟨hr,hq⟩)));have HZ:=hid (E.trans ((z.trans (L.mono z.size)).mono E.size));clear Z Hb N;go_wp2_with fail;go_quiet (fail);go_wp2_with fail;go_ret;exact⟨Qa3 Q.symm,Qaz HZ.out _⟩
            ·have e2:(X==q)=false:=by simpa using hq
             have EQ:∀w:World,(binOp .eql 67 (.agg #[.int .i64 B,.int .i64 X]) (.agg #[.int .i64 r,.int .i64 q])).run Tryz.prog w=.ok (.bool false) w:=fun w=>by rw [EQ w,e1,e2];rfl
             have HD:Hid (∀t,t<j+1 ->Dif (gL l t) (gL l k)):=hid (fun t ht=>by
              by_cases e:t=j
              ·rw [e,Hf.out,HE.out];exact fun h=>hq h.2
              ·exact Hb t (by omega))
             clear Z Hb N;go_wp2_with fail;go_quiet (fail);have Ho:=hid (Qaz L.out nq);go_wp2_with fail;go_roundw;case rel=>exact⟨j+1,Hz,by go_num,Ho,HD⟩
             case measure=>simp [intOf];omega
           ·have e1:(B==r)=false:=by simpa using hr
            have EQ:∀w:World,(binOp .eql 67 (.agg #[.int .i64 B,.int .i64 X]) (.agg #[.int .i64 r,.int .i64 q])).run Tryz.prog w=.ok (.bool false) w:=fun w=>by rw [EQ w,e1];rfl
            have HD:Hid (∀t,t<j+1 ->Dif (gL l t) (gL l k)):=hid (fun t ht=>by
             by_cases e:t=j
             ·rw [e,Hf.out,HE.out];exact fun h=>hr h.1
             ·exact Hb t (by omega))
            clear Z Hb N;go_wp2_with fail;go_quiet (fail);have Ho:=hid (Qaz L.out nq);go_wp2_with fail;go_roundw;case rel=>exact⟨j+1,Hz,by go_num,Ho,HD⟩
            case measure=>simp [intOf];omega
          ·obtain rfl:j=k:=by omega
           have HN:Hid (QbQ R F T n l (j+1)/\ Dis l (j+1)):=hid ⟨HI.1.step (by rw [HE.out];exact Hh.out) (by rw [HE.out];exact Hq.out) (fun h=>by rw [HE.out];exact Hr h),HI.2.step Hb.out⟩;have HZ:=hid (z.trans (L.mono z.size));clear Z Hb N t0 y2 y3 g0 g2 g3;go_wp2_with fail;go_roundw;case rel=>exact⟨j+1,Hj,by go_num,HZ,HN⟩
           case measure=>simp [intOf];omega
    ·obtain rfl:k=l.length:=by omega
     have Q:Hid (Y=true):=hid (by rw [<- HY.out];exact Qal ⟨HC.out,by omega,HI.1,HI.2⟩);have HB:=hid (E.trans (g.mono E.size));clear m0 m1;go_wp2_with fail;go_ret;exact⟨Qa3 Q.symm,HB.out⟩
open Go.Deep
structure Sx where
 l:List Lf
 n:Nat
 R:Nat ->Int
 F:Nat ->Int
 T:Nat ->Int
structure Sx.Sm (S:Sx):Prop where
 l1:S.l.length<=1048576
 p1:LBd S.l
 n1:S.n<=1048576
structure SCt (w:World)(a x:Option Addr)(S:Sx):Prop where
 lf:Qef w a S.l
 rn:Qb3 w x S.n S.R S.F S.T
theorem SCt.below {w w':World}{a x:Option Addr}{S:Sx}(h:SCt w a x S)(hb:Below w.heap.size w w'):SCt w' a x S:=⟨h.lf.below hb,h.rn.below hb⟩
theorem Qaq {w w':World}{B e size n:Nat}{v:Value}{xs:List Value}(h:w.ownsRow B e size v n xs)(hk:∀g,v.ownBlock=some g ->w'.heap[g]? =w.heap[g]?):w'.ownsRow B e size v n xs:=by
 obtain⟨u,j⟩:=h;refine⟨u,?_⟩;rcases j with j|⟨g,cap,k,e,q,m,r⟩
 ·exact .inl j
 ·subst e;exact .inr ⟨g,cap,k,rfl,q,(hk g rfl).trans m,r⟩
theorem QaV {w:World}{B C e size n:Nat}{v:Value}{xs:List Value}(h:w.ownsRow B e size v n xs)(hc:C<=B):w.ownsRow C e size v n xs:=by
 obtain⟨q,j⟩:=h;refine⟨q,?_⟩;rcases j with j|⟨g,cap,k,e,m,r⟩
 ·exact .inl j
 ·exact .inr ⟨g,cap,k,e,Nat.le_trans hc m,r⟩
theorem Bx5.new (w:World)(v0 v1 v2 v3 v4:Value)(t:TypeId):Bx5 (w.alloc (.cells #[v0,v1,v2,v3,v4] t)) w.heap.size v0 v1 v2 v3 v4:=
 ⟨by simp,by simp,by simp,by simp,by simp,fun i=>by simp,by simp⟩
theorem Bx5.up {w:World}{b:Nat}{v0 v1 v2 v3 v4:Value}(h:Bx5 w b v0 v1 v2 v3 v4)(o:Obj):Bx5 (w.alloc o) b v0 v1 v2 v3 v4:=h.below (zO w o) h.lt
theorem Qhk:laidOutB Tryz.prog=true:=by kernel_rfl
theorem QaD:Keyed Tryz.prog 67:=Keyed.of_law (deep_law_laid Qhk (m:=3) (by omega) (of_decide_eq_true (by kernel_rfl)) (by kernel_rfl) (by kernel_rfl))
def Qgc (r q:Int):Value:=.agg #[.int .i64 r,.int .i64 q]
theorem Qnd:Tryz.prog.keyType 67=true:=by kernel_rfl
theorem Qd5 {r q:Int}(hr:(Lit.int .i64 r).wf=true)(hq:(Lit.int .i64 q).wf=true):∃kl,keyOf Tryz.prog 67 (Qgc r q)=some kl:=by
 unfold keyOf;rw [Tryz.underlying67];simp only [Qnd,Bool.true_and];have v:0<Tryz.prog.types.size:=of_decide_eq_true (by kernel_rfl);obtain⟨m,u⟩:∃m,Tryz.prog.types.size=m+1:=⟨Tryz.prog.types.size - 1,by omega⟩;rw [u];have j:Tryz.prog.cellsOf 67=2:=by kernel_rfl
 have k:Tryz.prog.cellsOf 3=1:=by kernel_rfl
 simp [Value.formed,Qgc,Tryz.underlying67,j,Program.keyLits,Tryz.underlying3,k,Value.cells,hr,hq]
theorem Qeo {r q r' q':Int}{kl:Lit}(h:keyOf Tryz.prog 67 (Qgc r q)=some kl)(h':keyOf Tryz.prog 67 (Qgc r' q')=some kl):r=r'/\ q=q':=by
 have e:=QaD.inj h h';simpa [Qgc] using e
structure QjL (w:World)(bm k:Nat)(l:List Lf)(D:DataW Value):Prop where
 own:w.ownsMap Tryz.prog 67 (plainElem Tryz.prog 3) bm k D
 tidy:Tidy D
 has':∀r q kl,keyOf Tryz.prog 67 (Qgc r q)=some kl ->(has D kl=true↔∃j,j<k/\ (gL l j).r=r/\ (gL l j).q=q)
 le:size D<=k
 eq:size D=k↔∀i,i<k ->∀j,j<i ->¬((gL l j).r=(gL l i).r/\ (gL l j).q=(gL l i).q)
theorem QjL.step {w w':World}{bm k:Nat}{l:List Lf}{D:DataW Value}{kl:Lit}{d:DataW Value}(h:QjL w bm k l D)(hk:keyOf Tryz.prog 67 (Qgc (gL l k).r (gL l k).q)=some kl)
  (ho:w'.ownsMap Tryz.prog 67 (plainElem Tryz.prog 3) bm (k+1) (D.put kl d)):QjL w' bm (k+1) l (D.put kl d):=by
 have y:=QaD.key hk;have z:=size_put (k:=kl) h.tidy d;have v:=h.has' _ _ _ hk;refine⟨ho,h.tidy.put y d,fun r q kl' hk'=> ?_,?_,?_⟩
 ·by_cases e:kl'=kl
  ·subst e;obtain⟨g,t⟩:=Qeo hk hk';rw [has_put_same h.tidy.isMap y];exact⟨fun _=>⟨k,by omega,g,t⟩,fun _=>rfl⟩
  ·rw [has_put_other e,h.has' r q kl' hk'];constructor
   ·rintro⟨j,m,r1⟩;exact⟨j,by omega,r1⟩
   ·rintro⟨j,m,r1,r2⟩;by_cases b:j=k
    ·subst b;rw [r1,r2,hk'] at hk;injection hk with hk;exact absurd hk e
    ·exact⟨j,by omega,r1,r2⟩
 ·rw [z];have:=h.le;split<;>omega
 ·rw [z];have A:=h.le;by_cases u:has D kl=true
  ·rw [if_pos u];obtain⟨j,m,r1,r2⟩:=v.1 u;constructor
   ·intro e;omega
   ·intro e;exact absurd ⟨r1,r2⟩ (e k (by omega) j m)
  ·rw [if_neg u];have s:=fun j m r1 r2=>u (v.2 ⟨j,m,r1,r2⟩);constructor
   ·intro e i p j m;by_cases o:i=k
    ·subst o;exact fun q=>s j m q.1 q.2
    ·exact h.eq.1 (by omega) i (by omega) j m
   ·intro e;have:=h.eq.2 (fun i p j m=>e i (by omega) j m);omega
theorem QjL.made (w:World)(l:List Lf):QjL (w.alloc (.map #[] 0)) w.heap.size 0 l (.map []):=
 ⟨World.ownsMap_made w _ _ _,tidy_empty,fun r q kl hk=>⟨fun h=>by simp [has] at h,fun⟨j,hj,_⟩=>by omega⟩,by simp [size],⟨fun _ i hi=>by omega,fun _=>rfl⟩⟩
def Qit (v:Value):Option (DataW Value×List MemPlace):=some (.held v,[])
theorem QeE {v:Value}{d:DataW Value}{ps:List MemPlace}(h:Qit v=some (d,ps)):d=.held v:=by
 unfold Qit at h;simp at h;exact h.1.symm
abbrev Ky:=ByteArray×Int
abbrev Dt:=Int×Int
def Qbs (x:Ky):Value:=.agg #[.string x.1,.int .i64 x.2]
def dtV (d:Dt):Value:=Qgc d.1 d.2
def Qey:Option ByteArray ->Value
 | none=> .agg #[.string ByteArray.empty]
 | some s=> .agg #[.string s]
def Qdg:Option (Nat×Nat) ->Value
 | none=> .agg #[.map none,.map none]
 | some x=> .agg #[.map (some x.1),.map (some x.2)]
theorem QeZ {x y:Ky}(h:Qbs x=Qbs y):x=y:=by
 obtain⟨a,b⟩:=x;obtain⟨c,d⟩:=y;simpa [Qbs] using h
theorem Qgm {x y:Dt}(h:dtV x=dtV y):x=y:=by
 obtain⟨a,b⟩:=x;obtain⟨c,d⟩:=y;simpa [dtV,Qgc] using h
theorem Qbz:Keyed Tryz.prog 88:=Keyed.of_law (deep_law_laid Qhk (m:=3) (by omega) (of_decide_eq_true (by kernel_rfl)) (by kernel_rfl) (by kernel_rfl))
theorem Qn3:Tryz.prog.keyType 88=true:=by kernel_rfl
theorem Qhi {s:ByteArray}{k:Int}(hs:s.size<=maxLen)(hk:(Lit.int .i64 k).wf=true):∃kl,keyOf Tryz.prog 88 (Qbs (s,k))=some kl:=by
 unfold keyOf;rw [Tryz.underlying88];simp only [Qn3,Bool.true_and];have v:0<Tryz.prog.types.size:=of_decide_eq_true (by kernel_rfl);obtain⟨m,u⟩:∃m,Tryz.prog.types.size=m+1:=⟨Tryz.prog.types.size - 1,by omega⟩;rw [u];have j:Tryz.prog.cellsOf 88=2:=by kernel_rfl
 have q:Tryz.prog.cellsOf 3=1:=by kernel_rfl
 have r:Tryz.prog.cellsOf 9=1:=by kernel_rfl
 simp [Value.formed,Qbs,Tryz.underlying88,j,Program.keyLits,Tryz.underlying3,Tryz.underlying9,q,r,Value.cells,hs,hk]
structure FM {α β:Type}(w:World)(t:TypeId)(kv:α ->Value)(vo:Option β ->Value)(b c:Nat)(f:α ->Option β)(D:DataW Value):Prop where
 own:w.ownsMap Tryz.prog t Qit b c D
 at':∀x kl,keyOf Tryz.prog t (kv x)=some kl ->has D kl=(f x).isSome/\ D.atKey kl (.held (vo none))=.held (vo (f x))
 cov:∀kl,has D kl=true ->∃x,keyOf Tryz.prog t (kv x)=some kl
 ok:∀x,f x≠none ->∃kl,keyOf Tryz.prog t (kv x)=some kl
def QaZ {α β:Type}(w:World)(t:TypeId)(kv:α ->Value)(vo:Option β ->Value)(b c:Nat)(f:α ->Option β):Prop:=∃D,FM w t kv vo b c f D
section
variable {α β : Type} {w : World} {t : TypeId} {kv : α -> Value} {vo : Option β -> Value} {b c : Nat} {f : α -> Option β}
theorem QbI {w w':World}{k:TypeId}{R:Value ->Option (DataW Value×List MemPlace)}{b n:Nat}{D:DataW Value}(h:w.ownsMap Tryz.prog k R b n D)(e:w'.heap[b]? =w.heap[b]?):w'.ownsMap Tryz.prog k R b n D:=by
 obtain⟨m,j,q,r⟩:=h;exact⟨m,j,e.trans q,r⟩
theorem QaZ.same {w':World}(h:QaZ w t kv vo b c f)(e:w'.heap[b]? =w.heap[b]?):QaZ w' t kv vo b c f:=by
 obtain⟨D,h⟩:=h;exact⟨D,QbI h.own e,h.at',h.cov,h.ok⟩
theorem QaZ.mono {c':Nat}(h:QaZ w t kv vo b c f)(hc:c<=c'):QaZ w t kv vo b c' f:=by
 obtain⟨D,h⟩:=h;exact⟨D,h.own.mono hc,h.at',h.cov,h.ok⟩
theorem QaZ.lt (h:QaZ w t kv vo b c f):b<w.heap.size:=by
 obtain⟨D,h⟩:=h;exact h.own.lt
theorem QaZ.obj (h:QaZ w t kv vo b c f):∃k j,w.heap[b]? =some (.map k j):=by
 obtain⟨D,h⟩:=h;obtain⟨k,j,m,_⟩:=h.own;exact⟨k,j,m⟩
theorem QaZ.ext {g:α ->Option β}(h:QaZ w t kv vo b c f)(e:∀x,f x=g x):QaZ w t kv vo b c g:=by
 obtain rfl:f=g:=funext e;exact h
theorem QaZ.look {mt e:TypeId}(h:QaZ w t kv vo b c f)(K:Keyed Tryz.prog t)(ht:Tryz.prog.underlying mt=some (.map t e))(hz:(zeroValue e).run Tryz.prog w=.ok (vo none) w){x:α}{kl:Lit}(hk:keyOf Tryz.prog t (kv x)=some kl):
  (Instr.lookup mt (.map (some b)) (kv x) false).run Tryz.prog w=.ok (vo (f x)) w:=by
 obtain⟨D,h⟩:=h;obtain⟨v,ps,j,k⟩:=h.own.lookup K ht hz (zd:=.held (vo none)) (zp:=[]) rfl hk;have:=QeE k;rw [(h.at' x kl hk).2] at this;injection this with this;rw [<- this] at j;exact j
theorem QaZ.look_ok {mt e:TypeId}(h:QaZ w t kv vo b c f)(K:Keyed Tryz.prog t)(ht:Tryz.prog.underlying mt=some (.map t e))(hz:(zeroValue e).run Tryz.prog w=.ok (vo none) w){x:α}{kl:Lit}(hk:keyOf Tryz.prog t (kv x)=some kl):
  (Instr.lookup mt (.map (some b)) (kv x) true).run Tryz.prog w=.ok (.tuple #[vo (f x),.bool (f x).isSome]) w:=by
 obtain⟨D,h⟩:=h;obtain⟨v,ps,j,k⟩:=h.own.look_ok K ht hz (zd:=.held (vo none)) (zp:=[]) rfl hk;have:=QeE k;rw [(h.at' x kl hk).2] at this;injection this with this;rw [<- this,(h.at' x kl hk).1] at j;exact j
theorem QaZ.made (w:World)(t:TypeId)(kv:α ->Value)(vo:Option β ->Value):QaZ (w.alloc (.map #[] 0)) t kv vo w.heap.size 0 (fun _=>none):=
 ⟨.map [],World.ownsMap_made w _ _ _,fun x kl _=>⟨by simp [has],rfl⟩,fun kl h=>by simp [has] at h,fun x h=>absurd rfl h⟩
open Classical in
noncomputable def Qe8 {α β:Type}(f:α ->Option β)(x:α)(v:Option β)(y:α):Option β:=if y=x then v else f y
theorem Qax (f:α ->Option β)(x:α)(v:Option β):Qe8 f x v x=v:=by unfold Qe8;simp
theorem Qan (f:α ->Option β){x y:α}(v:Option β)(h:y≠x):Qe8 f x v y=f y:=by unfold Qe8;simp [h]
theorem QaZ.store {mt e:TypeId}(h:QaZ w t kv vo b c f)(K:Keyed Tryz.prog t)(hi:∀x y,kv x=kv y ->x=y)(ht:Tryz.prog.underlying mt=some (.map t e))(hc:c<maxLen){x:α}{y:β}{kl:Lit}(hk:keyOf Tryz.prog t (kv x)=some kl):
  ∃w',(Instr.mapUpdate mt (.map (some b)) (kv x) (vo (some y))).run Tryz.prog w=.ok () w'/\ QaZ w' t kv vo b (c+1) (Qe8 f x (some y))/\ w.grownBy w' (some b):=by
 obtain⟨D,h⟩:=h;obtain⟨w',u,r,q⟩:=h.own.update K ht hc hk (val:=vo (some y)) (d:=.held (vo (some y))) (ps:=[]) rfl;have m:=K.key hk;refine⟨w',u,⟨_,r,fun x' kl' hk'=> ?_,fun kl' hh=> ?_,fun x' hx'=> ?_⟩,q⟩
 ·by_cases j:x'=x
  ·subst j;rw [hk] at hk';injection hk' with hk';subst hk';rw [Qax,has_put_same h.own.isMap m,atKey_put_same h.own.isMap m];exact⟨rfl,rfl⟩
  ·have k:kl'≠kl:=fun e=>j (hi _ _ (K.inj (e ▸ hk') hk));rw [Qan _ _ j,has_put_other k,atKey_put_other k];exact h.at' x' kl' hk'
 ·by_cases k:kl'=kl
  ·subst k;exact⟨x,hk⟩
  ·rw [has_put_other k] at hh;exact h.cov kl' hh
 ·by_cases j:x'=x
  ·subst j;exact⟨kl,hk⟩
  ·rw [Qan _ _ j] at hx';exact h.ok x' hx'
end
def Qac (p:List ByteArray)(k:Int):List Ky:=(List.range p.length).map fun i=>(gS p i,if i+1<p.length then 3 else k)
theorem QaW (p:List ByteArray)(k:Int):(Qac p k).length=p.length:=by simp [Qac]
theorem Qbu {p:List ByteArray}{k:Int}{i:Nat}(h:i<p.length):(Qac p k)[i]? =some (gS p i,if i+1<p.length then 3 else k):=by simp [Qac,h]
theorem Qda {p:List ByteArray}{k:Int}{i:Nat}(h:i<p.length):(Qac p k).take (i+1)=(Qac p k).take i++[(gS p i,if i+1<p.length then 3 else k)]:=by
 have j:i<(Qac p k).length:=by rw [QaW];exact h
 rw [List.take_add_one,Qbu h];rfl
theorem Qlj {p q:List ByteArray}(hl:p.length=q.length)(h:∀i,i<p.length ->gS p i=gS q i):p=q:=by
 refine List.ext_getElem hl fun i h1 h2=> ?_;have:=h i h1;simpa [gS,List.getD,h1,h2] using this
theorem QjJ {p q:List ByteArray}{k j:Int}(h:Qac p k=Qac q j)(h0:0<p.length):p=q/\ k=j:=by
 have r:p.length=q.length:=by have:=congrArg List.length h;simpa [QaW] using this
 have m:∀i,i<p.length ->(gS p i,if i+1<p.length then 3 else k)=(gS q i,if i+1<q.length then(3:Int) else j):=fun i hi=>by
  have:=Qbu (k:=k) hi;rw [h,Qbu (by omega)] at this;injection this with this;exact this.symm
 refine⟨Qlj r fun i hi=>(Prod.mk.inj (m i hi)).1,?_⟩;have:=(Prod.mk.inj (m (p.length - 1) (by omega))).2;rw [if_neg (by omega),if_neg (by omega)] at this;exact this
theorem QhD {α:Type}{l:List α}{k:Nat}{x:α}{q:List α}(h:l.take (k+1)=l.take k++[x]):q <+:l.take (k+1)↔q <+:l.take k \/q=l.take k++[x]:=by
 rw [h];constructor
 ·intro j;rcases List.prefix_concat_iff.1 j with e|e
  ·exact .inr e
  ·exact .inl e
 ·rintro(e|e)
  ·exact e.trans (List.prefix_append _ _)
  ·rw [e];exact List.prefix_refl _
structure Tre (w:World)(B:Nat)(N:List Ky ->Option (Nat×Nat))(M:List Ky ->Dt ->Option ByteArray)(c:Nat):Prop where
 kids:∀p x,N p=some x ->QaZ w 88 Qbs Qdg x.1 c (fun y=>N (p++[y]))
 marks:∀p x,N p=some x ->QaZ w 67 dtV Qey x.2 c (M p)
 apart:∀p q x y,N p=some x ->N q=some y ->x.1≠y.2/\ (x.1=y.1 ->p=q)/\ (x.2=y.2 ->p=q)
 lo:∀p x,N p=some x ->B<=x.1/\ B<=x.2
 none':∀p,N p=none ->M p=fun _=>none
 up:∀p y,N p=none ->N (p++[y])=none
section
variable {w w' : World} {B c : Nat} {N : List Ky -> Option (Nat × Nat)} {M : List Ky -> Dt -> Option ByteArray}
theorem Tre.same (h:Tre w B N M c)(hs:∀p x,N p=some x ->w'.heap[x.1]? =w.heap[x.1]? /\ w'.heap[x.2]? =w.heap[x.2]?):Tre w' B N M c:=
 ⟨fun p x hx=>(h.kids p x hx).same (hs p x hx).1,fun p x hx=>(h.marks p x hx).same (hs p x hx).2,h.apart,h.lo,h.none',h.up⟩
theorem Tre.lt (h:Tre w B N M c){p:List Ky}{x:Nat×Nat}(hx:N p=some x):x.1<w.heap.size/\ x.2<w.heap.size:=⟨(h.kids p x hx).lt,(h.marks p x hx).lt⟩
theorem Tre.below (h:Tre w B N M c)(hb:Below w.heap.size w w'):Tre w' B N M c:=h.same fun p x hx=>⟨hb.block _ (h.lt hx).1,hb.block _ (h.lt hx).2⟩
theorem Tre.mono {c':Nat}(h:Tre w B N M c)(hc:c<=c'):Tre w B N M c':=⟨fun p x hx=>(h.kids p x hx).mono hc,fun p x hx=>(h.marks p x hx).mono hc,h.apart,h.lo,h.none',h.up⟩
theorem Qci {w:World}{q:Addr}{v:Value}(h:w.cell? q=some v):∀k j,w.heap[q.block]? ≠some (.map k j):=by
 intro k j e;simp [World.cell?,e] at h
theorem Tre.set (h:Tre w B N M c){q:Addr}{v:Value}(u:Value)(hc:w.cell? q=some v):Tre (w.setCell q u) B N M c:=by
 refine h.same fun p x hx=>⟨zH _ _ _ _ fun e=> ?_,zH _ _ _ _ fun e=> ?_⟩
 ·obtain⟨m,k,j⟩:=(h.kids p x hx).obj;rw [e] at j;exact Qci hc _ _ j
 ·obtain⟨m,k,j⟩:=(h.marks p x hx).obj;rw [e] at j;exact Qci hc _ _ j
structure Gt (B:Nat)(w w':World):Prop where
 os:w'.os=w.os
 tape:w'.tape=w.tape
 output:w'.output=w.output
 size:w.heap.size<=w'.heap.size
 block:∀g,g<w.heap.size ->(g<B \/∀es cl,w.heap[g]? ≠some (.map es cl)) ->w'.heap[g]? =w.heap[g]?
theorem Gt.refl (B:Nat)(w:World):Gt B w w:=⟨rfl,rfl,rfl,Nat.le_refl _,fun _ _ _=>rfl⟩
theorem Gt.trans {a b d:World}(h:Gt B a b)(k:Gt B b d):Gt B a d:=
 ⟨k.os.trans h.os,k.tape.trans h.tape,k.output.trans h.output,Nat.le_trans h.size k.size,fun g hg ho=>by
  have e:=h.block g hg ho;exact(k.block g (Nat.lt_of_lt_of_le hg h.size) (ho.imp id fun hn es cl=>by rw [e];exact hn es cl)).trans e⟩
theorem Gt.of_below (h:Below w.heap.size w w'):Gt B w w':=⟨h.os,h.tape,h.output,h.size,fun g hg _=>h.block g hg⟩
theorem Gt.below (h:Gt B w w')(hB:B<=w.heap.size):Below B w w':=⟨h.os,h.tape,h.output,h.size,fun g hg=>h.block g (by omega) (.inl hg)⟩
theorem Gt.cell (h:Gt B w w'){q:Addr}{v:Value}(hc:w.cell? q=some v):w'.cell? q=some v:=
 (World.cell?_of_block (h.block q.block (block_lt_of_cell hc) (.inr (Qci hc)))).trans hc
theorem Gt.frozen (h:Gt B w w'){q r:Addr}{v:Value}(hc:w.cell? r=some v)(hr:r.block=q.block):w'.frozen? q=w.frozen? q:=
 World.frozen?_of_block (by rw [<- hr];exact h.block r.block (block_lt_of_cell hc) (.inr (Qci hc)))
theorem Gt.grown {b:Nat}(hg:w.grownBy w' (some b))(hB:B<=b)(k:∃q m,w.heap[b]? =some (.map q m)):Gt B w w':=
 ⟨hg.os,hg.tape,hg.output,hg.size,fun g h1 j=>hg.block g h1 fun e=>by
  injection e with e;subst e;obtain⟨q,m,k⟩:=k;rcases j with j|j
  ·omega
  ·exact j _ _ k⟩
theorem Tre.add {p:List Ky}{y:Ky}{x:Nat×Nat}{s s':Nat}(h:Tre w B N M c)(hN:N p=some x)(hn:N (p++[y])=none)(hk:QaZ w 88 (α:=Ky) Qbs Qdg s 0 (fun _=>none))(hm:QaZ w 67 (α:=Dt) dtV Qey s' 0 (fun _=>none))(hss:s≠s')
  (hs:∀p x,N p=some x ->x.1<s/\ x.2<s/\ x.1<s'/\ x.2<s') (hB:B<=s/\ B<=s')
  (hu:QaZ w' 88 Qbs Qdg x.1 (c+1) (Qe8 (fun z=>N (p++[z])) y (some (s,s')))) (hg:w.grownBy w' (some x.1)):Tre w' B (Qe8 N (p++[y]) (some (s,s'))) M (c+1):=by
 have b:∀q z,q≠p ->q++[z]≠p++[y]:=fun q z hq e=>hq (List.append_inj' e rfl).1;have t:∀g,g<w.heap.size ->g≠x.1 ->w'.heap[g]? =w.heap[g]? :=fun g h1 h2=>hg.block g h1 (fun e=>h2 (by injection e));have A:=hs p x hN;refine⟨fun q z hz=> ?_,fun q z hz=> ?_,fun q r u v hu' hv=> ?_,fun q z hz=> ?_,fun q hq=> ?_,fun q z hq=> ?_⟩
 ·by_cases e:q=p++[y]
  ·subst e;rw [Qax] at hz;injection hz with hz;subst hz;refine((hk.same (t _ hk.lt (by simp;omega))).mono (Nat.zero_le _)).ext fun z=> ?_;rw [Qan _ _ (by intro e;have:=congrArg List.length e;simp at this)];exact(h.up _ z hn).symm
  ·rw [Qan _ _ e] at hz;by_cases j:q=p
   ·subst j;rw [hN] at hz;injection hz with hz;subst hz;refine hu.ext fun z=> ?_;by_cases k:z=y
    ·subst k;rw [Qax,Qax]
    ·rw [Qan _ _ k,Qan _ _ (fun e=>k (by simpa using e))]
   ·have o:=h.kids q z hz;refine((o.same (t _ o.lt fun k=>j ((h.apart q p z x hz hN).2.1 k))).mono (Nat.le_succ _)).ext fun z=> ?_;rw [Qan _ _ (b q z j)]
 ·by_cases e:q=p++[y]
  ·subst e;rw [Qax] at hz;injection hz with hz;subst hz;refine((hm.same (t _ hm.lt (by simp;omega))).mono (Nat.zero_le _)).ext fun z=> ?_;rw [h.none' _ hn]
  ·rw [Qan _ _ e] at hz;have i:=h.marks q z hz;exact(i.same (t _ i.lt fun k=>(h.apart p q x z hN hz).1 k.symm)).mono (Nat.le_succ _)
 ·by_cases e:q=p++[y]
  ·by_cases m:r=p++[y]
   ·subst e;subst m;rw [Qax] at hu' hv;injection hu' with hu';injection hv with hv;subst hu';subst hv;exact⟨hss,fun _=>rfl,fun _=>rfl⟩
   ·subst e;rw [Qax] at hu';rw [Qan _ _ m] at hv;injection hu' with hu';subst hu';have:=hs r v hv;exact⟨by simp;omega,fun e=>by simp at e;omega,fun e=>by simp at e;omega⟩
  ·rw [Qan _ _ e] at hu';by_cases m:r=p++[y]
   ·subst m;rw [Qax] at hv;injection hv with hv;subst hv;have:=hs q u hu';exact⟨by simp;omega,fun e=>by simp at e;omega,fun e=>by simp at e;omega⟩
   ·rw [Qan _ _ m] at hv;exact h.apart q r u v hu' hv
 ·by_cases e:q=p++[y]
  ·subst e;rw [Qax] at hz;injection hz with hz;subst hz;exact hB
  ·rw [Qan _ _ e] at hz;exact h.lo q z hz
 ·by_cases e:q=p++[y]
  ·subst e;rw [Qax] at hq;cases hq
  ·rw [Qan _ _ e] at hq;exact h.none' q hq
 ·by_cases e:q=p++[y]
  ·subst e;rw [Qax] at hq;cases hq
  ·rw [Qan _ _ e] at hq;have j:q≠p:=fun j=>by subst j;rw [hN] at hq;cases hq
   rw [Qan _ _ (b q z j)];exact h.up q z hq
noncomputable def QjN (M:List Ky ->Dt ->Option ByteArray)(p:List Ky)(d:Dt)(s:ByteArray)(q:List Ky):Dt ->Option ByteArray:=if yes (q=p)=true then Qe8 (M p) d (some s) else M q
theorem QbD (M:List Ky ->Dt ->Option ByteArray)(p:List Ky)(d:Dt)(s:ByteArray):QjN M p d s p=Qe8 (M p) d (some s):=by unfold QjN;rw [if_pos (Qal rfl)]
theorem Qbd (M:List Ky ->Dt ->Option ByteArray){p q:List Ky}(d:Dt)(s:ByteArray)(h:q≠p):QjN M p d s q=M q:=by unfold QjN;rw [if_neg (by rw [Qaj h];simp)]
theorem Tre.mark {p:List Ky}{x:Nat×Nat}{d:Dt}{s:ByteArray}(h:Tre w B N M c)(hN:N p=some x)
  (hu:QaZ w' 67 dtV Qey x.2 (c+1) (Qe8 (M p) d (some s))) (hg:w.grownBy w' (some x.2)):Tre w' B N (QjN M p d s) (c+1):=by
 have j:∀g,g<w.heap.size ->g≠x.2 ->w'.heap[g]? =w.heap[g]? :=fun g h1 h2=>hg.block g h1 (fun e=>h2 (by injection e));refine⟨fun q z hz=> ?_,fun q z hz=> ?_,h.apart,h.lo,fun q hq=> ?_,h.up⟩
 ·exact((h.kids q z hz).same (j _ (h.lt hz).1 (h.apart q p z x hz hN).1)).mono (Nat.le_succ _)
 ·by_cases e:q=p
  ·subst e;rw [hN] at hz;injection hz with hz;subst hz;rw [QbD];exact hu
  ·rw [Qbd _ _ _ e];exact((h.marks q z hz).same (j _ (h.lt hz).2 fun e2=>e ((h.apart q p z x hz hN).2.2 e2))).mono (Nat.le_succ _)
 ·have e:q≠p:=fun e=>by subst e;rw [hN] at hq;cases hq
  rw [Qbd _ _ _ e];exact h.none' q hq
end
theorem QaR.gt {w w1:World}{B:Nat}{a:Option Addr}{p:List ByteArray}(h:QaR w a p)(hg:Gt B w w1):QaR w1 a p:=by
 refine h.imp id ?_;rintro⟨b,off,e,k,j⟩;exact⟨b,off,e,Nat.lt_of_lt_of_le k hg.size,fun i hi=>hg.cell (j i hi)⟩
theorem Qf1.gt {w w1:World}{B:Nat}{a:Option Addr}{l:List Lf}(h:Qf1 w a l)(hg:Gt B w w1):Qf1 w1 a l:=by
 refine h.imp id ?_;rintro⟨b,off,e,v,u⟩;refine⟨b,off,e,Nat.lt_of_lt_of_le v hg.size,fun i hi=> ?_⟩;obtain⟨y,pc,j,s,k,m,q,r⟩:=u i hi;exact⟨y,pc,hg.cell j,s.gt hg,hg.cell k,hg.cell m,hg.cell q,hg.cell r⟩
def Qat (p:List ByteArray)(k:Int)(i:Nat):Ky:=(gS p i,if i+1<p.length then 3 else k)
theorem Qkq (p:List ByteArray)(a:Option Addr)(c:Nat)(k:Int)(i:Nat)(w:World)(hp:p.length<=1048576)(hi:i<p.length)(h:QaR w a p):
  Calls Tryz.prog 66 #[.slice a p.length c,.int .i64 i,.int .i64 k] w fun e w'=>e=.returned (Qbs (Qat p k i))/\ Below w.heap.size w w':=by
 rcases h with h|⟨b,off,rfl,t,y⟩
 ·omega
 have x0:=y i hi;have A:(0:Int)<=(i:Int):=Int.natCast_nonneg _;have E:(i:Int)<(p.length:Int):=by omega
 obtain⟨s,u⟩:∃s,gS p i=s:=⟨_,rfl⟩;rw [u] at x0;have j:Hid (Qat p k i=(s,if i+1<p.length then 3 else k)):=hid (by unfold Qat;rw [u]);obtain⟨m,z⟩:∃m:Nat,p.length=m+1:=⟨p.length - 1,by omega⟩;have o:IntKind.i64.wrap ((p.length:Int) - 1)=(m:Int):=by rw [IntKind.wrap_i64];omega
 clear u y;by_cases q:i+1<p.length
 ·have g:decide (i<m)=true:=by simp;omega
  have r:=hid (show Qat p k i=(s,3) by rw [j.out,if_pos q]);clear j q z;go_enter Tryz.func66,Tryz.ntmps66;go_wp2_with fail;refine zF (v:=.agg #[.string s,.int .i64 3]) (by simp [results,Tryz.results66,go_sem]) ⟨by rw [r.out];rfl,?_⟩;exact zO _ _
 ·have g:decide (i<m)=false:=by simp;omega
  have r:=hid (show Qat p k i=(s,k) by rw [j.out,if_neg q]);clear j q z;go_enter Tryz.func66,Tryz.ntmps66;go_wp2_with fail;refine zF (v:=.agg #[.string s,.int .i64 k]) (by simp [results,Tryz.results66,go_sem]) ⟨by rw [r.out];rfl,?_⟩;exact zO _ _
theorem QdN (w:World):
  Calls Tryz.prog 31 #[] w fun e w'=>∃s s',e=.returned (.agg #[.map (some s),.map (some s')])/\ s≠s'/\ w.heap.size<=s/\ w.heap.size<=s'/\ QaZ w' 88 (α:=Ky) Qbs Qdg s 0 (fun _=>none)/\ QaZ w' 67 (α:=Dt) dtV Qey s' 0 (fun _=>none)/\ Below w.heap.size w w':=by
 have m:=@run_makeMap Tryz.prog;have j:=hid ((QaZ.made (α:=Ky) (w.alloc (.cells #[.map (some (w.heap.size+1)),.map (some (w.heap.size+1+1))] 45)) 88 Qbs Qdg).same (w':=(((w.alloc (.cells #[.map (some (w.heap.size+1)),.map (some (w.heap.size+1+1))] 45)).alloc (.map #[] 0)).alloc (.map #[] 0))) (Below.heap_alloc _ _ _ (by simp)));have k:=hid (QaZ.made (α:=Dt) ((w.alloc (.cells #[.map (some (w.heap.size+1)),.map (some (w.heap.size+1+1))] 45)).alloc (.map #[] 0)) 67 dtV Qey);go_enter Tryz.func31,Tryz.ntmps31;go_wp2_with fail;refine zF (v:=.agg #[.map (some (w.heap.size+1)),.map (some (w.heap.size+1+1))]) (by simp [results,Tryz.results31,go_sem]) ⟨_,_,rfl,by omega,by omega,by omega,by simpa using j.out,by simpa using k.out,?_⟩;exact((zO _ _).alloc (by simp) _).alloc (by simp;omega) _
structure Bx2 (w:World)(b:Nat)(v0 v1:Value):Prop where
 c0:w.cell? ⟨b,0,none⟩=some v0
 c1:w.cell? ⟨b,1,none⟩=some v1
 f:∀i,w.frozen? ⟨b,i,none⟩=false
 lt:b<w.heap.size
theorem Bx2.below {w w':World}{B b:Nat}{v0 v1:Value}(h:Bx2 w b v0 v1)(hb:Below B w w')(hB:b<B):Bx2 w' b v0 v1:=
 ⟨(hb.cell (p:=⟨b,0,none⟩) hB).trans h.c0,(hb.cell (p:=⟨b,1,none⟩) hB).trans h.c1,fun i=>(hb.frozen (p:=⟨b,i,none⟩) hB).trans (h.f i),Nat.lt_of_lt_of_le h.lt hb.size⟩
theorem Bx2.gt {w w':World}{B b:Nat}{v0 v1:Value}(h:Bx2 w b v0 v1)(hg:Gt B w w'):Bx2 w' b v0 v1:=
 ⟨hg.cell h.c0,hg.cell h.c1,fun i=>(hg.frozen (q:=⟨b,i,none⟩) h.c0 rfl).trans (h.f i),Nat.lt_of_lt_of_le h.lt hg.size⟩
theorem Bx2.setAt {w:World}{b:Nat}{v0 v1:Value}(h:Bx2 w b v0 v1)(q:Addr)(u:Value)(hq:q.block≠b):Bx2 (w.setCell q u) b v0 v1:=
 ⟨by rw [World.cell?_setCell_far _ _ _ _ hq];exact h.c0,by rw [World.cell?_setCell_far _ _ _ _ hq];exact h.c1,fun i=>by rw [World.frozen?_setCell];exact h.f i,by simp [World.setCell];exact h.lt⟩
theorem Bx2.set0 {w:World}{b:Nat}{v0 v1:Value}(h:Bx2 w b v0 v1)(u:Value):Bx2 (w.setCell ⟨b,0,none⟩ u) b u v1:=
 ⟨World.cell?_setCell_same _ _ _ h.c0,by simp [World.cell?_setCell_other,h.c1],fun i=>by rw [World.frozen?_setCell];exact h.f i,by simp [World.setCell];exact h.lt⟩
theorem Bx2.set1 {w:World}{b:Nat}{v0 v1:Value}(h:Bx2 w b v0 v1)(u:Value):Bx2 (w.setCell ⟨b,1,none⟩ u) b v0 u:=
 ⟨by simp [World.cell?_setCell_other,h.c0],World.cell?_setCell_same _ _ _ h.c1,fun i=>by rw [World.frozen?_setCell];exact h.f i,by simp [World.setCell];exact h.lt⟩
theorem Bx2.set {w:World}{b:Nat}{v0 v1:Value}(h:Bx2 w b v0 v1)(u u':Value):Bx2 ((w.setCell ⟨b,0,none⟩ u).setCell ⟨b,1,none⟩ u') b u u':=(h.set0 u).set1 u'
theorem Bx2.made (w:World)(v0 v1:Value)(t:TypeId):Bx2 (w.alloc (.cells #[v0,v1] t)) w.heap.size v0 v1:=⟨by simp,by simp,fun i=>by simp,by simp⟩
theorem Bx2.allocs {w:World}{b:Nat}{v0 v1:Value}(h:Bx2 w b v0 v1)(o:Obj):Bx2 (w.alloc o) b v0 v1:=h.below (zO _ o) h.lt
structure Bx1 (w:World)(b:Nat)(v0:Value):Prop where
 c0:w.cell? ⟨b,0,none⟩=some v0
 f:∀i,w.frozen? ⟨b,i,none⟩=false
 lt:b<w.heap.size
theorem Bx1.below {w w':World}{B b:Nat}{v0:Value}(h:Bx1 w b v0)(hb:Below B w w')(hB:b<B):Bx1 w' b v0:=
 ⟨(hb.cell (p:=⟨b,0,none⟩) hB).trans h.c0,fun i=>(hb.frozen (p:=⟨b,i,none⟩) hB).trans (h.f i),Nat.lt_of_lt_of_le h.lt hb.size⟩
theorem Bx1.gt {w w':World}{B b:Nat}{v0:Value}(h:Bx1 w b v0)(hg:Gt B w w'):Bx1 w' b v0:=
 ⟨hg.cell h.c0,fun i=>(hg.frozen (q:=⟨b,i,none⟩) h.c0 rfl).trans (h.f i),Nat.lt_of_lt_of_le h.lt hg.size⟩
theorem Bx1.setAt {w:World}{b:Nat}{v0:Value}(h:Bx1 w b v0)(q:Addr)(u:Value)(hq:q.block≠b):Bx1 (w.setCell q u) b v0:=
 ⟨by rw [World.cell?_setCell_far _ _ _ _ hq];exact h.c0,fun i=>by rw [World.frozen?_setCell];exact h.f i,by simp [World.setCell];exact h.lt⟩
theorem Bx1.made (w:World)(v0:Value)(t:TypeId):Bx1 (w.alloc (.cells #[v0] t)) w.heap.size v0:=⟨by simp,fun i=>by simp,by simp⟩
theorem Gt.set {B:Nat}{w wr:World}(h:Gt B w wr)(q:Addr)(u:Value)(hq:w.heap.size<=q.block):Gt B w (wr.setCell q u):=
 ⟨h.os,h.tape,h.output,by simpa [World.setCell] using h.size,fun g hg ho=>(zH _ _ _ _ (by omega)).trans (h.block g hg ho)⟩
theorem Gt.keep {B:Nat}{w wr w1:World}(h:Gt B w wr)(hb:Below wr.heap.size wr w1):Gt B w w1:=h.trans (Gt.of_below hb)
theorem Qb2 {α β:Type}(w:World){ops:Array Oper}{rest:List Oper}{o:Oper}{a:Act}{Q:Exit ->Act ->World ->Prop}
  (hg:o.guard=none) (m x v:Operand) (mt:TypeId) (hop:o.op=Op.mapUpdate mt m x v) (t e:TypeId) (K:Keyed Tryz.prog t) (kv:α ->Value) (hi:∀x y,kv x=kv y ->x=y) (ht:Tryz.prog.underlying mt=some (.map t e)) (vo:Option β ->Value) (b c:Nat) (f:α ->Option β)
  (hm:a.eval m=.map (some b)) (h:QaZ w t kv vo b c f) (hc:c<maxLen) (k:α) (y:β) (kl:Lit) (hx:a.eval x=kv k) (hv:a.eval v=vo (some y)) (hk:keyOf Tryz.prog t (kv k)=some kl)
  (hK:∀w',QaZ w' t kv vo b (c+1) (Qe8 f k (some y)) ->w.grownBy w' (some b) ->wpList Tryz.prog ops Q rest (a.put o.dst undef) w'):
  wpList Tryz.prog ops Q (o::rest) a w:=by
 refine wpList_plain hg fun K' hK'=> ?_;obtain⟨w',j,r1,r2⟩:=h.store K hi ht hc (y:=y) hk;unfold Oper.wp;simp [execOp,hop,hm,hx,hv,j,Result.andThen];exact hK' _ _ (hK w' r1 r2)
end Go.Proofs.YtdeolligikjieaaGreatDoor
