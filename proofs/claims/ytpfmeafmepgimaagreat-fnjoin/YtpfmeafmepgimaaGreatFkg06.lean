import Derived.Test.YtpfmeafmepgimaaGreatFkg03
import Derived.Maps.Range
import Derived.Test.YtpfmeafmepgimaaGreatShelf
import Derived.Lib.SlKeysI
set_option linter.unusedVariables false
set_option linter.unusedSimpArgs false
set_option maxRecDepth 100000
set_option maxHeartbeats 40000000
namespace Go.Proofs.YtpfmeafmepgimaaGreat
open Go.ChangeShapes Go.WideShapes Go.ChangeAt Go.RowKit Go.Maps
def topK (R T:Nat ->Int)(rep:Int):Nat ->Int
 | 0=>0
 | k+1=>if R k=rep/\ topK R T rep k<T k then T k else topK R T rep k
def lastTo (l:List (Int×Int)):Int:=match l.getLast? with|none=>0|some p=>p.2
theorem lastTo_snoc (l:List (Int×Int))(p:Int×Int):lastTo (l++[p])=p.2:=by simp [lastTo]
theorem lastTo_nil:lastTo []=0:=rfl
theorem Lk_inv {R F T:Nat ->Int}:∀k:Nat,okTo R F T k ->(∀r,Lk R F T k r≠[] ->0<k/\ r<=R (k - 1))/\ (0<k ->lastTo (Lk R F T k (R (k - 1)))=T (k - 1))/\ (∀r,topK R T r k=lastTo (Lk R F T k r))/\ (∀r,0<=lastTo (Lk R F T k r)/\ lastTo (Lk R F T k r)<=1000000000)
 | 0,_=>⟨fun r h=>absurd rfl h,fun h=>absurd h (by omega),fun r=>rfl,fun r=>by simp [Lk,lastTo]⟩
 | k+1,h=>by
  have hk:okTo R F T k:=fun i hi=>h i (by omega);obtain⟨i1,i2,i3,i4⟩:=Lk_inv k hk;have ho:=runOk_iff.1 (h k (by omega)).1;have hap:0<k ->(R (k - 1)<R k \/(R (k - 1)=R k/\ T (k - 1)+1<F k)):=fun h0=>by
   have:=(h k (by omega)).2 h0;unfold apartB at this;exact of_decide_eq_true this
  have e1:∀r,Lk R F T (k+1) r=upd (Lk R F T k) (R k) (Lk R F T k (R k)++[(F k,T k)]) r:=fun r=>rfl;have hlt:lastTo (Lk R F T k (R k))<T k:=by
   by_cases hn:Lk R F T k (R k)=[]
   ·rw [hn,lastTo_nil];omega
   ·obtain⟨h0,hle⟩:=i1 (R k) hn;rcases hap h0 with hh|⟨hh,h2⟩
    ·omega
    ·rw [<- hh,i2 h0];omega
  refine⟨fun r hr=> ?_,fun _=> ?_,fun r=> ?_,fun r=> ?_⟩
  ·refine⟨by omega,?_⟩;rw [Nat.add_sub_cancel];rw [e1] at hr;by_cases e:r=R k
   ·omega
   ·rw [upd_other _ _ e] at hr;obtain⟨h0,hle⟩:=i1 r hr;rcases hap h0 with hh|⟨hh,_⟩<;>omega
  ·rw [Nat.add_sub_cancel,e1,upd_same,lastTo_snoc]
  ·rw [e1];by_cases e:r=R k
   ·subst e;rw [upd_same,lastTo_snoc];show (if R k=R k/\ topK R T (R k) k<T k then T k else topK R T (R k) k)=T k;rw [if_pos ⟨rfl,by rw [i3];exact hlt⟩]
   ·rw [upd_other _ _ e,<- i3 r];show (if R k=r/\ topK R T r k<T k then T k else topK R T r k)=topK R T r k;rw [if_neg (fun hh=>e hh.1.symm)]
  ·rw [e1];by_cases e:r=R k
   ·subst e;rw [upd_same,lastTo_snoc];show 0<=T k/\ T k<=1000000000;omega
   ·rw [upd_other _ _ e];exact i4 r
def Srt (l:List (Int×Int)):Prop:=l.Pairwise (fun p q=>p.2+1<q.1)/\∀p∈l,1<=p.1/\ p.1<=p.2/\ p.2<=1000000000
theorem Lk_srt {R F T:Nat ->Int}:∀k:Nat,okTo R F T k ->∀r,Srt (Lk R F T k r)/\∀p∈Lk R F T k r,p.2<=lastTo (Lk R F T k r)
 | 0,_=>fun r=>⟨⟨List.Pairwise.nil,fun p hp=>by cases hp⟩,fun p hp=>by cases hp⟩
 | k+1,h=>by
  have hk:okTo R F T k:=fun i hi=>h i (by omega);have ih:=Lk_srt k hk;obtain⟨i1,i2,i3,i4⟩:=Lk_inv k hk;have ho:=runOk_iff.1 (h k (by omega)).1;have hap:0<k ->(R (k - 1)<R k \/(R (k - 1)=R k/\ T (k - 1)+1<F k)):=fun h0=>by
   have:=(h k (by omega)).2 h0;unfold apartB at this;exact of_decide_eq_true this
  intro r;show Srt (upd (Lk R F T k) (R k) (Lk R F T k (R k)++[(F k,T k)]) r)/\∀p∈upd (Lk R F T k) (R k) (Lk R F T k (R k)++[(F k,T k)]) r,p.2<=lastTo (upd (Lk R F T k) (R k) (Lk R F T k (R k)++[(F k,T k)]) r);by_cases e:r=R k
  ·subst e;rw [upd_same];obtain⟨⟨p1,p2⟩,p3⟩:=ih (R k);have hlt:∀p∈Lk R F T k (R k),p.2+1<F k:=by
    intro p hp;obtain⟨h0,hle⟩:=i1 (R k) (List.ne_nil_of_mem hp);have:=p3 p hp;rcases hap h0 with hh|⟨hh,h2⟩
    ·omega
    ·rw [<- hh,i2 h0] at this;omega
   refine⟨⟨List.pairwise_append.2 ⟨p1,List.pairwise_singleton _ _,fun p hp q hq=> ?_⟩,fun p hp=> ?_⟩,fun p hp=> ?_⟩
   ·rw [List.mem_singleton] at hq;subst hq;exact hlt p hp
   ·rcases List.mem_append.1 hp with hp|hp
    ·exact p2 p hp
    ·rw [List.mem_singleton] at hp;subst hp;exact⟨by omega,by omega,by omega⟩
   ·rw [lastTo_snoc];rcases List.mem_append.1 hp with hp|hp
    ·have:=hlt p hp;show p.2<=T k;omega
    ·rw [List.mem_singleton] at hp;subst hp;exact Int.le_refl _
  ·rw [upd_other _ _ e];exact ih r
def SS (w:World)(a:Option Addr)(n:Nat)(f t:Nat ->Int):Prop:=
 n=0 \/∃b off,a=some ⟨b,off,none⟩/\ b<w.heap.size/\∀i,i<n ->w.cell? ⟨b,off+i*2,none⟩=some (.int .i64 (f i))/\ w.cell? ⟨b,off+i*2+1,none⟩=some (.int .i64 (t i))
theorem ss_own {w:World}{B n cap g:Nat}{l:List (Int×Int)}(h:w.ownsRow B 121 2 (.slice (some ⟨g,0,none⟩) n cap) n (spanCells l))(hl:l.length=n):
  SS w (some ⟨g,0,none⟩) n (fun i=>(l.getD i (0,0)).1) (fun i=>(l.getD i (0,0)).2):=by
 refine .inr ⟨g,0,rfl,(h.lt g rfl).2,fun i hi=> ?_⟩;have key:∀(l:List (Int×Int)) (i:Nat),i<l.length ->(spanCells l)[i*2]? =some (.int .i64 (l.getD i (0,0)).1)/\ (spanCells l)[i*2+1]? =some (.int .i64 (l.getD i (0,0)).2):=by
  intro l;induction l with
  | nil=>intro i hi;simp at hi
  | cons a l ih=>
   intro i hi;cases i with
   | zero=>simp [spanCells]
   | succ i=>
    have:=ih i (by simpa using hi);have e:spanCells (a::l)=.int .i64 a.1::.int .i64 a.2::spanCells l:=by simp [spanCells]
    rw [e,show (i+1)*2=i*2+1+1 from by omega];simpa using this
 rw [Nat.zero_add,h.cellAt _ (by omega),h.cellAt _ (by omega)];exact key l i (by omega)
theorem srt_get {l:List (Int×Int)}(h:Srt l){i j:Nat}(hij:i<j)(hj:j<l.length):(l.getD i (0,0)).2+1<(l.getD j (0,0)).1/\ (l.getD i (0,0)).1<=(l.getD i (0,0)).2/\ (l.getD j (0,0)).1<=(l.getD j (0,0)).2:=by
 have e1:l.getD i (0,0)=l[i]:=by simp [List.getD,show i<l.length by omega]
 have e2:l.getD j (0,0)=l[j]:=by simp [List.getD,hj]
 rw [e1,e2];exact⟨List.pairwise_iff_getElem.1 h.1 i j (by omega) hj hij,(h.2 _ (List.getElem_mem _)).2.1,(h.2 _ (List.getElem_mem _)).2.1⟩
theorem openC_no (a:Option Addr)(n c:Nat)(R F T:Nat ->Int)(w:World)(hn:n<=1048576)(h:RSeg w a n R F T)(hok:ctxB R F T n=false):
  Calls Tryz.prog 61 #[.agg #[.slice a n c]] w fun e w'=>e=.returned (.tuple #[.map none,.bool false])/\ Below w.heap.size w w':=by
 have B0:Below w.heap.size w (w.alloc (.cells #[.slice a n c] 26)):=(Below.refl _ _).alloc (Nat.le_refl _) _;go_enter Tryz.func61,Tryz.ntmps61;go_wp2_with fail;refine(implOk a n c R F T _ hn (h.below B0)).mono ?_;rintro e w1 ⟨rfl,b1⟩;rw [hok];have HB:=hid (keepS B0 b1);clear b1 B0 hok h;go_wp2_with fail;go_ret2;exact⟨rfl,HB.out⟩
def sF (l:List (Int×Int))(i:Nat):Int:=(l.getD i (0,0)).1
def sT (l:List (Int×Int))(i:Nat):Int:=(l.getD i (0,0)).2
def loK (l:List (Int×Int)):Nat ->Int
 | 0=>1
 | k+1=>sT l k+2
def spK (l:List (Int×Int)):Nat ->List Int
 | 0=>[]
 | k+1=>spK l k++(uvF 9 (sF l k - loK l k).toNat++uvF 9 (sT l k - sF l k).toNat)
def grpB (l:List (Int×Int)):List Int:=uvF 9 l.length++spK l l.length
theorem spK_len (l:List (Int×Int)):∀k,(spK l k).length<=20*k
 | 0=>by simp [spK]
 | k+1=>by
  have:=spK_len l k;have h1:=(uvF_len 9 (sF l k - loK l k).toNat).1;have h2:=(uvF_len 9 (sT l k - sF l k).toNat).1;simp only [spK,List.length_append];omega
theorem srt_at {l:List (Int×Int)}(h:Srt l){k:Nat}(hk:k<l.length):1<=loK l k/\ loK l k<=sF l k/\ sF l k<=sT l k/\ sT l k<=1000000000:=by
 have e:l.getD k (0,0)=l[k]:=by simp [List.getD,hk]
 have h1:=h.2 _ (List.getElem_mem hk);rw [<- e] at h1;have h2:loK l k<=sF l k/\ 1<=loK l k:=by
  cases k with
  | zero=>exact⟨h1.1,Int.le_refl _⟩
  | succ k=>
   have h3:=srt_get h (show k<k+1 by omega) hk;have e2:l.getD k (0,0)=l[k]:=by simp [List.getD,show k<l.length by omega]
   have h4:=h.2 _ (List.getElem_mem (show k<l.length by omega));rw [<- e2] at h4;show (l.getD k (0,0)).2+2<=(l.getD (k+1) (0,0)).1/\ 1<=(l.getD k (0,0)).2+2;exact⟨by omega,by omega⟩
 exact⟨h2.2,h2.1,h1.2.1,h1.2.2⟩
theorem wrapU (x:Int)(h0:0<=x)(h1:x<=1000000000):IntKind.u64.wrap x=x:=by
 unfold IntKind.wrap;simp [IntKind.bits,IntKind.signed];omega
end Go.Proofs.YtpfmeafmepgimaaGreat
namespace Go.Proofs.YtpfmeafmepgimaaGreat
open Go.ChangeShapes Go.WideShapes Go.ChangeAt Go.RowKit Go.Maps Go.Sort Go.Shelf
theorem sortsA (m:Nat):AnyZI.SortsIn Tryz.prog Tryz.sortedA_ren Fence.wide m:=
 ⟨fun blk off cap ss W hH hblk hsz=>callsIn_wide.2 (AnyM.slices_Sort_int Tryz.sortA blk off cap ss W hH hblk hsz),
  fun p cap W=>callsIn_wide.2 (AnyM.slices_Sort_int_none Tryz.sortA p cap W)⟩
theorem keysC (mb:Option Nat)(W:World):Calls Tryz.prog 73 #[.map mb] W fun e w'=>e=.returned (.func (.func 93) #[] #[.pointer (some ⟨W.heap.size,0,none⟩)])/\ w'=W.alloc (.cells #[.map mb] 47):=
 (callsIn_wide (n:=5)).1 (AnyZI.keys_in Tryz.keysA Fence.wide 5 trivial rfl mb W)
theorem sortedC {H:Type}(b nn:Nat)(D0:DataW H)(R:Value ->Option (DataW H×List MemPlace))(w:World)(hown:w.ownsMap Tryz.prog 3 R b nn D0)(hmax:Maps.size D0<=maxLen)(hbytes:Maps.size D0*8<=140737488355328):
  Calls Tryz.prog 72 #[.func (.func 93) #[] #[.pointer (some ⟨w.heap.size,0,none⟩)]] (w.alloc (.cells #[.map (some b)] 47)) fun e w'=>∃(v:Value) (ss:List Int),e=.returned v/\ ss.Perm (intKeys D0)/\
   w'.ownsRow (w.heap.size+1) 3 1 v ss.length ((ss.mergeSort (fun x y=>decide (x<=y))).map encZ)/\ Below w.heap.size w w':=by
 have hbl:=hown.lt;have hseq:SeqGives Fence.wide 2 Tryz.prog 93 #[.pointer (some ⟨w.heap.size,0,none⟩)] encZ (fun ss=>ss.Perm (intKeys D0)) (Maps.size D0) (w.alloc (.cells #[.map (some b)] 47)):=
  AnyZI.keys_gives (ρ:=Tryz.keysA_ren) {Tryz.keysA with} Fence.wide _ trivial rfl (by omega) w.heap.size b nn D0 _ (by simp) (by simp) (by
   obtain⟨es,clock,hb,Ft,hs,hD⟩:=hown;exact⟨es,clock,(Below.heap_alloc _ _ b hbl).trans hb,Ft,hs,hD⟩)
 have cS:=AnyZI.sorted_in Tryz.sortedA Fence.wide 5 trivial trivial trivial trivial rfl (by omega) (sortsA _) (enters_of Tryz.func92 (by kernel_rfl) rfl) 93 #[.pointer (some ⟨w.heap.size,0,none⟩)] trivial (enters_of Tryz.func93 (by kernel_rfl) rfl) _ _ hmax hbytes _ hseq;change CallsIn _ _ Tryz.prog 72 _ _ _ at cS;refine((callsIn_wide (n:=5)).1 cS).mono ?_;rintro e w' ⟨v,ss,rfl,hS,hrow,hnil,hb⟩;refine⟨v,ss,rfl,hS,?_,((Below.refl _ w).alloc (Nat.le_refl _) _).trans (hb.mono (by simp))⟩;have e:(w.alloc (.cells #[.map (some b)] 47)).heap.size=w.heap.size+1:=by simp
 rw [e] at hrow;exact hrow
def KS (L:Int ->List (Int×Int)):Nat ->List Int
 | 0=>[]
 | k+1=>KS L k++(if (L (k:Int)).isEmpty then [] else [(k:Int)])
theorem KS_mem (L:Int ->List (Int×Int))(k:Nat):∀x,x∈KS L k↔(0<=x/\ x<k/\ (L x).isEmpty=false):=by
 induction k with
 | zero=>intro x;simp [KS];omega
 | succ k ih=>
  intro x;simp only [KS,List.mem_append,ih];by_cases e:(L (k:Int)).isEmpty=true
  ·rw [if_pos e];constructor
   ·rintro(⟨a,b,c⟩|h)
    ·exact⟨a,by omega,c⟩
    ·simp at h
   ·rintro⟨a,b,c⟩;refine .inl ⟨a,?_,c⟩;rcases Int.lt_or_le x k with h|h
    ·exact h
    ·have:x=(k:Int):=by omega
     rw [this,e] at c;cases c
  ·rw [if_neg e];simp only [Bool.not_eq_true] at e;constructor
   ·rintro(⟨a,b,c⟩|h)
    ·exact⟨a,by omega,c⟩
    ·rw [List.mem_singleton] at h;subst h;exact⟨by omega,by omega,e⟩
   ·rintro⟨a,b,c⟩;rcases Int.lt_or_le x k with h|h
    ·exact .inl ⟨a,h,c⟩
    ·exact .inr (List.mem_singleton.2 (by omega))
theorem KS_lt (L:Int ->List (Int×Int))(k:Nat):(KS L k).Pairwise (fun x y=>x<y):=by
 induction k with
 | zero=>exact List.Pairwise.nil
 | succ k ih=>
  simp only [KS];refine List.pairwise_append.2 ⟨ih,?_,fun x hx y hy=> ?_⟩
  ·split
   ·exact List.Pairwise.nil
   ·exact List.pairwise_singleton _ _
  ·have:=(KS_mem L k x).1 hx;split at hy
   ·cases hy
   ·rw [List.mem_singleton] at hy;omega
theorem KS_len (L:Int ->List (Int×Int))(k:Nat):(KS L k).length<=k:=by
 induction k with
 | zero=>simp [KS]
 | succ k ih=>simp only [KS,List.length_append];split<;>simp<;>omega
theorem KS_sorted {L:Int ->List (Int×Int)}{ss ks:List Int}(h1:(KS L 8).Perm ks)(h2:ss.Perm ks):ss.mergeSort (fun x y=>decide (x<=y))=KS L 8:=by
 rw [mergeSort_of_perm_i (h2.trans h1.symm)];refine List.mergeSort_of_pairwise ((KS_lt L 8).imp (fun h=> ?_));simp;omega
theorem Lk_rep {R F T:Nat ->Int}:∀k:Nat,okTo R F T k ->∀r,Lk R F T k r≠[] ->0<=r/\ r<8
 | 0,_=>fun r h=>absurd rfl h
 | k+1,h=>fun r hr=>by
  have ho:=runOk_iff.1 (h k (by omega)).1;by_cases e:r=R k
  ·subst e;exact⟨ho.1,ho.2.1⟩
  ·have e1:Lk R F T (k+1) r=Lk R F T k r:=upd_other _ _ e;rw [e1] at hr;exact Lk_rep k (fun i hi=>h i (by omega)) r hr
end Go.Proofs.YtpfmeafmepgimaaGreat
