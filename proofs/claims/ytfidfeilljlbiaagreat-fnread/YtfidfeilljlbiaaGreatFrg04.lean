import Derived.Test.YtfidfeilljlbiaaGreatFrg02
import Derived.Maps.Range
import Derived.Test.YtfidfeilljlbiaaGreatShelf
import Derived.Lib.SlKeysI
set_option linter.unusedVariables false
set_option linter.unusedSimpArgs false
set_option maxRecDepth 100000
set_option maxHeartbeats 40000000
namespace Go.Proofs.YtfidfeilljlbiaaGreat
open Go.ChangeShapes Go.WideShapes Go.ChangeAt Go.RowKit Go.Maps
def topK (R T:Nat ->Int)(rep:Int):Nat ->Int
 | 0=>0
 | k+1=>if R k=rep/\ topK R T rep k<T k then T k else topK R T rep k
def lastTo (l:List (Int×Int)):Int:=match l.getLast? with|none=>0|some p=>p.2
theorem lastTo_snoc (l:List (Int×Int))(p:Int×Int):lastTo (l++[p])=p.2:=by simp [lastTo]
theorem lastTo_nil:lastTo []=0:=rfl
theorem Lk_inv {R F T:Nat ->Int}:∀k:Nat,okTo R F T k ->(∀r,Lk R F T k r≠[] ->0<k/\ r<=R (k - 1))/\ (0<k ->lastTo (Lk R F T k (R (k - 1)))=T (k - 1))/\ (∀r,topK R T r k=lastTo (Lk R F T k r))/\ (∀r,0<=lastTo (Lk R F T k r)/\ lastTo (Lk R F T k r)<=1000000000)
 | 0,_=>⟨fun r h=>absurd rfl h,fun h=>absurd h (by omega),fun r=>rfl,fun r=>by simp [Lk,lastTo]⟩
 | k+1,h=>by
  have hk:okTo R F T k:=fun i hi=>h i (by omega);obtain⟨i1,i2,i3,i4⟩:=Lk_inv k hk;have ho:=runOk_iff.1 (h k (by omega)).1;have Ha:0<k ->(R (k - 1)<R k \/(R (k - 1)=R k/\ T (k - 1)+1<F k)):=fun h0=>by
   have:=(h k (by omega)).2 h0;unfold apartB at this;exact of_decide_eq_true this
  have e1:∀r,Lk R F T (k+1) r=upd (Lk R F T k) (R k) (Lk R F T k (R k)++[(F k,T k)]) r:=fun r=>rfl;have Hc:lastTo (Lk R F T k (R k))<T k:=by
   by_cases hn:Lk R F T k (R k)=[]
   ·rw [hn,lastTo_nil];omega
   ·obtain⟨h0,Hb⟩:=i1 (R k) hn;rcases Ha h0 with hh|⟨hh,h2⟩
    ·omega
    ·rw [<- hh,i2 h0];omega
  refine⟨fun r hr=> ?_,fun _=> ?_,fun r=> ?_,fun r=> ?_⟩
  ·refine⟨by omega,?_⟩;rw [Nat.add_sub_cancel];rw [e1] at hr;by_cases e:r=R k
   ·omega
   ·rw [upd_other _ _ e] at hr;obtain⟨h0,Hb⟩:=i1 r hr;rcases Ha h0 with hh|⟨hh,_⟩<;>omega
  ·rw [Nat.add_sub_cancel,e1,upd_same,lastTo_snoc]
  ·rw [e1];by_cases e:r=R k
   ·subst e;rw [upd_same,lastTo_snoc];show (if R k=R k/\ topK R T (R k) k<T k then T k else topK R T (R k) k)=T k;rw [if_pos ⟨rfl,by rw [i3];exact Hc⟩]
   ·rw [upd_other _ _ e,<- i3 r];show (if R k=r/\ topK R T r k<T k then T k else topK R T r k)=topK R T r k;rw [if_neg (fun hh=>e hh.1.symm)]
  ·rw [e1];by_cases e:r=R k
   ·subst e;rw [upd_same,lastTo_snoc];show 0<=T k/\ T k<=1000000000;omega
   ·rw [upd_other _ _ e];exact i4 r
def Srt (l:List (Int×Int)):Prop:=l.Pairwise (fun p q=>p.2+1<q.1)/\∀p∈l,1<=p.1/\ p.1<=p.2/\ p.2<=1000000000
theorem Lk_srt {R F T:Nat ->Int}:∀k:Nat,okTo R F T k ->∀r,Srt (Lk R F T k r)/\∀p∈Lk R F T k r,p.2<=lastTo (Lk R F T k r)
 | 0,_=>fun r=>⟨⟨List.Pairwise.nil,fun p hp=>by cases hp⟩,fun p hp=>by cases hp⟩
 | k+1,h=>by
  have hk:okTo R F T k:=fun i hi=>h i (by omega);have ih:=Lk_srt k hk;obtain⟨i1,i2,i3,i4⟩:=Lk_inv k hk;have ho:=runOk_iff.1 (h k (by omega)).1;have Hb:0<k ->(R (k - 1)<R k \/(R (k - 1)=R k/\ T (k - 1)+1<F k)):=fun h0=>by
   have:=(h k (by omega)).2 h0;unfold apartB at this;exact of_decide_eq_true this
  intro r;show Srt (upd (Lk R F T k) (R k) (Lk R F T k (R k)++[(F k,T k)]) r)/\∀p∈upd (Lk R F T k) (R k) (Lk R F T k (R k)++[(F k,T k)]) r,p.2<=lastTo (upd (Lk R F T k) (R k) (Lk R F T k (R k)++[(F k,T k)]) r);by_cases e:r=R k
  ·subst e;rw [upd_same];obtain⟨⟨p1,p2⟩,p3⟩:=ih (R k);have Ha:∀p∈Lk R F T k (R k),p.2+1<F k:=by
    intro p hp;obtain⟨h0,Hc⟩:=i1 (R k) (List.ne_nil_of_mem hp);have:=p3 p hp;rcases Hb h0 with hh|⟨hh,h2⟩
    ·omega
    ·rw [<- hh,i2 h0] at this;omega
   refine⟨⟨List.pairwise_append.2 ⟨p1,List.pairwise_singleton _ _,fun p hp q hq=> ?_⟩,fun p hp=> ?_⟩,fun p hp=> ?_⟩
   ·rw [List.mem_singleton] at hq;subst hq;exact Ha p hp
   ·rcases List.mem_append.1 hp with hp|hp
    ·exact p2 p hp
    ·rw [List.mem_singleton] at hp;subst hp;exact⟨by omega,by omega,by omega⟩
   ·rw [lastTo_snoc];rcases List.mem_append.1 hp with hp|hp
    ·have:=Ha p hp;show p.2<=T k;omega
    ·rw [List.mem_singleton] at hp;subst hp;exact Int.le_refl _
  ·rw [upd_other _ _ e];exact ih r
def SS (w:World)(a:Option Addr)(n:Nat)(f t:Nat ->Int):Prop:=
 n=0 \/∃b off,a=some ⟨b,off,none⟩/\ b<w.heap.size/\∀i,i<n ->w.cell? ⟨b,off+i*2,none⟩=some (.int .i64 (f i))/\ w.cell? ⟨b,off+i*2+1,none⟩=some (.int .i64 (t i))
theorem ss_own {w:World}{B n cap g:Nat}{l:List (Int×Int)}(h:w.ownsRow B 142 2 (.slice (some ⟨g,0,none⟩) n cap) n (spanCells l))(hl:l.length=n):
  SS w (some ⟨g,0,none⟩) n (fun i=>(l.getD i (0,0)).1) (fun i=>(l.getD i (0,0)).2):=by
 refine .inr ⟨g,0,rfl,(h.lt g rfl).2,fun i hi=> ?_⟩;have Ha:∀(l:List (Int×Int)) (i:Nat),i<l.length ->(spanCells l)[i*2]? =some (.int .i64 (l.getD i (0,0)).1)/\ (spanCells l)[i*2+1]? =some (.int .i64 (l.getD i (0,0)).2):=by
  intro l;induction l with
  | nil=>intro i hi;simp at hi
  | cons a l ih=>
   intro i hi;cases i with
   | zero=>simp [spanCells]
   | succ i=>
    have:=ih i (by simpa using hi);have e:spanCells (a::l)=.int .i64 a.1::.int .i64 a.2::spanCells l:=by simp [spanCells]
    rw [e,show (i+1)*2=i*2+1+1 from by omega];simpa using this
 rw [Nat.zero_add,h.cellAt _ (by omega),h.cellAt _ (by omega)];exact Ha l i (by omega)
theorem srt_get {l:List (Int×Int)}(h:Srt l){i j:Nat}(hij:i<j)(hj:j<l.length):(l.getD i (0,0)).2+1<(l.getD j (0,0)).1/\ (l.getD i (0,0)).1<=(l.getD i (0,0)).2/\ (l.getD j (0,0)).1<=(l.getD j (0,0)).2:=by
 have e1:l.getD i (0,0)=l[i]:=by simp [List.getD,show i<l.length by omega]
 have e2:l.getD j (0,0)=l[j]:=by simp [List.getD,hj]
 rw [e1,e2];exact⟨List.pairwise_iff_getElem.1 h.1 i j (by omega) hj hij,(h.2 _ (List.getElem_mem _)).2.1,(h.2 _ (List.getElem_mem _)).2.1⟩
theorem openC_no (a:Option Addr)(n c:Nat)(R F T:Nat ->Int)(w:World)(hn:n<=1048576)(h:RSeg w a n R F T)(hok:ctxB R F T n=false):
  Calls Tryz.prog 83 #[.agg #[.slice a n c]] w fun e w'=>e=.returned (.tuple #[.map none,.bool false])/\ Below w.heap.size w w':=by
 have B0:Below w.heap.size w (w.alloc (.cells #[.slice a n c] 26)):=zO _ _;go_enter Tryz.func83,Tryz.ntmps83;go_wp2_with fail;refine(implOk a n c R F T _ hn (h.below B0)).mono ?_;rintro e w1 ⟨rfl,b1⟩;rw [hok];have HB:=hid (keepS B0 b1);clear b1 B0 hok h;go_wp2_with fail;go_ret2;exact⟨rfl,HB.out⟩
def sF (l:List (Int×Int))(i:Nat):Int:=(l.getD i (0,0)).1
def sT (l:List (Int×Int))(i:Nat):Int:=(l.getD i (0,0)).2
open Go.Sort Go.Shelf
theorem sortsA (m:Nat):AnyZI.SortsIn Tryz.prog Tryz.sortedA_ren Fence.wide m:=
 ⟨fun blk off cap ss W hH hblk hsz=>callsIn_wide.2 (AnyM.slices_Sort_int Tryz.sortA blk off cap ss W hH hblk hsz),
  fun p cap W=>callsIn_wide.2 (AnyM.slices_Sort_int_none Tryz.sortA p cap W)⟩
theorem keysC (mb:Option Nat)(W:World):Calls Tryz.prog 138 #[.map mb] W fun e w'=>e=.returned (.func (.func 163) #[] #[.pointer (some ⟨W.heap.size,0,none⟩)])/\ w'=W.alloc (.cells #[.map mb] 67):=
 (callsIn_wide (n:=5)).1 (AnyZI.keys_in Tryz.keysA Fence.wide 5 trivial rfl mb W)
theorem sortedC {H:Type}(b nn:Nat)(D0:DataW H)(R:Value ->Option (DataW H×List MemPlace))(w:World)(hown:w.ownsMap Tryz.prog 3 R b nn D0)(hmax:Maps.size D0<=maxLen)(hbytes:Maps.size D0*8<=140737488355328):
  Calls Tryz.prog 137 #[.func (.func 163) #[] #[.pointer (some ⟨w.heap.size,0,none⟩)]] (w.alloc (.cells #[.map (some b)] 67)) fun e w'=>∃(v:Value) (ss:List Int),e=.returned v/\ ss.Perm (intKeys D0)/\
   w'.ownsRow (w.heap.size+1) 3 1 v ss.length ((ss.mergeSort (fun x y=>decide (x<=y))).map encZ)/\ Below w.heap.size w w':=by
 have Hd:=hown.lt;have Hc:SeqGives Fence.wide 2 Tryz.prog 163 #[.pointer (some ⟨w.heap.size,0,none⟩)] encZ (fun ss=>ss.Perm (intKeys D0)) (Maps.size D0) (w.alloc (.cells #[.map (some b)] 67)):=
  AnyZI.keys_gives (ρ:=Tryz.keysA_ren) {Tryz.keysA with} Fence.wide _ trivial rfl (by omega) w.heap.size b nn D0 _ (by simp) (by simp) (by
   obtain⟨es,Ha,hb,Ft,hs,hD⟩:=hown;exact⟨es,Ha,(Below.heap_alloc _ _ b Hd).trans hb,Ft,hs,hD⟩)
 have cS:=AnyZI.sorted_in Tryz.sortedA Fence.wide 5 trivial trivial trivial trivial rfl (by omega) (sortsA _) (enters_of Tryz.func162 (by kernel_rfl) rfl) 163 #[.pointer (some ⟨w.heap.size,0,none⟩)] trivial (enters_of Tryz.func163 (by kernel_rfl) rfl) _ _ hmax hbytes _ Hc;change CallsIn _ _ Tryz.prog 137 _ _ _ at cS;refine((callsIn_wide (n:=5)).1 cS).mono ?_;rintro e w' ⟨v,ss,rfl,hS,Hb,He,hb⟩;refine⟨v,ss,rfl,hS,?_,((Below.refl _ w).alloc zL _).trans (hb.mono (by simp))⟩;have e:(w.alloc (.cells #[.map (some b)] 67)).heap.size=w.heap.size+1:=by simp
 rw [e] at Hb;exact Hb
def KS (L:Int ->List (Int×Int)):Nat ->List Int
 | 0=>[]
 | k+1=>KS L k++(if (L (k:Int)).isEmpty then [] else [(k:Int)])
theorem KS_mem (L:Int ->List (Int×Int))(k:Nat):∀x,x∈KS L k↔(0<=x/\ x<k/\ (L x).isEmpty=false):=by
 induction k with
 | zero=>intro x;simp [KS];omega
 | succ k ih=>
  intro x;simp only [KS,List.mem_append,ih];by_cases e:(L (k:Int)).isEmpty=true
  ·rw [if_pos e];constructor
   ·rintro(⟨a,b,c⟩|h)
    ·exact⟨a,by omega,c⟩
    ·simp at h
   ·rintro⟨a,b,c⟩;refine .inl ⟨a,?_,c⟩;rcases Int.lt_or_le x k with h|h
    ·exact h
    ·have:x=(k:Int):=by omega
     rw [this,e] at c;cases c
  ·rw [if_neg e];simp only [Bool.not_eq_true] at e;constructor
   ·rintro(⟨a,b,c⟩|h)
    ·exact⟨a,by omega,c⟩
    ·rw [List.mem_singleton] at h;subst h;exact⟨by omega,by omega,e⟩
   ·rintro⟨a,b,c⟩;rcases Int.lt_or_le x k with h|h
    ·exact .inl ⟨a,h,c⟩
    ·exact .inr (List.mem_singleton.2 (by omega))
theorem KS_lt (L:Int ->List (Int×Int))(k:Nat):(KS L k).Pairwise (fun x y=>x<y):=by
 induction k with
 | zero=>exact List.Pairwise.nil
 | succ k ih=>
  simp only [KS];refine List.pairwise_append.2 ⟨ih,?_,fun x hx y hy=> ?_⟩
  ·split
   ·exact List.Pairwise.nil
   ·exact List.pairwise_singleton _ _
  ·have:=(KS_mem L k x).1 hx;split at hy
   ·cases hy
   ·rw [List.mem_singleton] at hy;omega
theorem KS_len (L:Int ->List (Int×Int))(k:Nat):(KS L k).length<=k:=by
 induction k with
 | zero=>simp [KS]
 | succ k ih=>simp only [KS,List.length_append];split<;>simp<;>omega
theorem KS_sorted {L:Int ->List (Int×Int)}{ss ks:List Int}(h1:(KS L 8).Perm ks)(h2:ss.Perm ks):ss.mergeSort (fun x y=>decide (x<=y))=KS L 8:=by
 rw [mergeSort_of_perm_i (h2.trans h1.symm)];refine List.mergeSort_of_pairwise ((KS_lt L 8).imp (fun h=> ?_));simp;omega
theorem Lk_rep {R F T:Nat ->Int}:∀k:Nat,okTo R F T k ->∀r,Lk R F T k r≠[] ->0<=r/\ r<8
 | 0,_=>fun r h=>absurd rfl h
 | k+1,h=>fun r hr=>by
  have ho:=runOk_iff.1 (h k (by omega)).1;by_cases e:r=R k
  ·subst e;exact⟨ho.1,ho.2.1⟩
  ·have e1:Lk R F T (k+1) r=Lk R F T k r:=upd_other _ _ e;rw [e1] at hr;exact Lk_rep k (fun i hi=>h i (by omega)) r hr
theorem row_ints {w:World}{B g m cap:Nat}{zs:List Int}(h:w.ownsRow B 3 1 (.slice (some ⟨g,0,none⟩) m cap) m (zs.map encZ))(hl:zs.length=m):∀i,i<m ->w.cell? ⟨g,i,none⟩=some (.int .i64 (zs.getD i 0)):=by
 intro i hi;rw [h.cellAt i (by omega)];simp [List.getD,show i<zs.length by omega]
theorem cell_three_new (w:World)(x y z:Value)(t:TypeId):∀j u,[x,y,z][j]? =some u ->(w.alloc (.cells #[x,y,z] t)).cell? ((⟨w.heap.size,0,none⟩:Addr).add j)=some u:=by
 intro j u hj;match j,hj with
 | 0,hj=>simp at hj;subst hj;simp [Addr.add]
 | 1,hj=>simp at hj;subst hj;simp [Addr.add]
 | 2,hj=>simp at hj;subst hj;simp [Addr.add]
theorem RSeg.at {w:World}{a:Option Addr}{n:Nat}{R F T:Nat ->Int}(h:RSeg w a n R F T){k:Nat}(hk:k<n):∃b Ha,a=some ⟨b,Ha,none⟩/\ b<w.heap.size/\ w.cell? ⟨b,Ha+k*3,none⟩=some (.int .i64 (R k))/\ w.cell? ⟨b,Ha+k*3+1,none⟩=some (.int .i64 (F k))/\ w.cell? ⟨b,Ha+k*3+2,none⟩=some (.int .i64 (T k)):=by
 rcases h with h|⟨b,Ha,rfl,hb,hc⟩
 ·omega
 ·exact⟨b,Ha,rfl,hb,hc k hk⟩
abbrev Rn:=Int×Int×Int
def Apt (p q:Rn):Prop:=p.1<q.1 \/(p.1=q.1/\ p.2.2+1<q.2.1)
instance (p q:Rn):Decidable (Apt p q):=by unfold Apt;infer_instance
def Rok (p:Rn):Prop:=0<=p.1/\ p.1<8/\ 1<=p.2.1/\ p.2.1<=p.2.2/\ p.2.2<=1000000000
def FSrt (l:List Rn):Prop:=l.Pairwise Apt/\∀p∈l,Rok p
def InR (p:Rn)(r x:Int):Prop:=p.1=r/\ p.2.1<=x/\ x<=p.2.2
def RI (l:List Rn)(r x:Int):Prop:=∃p∈l,InR p r x
theorem Apt.trans {p q s:Rn}(h1:Apt p q)(hq:Rok q)(h2:Apt q s):Apt p s:=by
 unfold Apt Rok at*;omega
theorem RI_cons {p:Rn}{l:List Rn}{r x:Int}:RI (p::l) r x↔InR p r x \/RI l r x:=by simp [RI]
theorem RI_append {l l':List Rn}{r x:Int}:RI (l++l') r x↔RI l r x \/RI l' r x:=by
 constructor
 ·rintro⟨p,hp,h⟩;rcases List.mem_append.1 hp with hp|hp
  ·exact .inl ⟨p,hp,h⟩
  ·exact .inr ⟨p,hp,h⟩
 ·rintro(⟨p,hp,h⟩|⟨p,hp,h⟩)
  ·exact⟨p,List.mem_append.2 (.inl hp),h⟩
  ·exact⟨p,List.mem_append.2 (.inr hp),h⟩
theorem RI_one {p:Rn}{r x:Int}:RI [p] r x↔InR p r x:=by simp [RI]
theorem RI_nil {r x:Int}:¬RI [] r x:=by simp [RI]
theorem first_le {p q:Rn}{l:List Rn}(h:FSrt (p::l))(hq:q∈p::l):p.1<q.1 \/(p.1=q.1/\ p.2.1<=q.2.1):=by
 rcases List.mem_cons.1 hq with rfl|hq
 ·exact .inr ⟨rfl,Int.le_refl _⟩
 ·have h1:=(List.pairwise_cons.1 h.1).1 q hq;have h2:=h.2 p (List.mem_cons_self);unfold Apt Rok at*;omega
theorem uniq_to {p p':Rn}{t t':List Rn}(h:FSrt (p::t))(h':FSrt (p'::t'))(he:∀r x,RI (p::t) r x ->RI (p'::t') r x)(hf:p.1=p'.1/\ p.2.1=p'.2.1):p.2.2<=p'.2.2:=by
 have ok:=h.2 p List.mem_cons_self;have Hd:=h'.2 p' List.mem_cons_self;rcases Int.lt_or_le p'.2.2 p.2.2 with Hc|Hb
 ·exfalso;have Ha:RI (p::t) p.1 (p'.2.2+1):=⟨p,List.mem_cons_self,rfl,by unfold Rok at*;omega,by omega⟩;obtain⟨q,hq,e1,e2,e3⟩:=he _ _ Ha;rcases List.mem_cons.1 hq with rfl|hq
  ·omega
  ·have:=(List.pairwise_cons.1 h'.1).1 q hq;unfold Apt at this;omega
 ·exact Hb
theorem uniq:∀{l l':List Rn},FSrt l ->FSrt l' ->(∀r x,RI l r x↔RI l' r x) ->l=l'
 | [],[],_,_,_=>rfl
 | [],p'::t',_,h',he=>by
  have Ha:=h'.2 p' List.mem_cons_self;exact absurd ((he p'.1 p'.2.1).2 ⟨p',List.mem_cons_self,rfl,Int.le_refl _,Ha.2.2.2.1⟩) RI_nil
 | p::t,[],h,_,he=>by
  have ok:=h.2 p List.mem_cons_self;exact absurd ((he p.1 p.2.1).1 ⟨p,List.mem_cons_self,rfl,Int.le_refl _,ok.2.2.2.1⟩) RI_nil
 | p::t,p'::t',h,h',he=>by
  have ok:=h.2 p List.mem_cons_self;have Ha:=h'.2 p' List.mem_cons_self;have hf:p.1=p'.1/\ p.2.1=p'.2.1:=by
   obtain⟨q,hq,e1,e2,e3⟩:=(he p.1 p.2.1).1 ⟨p,List.mem_cons_self,rfl,Int.le_refl _,ok.2.2.2.1⟩;obtain⟨q',Hb,Hc,Hd,He⟩:=(he p'.1 p'.2.1).2 ⟨p',List.mem_cons_self,rfl,Int.le_refl _,Ha.2.2.2.1⟩;have a:=first_le h' hq;have b:=first_le h Hb;omega
  have h1:=uniq_to h h' (fun r x=>(he r x).1) hf;have h2:=uniq_to h' h (fun r x=>(he r x).2) ⟨hf.1.symm,hf.2.symm⟩;have hp:p=p':=by
   obtain⟨a,b,c⟩:=p;obtain⟨a',b',c'⟩:=p';simp at hf h1 h2;obtain⟨rfl,rfl⟩:=hf;have:c=c':=by omega
   rw [this]
  subst hp;have no:∀{s:List Rn},FSrt (p::s) ->∀{r x},RI s r x ->¬InR p r x:=by
   rintro s hs r x ⟨q,hq,f1,f2,f3⟩ ⟨g1,g2,g3⟩;have:=(List.pairwise_cons.1 hs.1).1 q hq;unfold Apt at this;omega
  have ht:t=t':=by
   refine uniq ⟨(List.pairwise_cons.1 h.1).2,fun q hq=>h.2 q (List.mem_cons_of_mem _ hq)⟩ ⟨(List.pairwise_cons.1 h'.1).2,fun q hq=>h'.2 q (List.mem_cons_of_mem _ hq)⟩ (fun r x=> ?_);have e:=he r x;rw [RI_cons,RI_cons] at e;constructor
   ·intro hx;rcases e.1 (.inr hx) with k|k
    ·exact absurd k (no h hx)
    ·exact k
   ·intro hx;rcases e.2 (.inr hx) with k|k
    ·exact absurd k (no h' hx)
    ·exact k
  rw [ht]
def insStep (s:List Rn×Rn×List Rn)(q:Rn):List Rn×Rn×List Rn:=
 if Apt q s.2.1 then(s.1++[q],s.2.1,s.2.2) else if Apt s.2.1 q then(s.1,s.2.1,s.2.2++[q]) else(s.1,(s.2.1.1,min q.2.1 s.2.1.2.1,max q.2.2 s.2.1.2.2),s.2.2)
def insSt (l:List Rn)(r:Rn):List Rn×Rn×List Rn:=l.foldl insStep ([],r,[])
def ins (l:List Rn)(r:Rn):List Rn:=(insSt l r).1++[(insSt l r).2.1]++(insSt l r).2.2
structure Inv (s:List Rn×Rn×List Rn)(t:List Rn):Prop where
 b:FSrt s.1
 a:FSrt s.2.2
 r:Rok s.2.1
 br:∀p∈s.1,Apt p s.2.1
 ra:∀p∈s.2.2,Apt s.2.1 p
 bt:∀p∈s.1,∀q∈t,Apt p q
 at':∀p∈s.2.2,∀q∈t,Apt p q
 t:FSrt t
def RS (s:List Rn×Rn×List Rn)(r x:Int):Prop:=RI s.1 r x \/InR s.2.1 r x \/RI s.2.2 r x
theorem FSrt.snoc {l:List Rn}{q:Rn}(h:FSrt l)(hq:Rok q)(ha:∀p∈l,Apt p q):FSrt (l++[q]):=
 ⟨List.pairwise_append.2 ⟨h.1,List.pairwise_singleton _ _,fun p hp q' hq'=>by rw [List.mem_singleton] at hq';subst hq';exact ha p hp⟩,fun p hp=>by
  rcases List.mem_append.1 hp with hp|hp
  ·exact h.2 p hp
  ·rw [List.mem_singleton] at hp;subst hp;exact hq⟩
theorem Inv.step {s:List Rn×Rn×List Rn}{q:Rn}{t:List Rn}(h:Inv s (q::t)):Inv (insStep s q) t/\∀r x,RS (insStep s q) r x↔(RS s r x \/InR q r x):=by
 have hq:=h.t.2 q List.mem_cons_self;have Hb:=(List.pairwise_cons.1 h.t.1).1;have ht:FSrt t:=⟨(List.pairwise_cons.1 h.t.1).2,fun p hp=>h.t.2 p (List.mem_cons_of_mem _ hp)⟩;have bt:=fun p hp q' (hq':q'∈t)=>h.bt p hp q' (List.mem_cons_of_mem _ hq');have Ha:=fun p hp q' (hq':q'∈t)=>h.at' p hp q' (List.mem_cons_of_mem _ hq');unfold insStep;split
 ·rename_i hA;refine⟨⟨h.b.snoc hq (fun p hp=>h.bt p hp q List.mem_cons_self),h.a,h.r,fun p hp=> ?_,h.ra,fun p hp=> ?_,Ha,ht⟩,fun r x=> ?_⟩
  ·rcases List.mem_append.1 hp with hp|hp
   ·exact h.br p hp
   ·rw [List.mem_singleton] at hp;subst hp;exact hA
  ·rcases List.mem_append.1 hp with hp|hp
   ·exact bt p hp
   ·rw [List.mem_singleton] at hp;subst hp;exact Hb
  ·simp only [RS,RI_append,RI_one];constructor
   ·rintro((a|a)|a|a)
    ·exact .inl (.inl a)
    ·exact .inr a
    ·exact .inl (.inr (.inl a))
    ·exact .inl (.inr (.inr a))
   ·rintro((a|a|a)|a)
    ·exact .inl (.inl a)
    ·exact .inr (.inl a)
    ·exact .inr (.inr a)
    ·exact .inl (.inr a)
 ·rename_i hA;split
  ·rename_i hB;refine⟨⟨h.b,h.a.snoc hq (fun p hp=>h.at' p hp q List.mem_cons_self),h.r,h.br,fun p hp=> ?_,bt,fun p hp=> ?_,ht⟩,fun r x=> ?_⟩
   ·rcases List.mem_append.1 hp with hp|hp
    ·exact h.ra p hp
    ·rw [List.mem_singleton] at hp;subst hp;exact hB
   ·rcases List.mem_append.1 hp with hp|hp
    ·exact Ha p hp
    ·rw [List.mem_singleton] at hp;subst hp;exact Hb
   ·simp only [RS,RI_append,RI_one];constructor
    ·rintro(a|a|a|a)
     ·exact .inl (.inl a)
     ·exact .inl (.inr (.inl a))
     ·exact .inl (.inr (.inr a))
     ·exact .inr a
    ·rintro((a|a|a)|a)
     ·exact .inl a
     ·exact .inr (.inl a)
     ·exact .inr (.inr (.inl a))
     ·exact .inr (.inr (.inr a))
  ·rename_i hB;have hr:=h.r;have nil:∀p∈s.2.2,False:=fun p hp=>hB ((h.ra p hp).trans (h.a.2 p hp) (h.at' p hp q List.mem_cons_self));refine⟨⟨h.b,h.a,?_,fun p hp=> ?_,fun p hp=>(nil p hp).elim,bt,Ha,ht⟩,fun r x=> ?_⟩
   ·unfold Apt Rok at*;simp only;omega
   ·have h1:=h.br p hp;have h2:=h.bt p hp q List.mem_cons_self;unfold Apt at*;simp only;omega
   ·have Hc:InR (s.2.1.1,min q.2.1 s.2.1.2.1,max q.2.2 s.2.1.2.2) r x↔(InR s.2.1 r x \/InR q r x):=by
     unfold InR Apt Rok at*;simp only;omega
    simp only [RS,Hc];constructor
    ·rintro(a|(a|a)|a)
     ·exact .inl (.inl a)
     ·exact .inl (.inr (.inl a))
     ·exact .inr a
     ·exact .inl (.inr (.inr a))
    ·rintro((a|a|a)|a)
     ·exact .inl a
     ·exact .inr (.inl (.inl a))
     ·exact .inr (.inr a)
     ·exact .inr (.inl (.inr a))
theorem Inv.fold:∀(t:List Rn) (s:List Rn×Rn×List Rn),Inv s t ->Inv (t.foldl insStep s) []/\∀r x,RS (t.foldl insStep s) r x↔(RS s r x \/RI t r x)
 | [],s,h=>⟨h,fun r x=>by simp [RI]⟩
 | q::t,s,h=>by
  obtain⟨h1,h2⟩:=h.step;obtain⟨h3,h4⟩:=Inv.fold t _ h1;refine⟨h3,fun r x=> ?_⟩;rw [List.foldl_cons,h4 r x,h2 r x,RI_cons,or_assoc]
theorem ins_ok {l:List Rn}{r:Rn}(hl:FSrt l)(hr:Rok r):FSrt (ins l r)/\∀y x,RI (ins l r) y x↔(RI l y x \/InR r y x):=by
 have h0:Inv ([],r,[]) l:=⟨⟨List.Pairwise.nil,(fun p hp=>by cases hp)⟩,⟨List.Pairwise.nil,(fun p hp=>by cases hp)⟩,hr,(fun p hp=>by cases hp),(fun p hp=>by cases hp),(fun p hp=>by cases hp),(fun p hp=>by cases hp),hl⟩;obtain⟨h,he⟩:=Inv.fold l _ h0;change Inv (insSt l r) [] at h;refine⟨⟨?_,fun p hp=> ?_⟩,fun y x=> ?_⟩
 ·unfold ins;rw [List.append_assoc];refine List.pairwise_append.2 ⟨h.b.1,List.pairwise_append.2 ⟨List.pairwise_singleton _ _,h.a.1,fun p hp q hq=> ?_⟩,fun p hp q hq=> ?_⟩
  ·rw [List.mem_singleton] at hp;subst hp;exact h.ra q hq
  ·rcases List.mem_append.1 hq with hq|hq
   ·rw [List.mem_singleton] at hq;subst hq;exact h.br p hp
   ·exact(h.br p hp).trans h.r (h.ra q hq)
 ·unfold ins at hp;rcases List.mem_append.1 hp with hp|hp
  ·rcases List.mem_append.1 hp with hp|hp
   ·exact h.b.2 p hp
   ·rw [List.mem_singleton] at hp;subst hp;exact h.r
  ·exact h.a.2 p hp
 ·have:=he y x;unfold ins;rw [RI_append,RI_append,RI_one];change RS (insSt l r) y x↔_ at this;unfold RS at this;rw [or_assoc,this];simp [RI];exact or_comm
def unF (l b:List Rn):List Rn:=b.foldl ins l
theorem unF_ok:∀(b l:List Rn),FSrt l ->(∀p∈b,Rok p) ->FSrt (unF l b)/\∀y x,RI (unF l b) y x↔(RI l y x \/RI b y x)
 | [],l,h,_=>⟨h,fun y x=>by simp [unF,RI]⟩
 | q::b,l,h,hb=>by
  obtain⟨h1,h2⟩:=ins_ok h (hb q List.mem_cons_self);obtain⟨h3,h4⟩:=unF_ok b (ins l q) h1 (fun p hp=>hb p (List.mem_cons_of_mem _ hp));refine⟨h3,fun y x=> ?_⟩;show RI (unF (ins l q) b) y x↔_;rw [h4,h2,RI_cons,or_assoc]
def In (l:List (Int×Int))(x:Int):Prop:=∃p∈l,p.1<=x/\ x<=p.2
theorem In_append {l l':List (Int×Int)}{x:Int}:In (l++l') x↔In l x \/In l' x:=by
 constructor
 ·rintro⟨p,hp,h⟩;rcases List.mem_append.1 hp with hp|hp
  ·exact .inl ⟨p,hp,h⟩
  ·exact .inr ⟨p,hp,h⟩
 ·rintro(⟨p,hp,h⟩|⟨p,hp,h⟩)
  ·exact⟨p,List.mem_append.2 (.inl hp),h⟩
  ·exact⟨p,List.mem_append.2 (.inr hp),h⟩
theorem In_one {p:Int×Int}{x:Int}:In [p] x↔p.1<=x/\ x<=p.2:=by simp [In]
theorem In_cons {p:Int×Int}{l:List (Int×Int)}{x:Int}:In (p::l) x↔(p.1<=x/\ x<=p.2) \/In l x:=by simp [In]
theorem In_nil {x:Int}:¬In [] x:=by simp [In]
def appS (l:List (Int×Int))(p:Int×Int):List (Int×Int):=match l.getLast? with
 | none=>[p]
 | some q=>if q.2+1<p.1 then l++[p] else l.dropLast++[(q.1,max q.2 p.2)]
theorem appS_nil (p:Int×Int):appS [] p=[p]:=rfl
theorem appS_gap {l:List (Int×Int)}{q p:Int×Int}(h:q.2+1<p.1):appS (l++[q]) p=l++[q]++[p]:=by
 simp [appS,h]
theorem appS_up {l:List (Int×Int)}{q p:Int×Int}(h:¬q.2+1<p.1):appS (l++[q]) p=l++[(q.1,max q.2 p.2)]:=by
 simp [appS,h]
def Sok (p:Int×Int):Prop:=1<=p.1/\ p.1<=p.2/\ p.2<=1000000000
theorem Srt.snoc {l:List (Int×Int)}{p:Int×Int}(h:Srt l)(hp:Sok p)(ha:∀q∈l,q.2+1<p.1):Srt (l++[p]):=
 ⟨List.pairwise_append.2 ⟨h.1,List.pairwise_singleton _ _,fun q hq p' hp'=>by rw [List.mem_singleton] at hp';subst hp';exact ha q hq⟩,fun q hq=>by
  rcases List.mem_append.1 hq with hq|hq
  ·exact h.2 q hq
  ·rw [List.mem_singleton] at hq;subst hq;exact hp⟩
theorem Srt.split {l:List (Int×Int)}{q:Int×Int}(h:Srt (l++[q])):Srt l/\ Sok q/\∀p∈l,p.2+1<q.1:=by
 obtain⟨h1,h2⟩:=h;obtain⟨a,_,c⟩:=List.pairwise_append.1 h1;exact⟨⟨a,fun p hp=>h2 p (List.mem_append.2 (.inl hp))⟩,h2 q (by simp),fun p hp=>c p hp q (by simp)⟩
theorem appS_ok {l:List (Int×Int)}{p:Int×Int}(h:Srt l)(hp:Sok p)(hle:∀q∈l,q.1<=p.1):
  Srt (appS l p)/\ (∀x,In (appS l p) x↔(In l x \/(p.1<=x/\ x<=p.2)))/\ (∀q∈appS l p,q.1<=p.1)/\ (appS l p).length<=l.length+1:=by
 rcases List.eq_nil_or_concat l with rfl|⟨l',q,rfl⟩
 ·rw [appS_nil];exact⟨⟨List.pairwise_singleton _ _,fun q hq=>by rw [List.mem_singleton] at hq;subst hq;exact hp⟩,fun x=>by simp [In],fun q hq=>by rw [List.mem_singleton] at hq;subst hq;exact Int.le_refl _,by simp⟩
 ·simp only [List.concat_eq_append] at*;obtain⟨s1,s2,s3⟩:=h.split;have hq:=hle q (by simp);by_cases hg:q.2+1<p.1
  ·rw [appS_gap hg];refine⟨h.snoc hp (fun p' Ha=> ?_),fun x=>by rw [In_append,In_one],fun p' Ha=> ?_,by simp⟩
   ·rcases List.mem_append.1 Ha with Ha|Ha
    ·have:=s3 p' Ha;unfold Sok at s2;omega
    ·rw [List.mem_singleton] at Ha;subst Ha;exact hg
   ·rcases List.mem_append.1 Ha with Ha|Ha
    ·exact hle p' Ha
    ·rw [List.mem_singleton] at Ha;subst Ha;exact Int.le_refl _
  ·rw [appS_up hg];refine⟨s1.snoc ?_ s3,fun x=> ?_,fun p' Ha=> ?_,by simp⟩
   ·unfold Sok at*;simp only;omega
   ·rw [In_append,In_append,In_one,In_one,or_assoc];have:(q.1<=x/\ x<=max q.2 p.2)↔((q.1<=x/\ x<=q.2) \/(p.1<=x/\ x<=p.2)):=by unfold Sok at*;omega
    simp only [this]
   ·rcases List.mem_append.1 Ha with Ha|Ha
    ·exact hle p' (List.mem_append.2 (.inl Ha))
    ·rw [List.mem_singleton] at Ha;subst Ha;exact hq
structure MInv (la lb m:List (Int×Int))(i j:Nat):Prop where
 s:Srt m
 le:∀q∈m,(∀p∈la.drop i,q.1<=p.1)/\ (∀p∈lb.drop j,q.1<=p.1)
 in':∀x,(In m x \/In (la.drop i) x \/In (lb.drop j) x)↔(In la x \/In lb x)
 len:m.length+(la.length - i)+(lb.length - j)<=la.length+lb.length
theorem MInv.start (la lb:List (Int×Int)):MInv la lb [] 0 0:=
 ⟨⟨List.Pairwise.nil,fun p hp=>by cases hp⟩,(fun q hq=>by cases hq),fun x=>by simp [In],by simp⟩
theorem drop_at {l:List (Int×Int)}{i:Nat}(hi:i<l.length):l.drop i=l.getD i (0,0)::l.drop (i+1):=by
 rw [List.drop_eq_getElem_cons hi];simp [List.getD,hi]
theorem srt_drop {l:List (Int×Int)}(h:Srt l){i:Nat}(hi:i<l.length):Sok (l.getD i (0,0))/\∀p∈l.drop (i+1),(l.getD i (0,0)).1<=p.1:=by
 have hm:l.getD i (0,0)∈l:=by simp [List.getD,hi]
 refine⟨h.2 _ hm,fun p hp=> ?_⟩;have hd:=List.Pairwise.sublist (List.drop_sublist i l) h.1;rw [drop_at hi] at hd;have:=(List.pairwise_cons.1 hd).1 p hp;have:=h.2 _ hm;omega
theorem MInv.stepA {la lb m:List (Int×Int)}{i j:Nat}(ha:Srt la)(hb:Srt lb)(h:MInv la lb m i j)(hi:i<la.length)(hab:j<lb.length ->(la.getD i (0,0)).1<=(lb.getD j (0,0)).1):MInv la lb (appS m (la.getD i (0,0))) (i+1) j:=by
 obtain⟨hp,Ha⟩:=srt_drop ha hi;have e:=drop_at hi;obtain⟨k1,k2,k3,k4⟩:=appS_ok h.s hp (fun q hq=>(h.le q hq).1 _ (by rw [e];simp));refine⟨k1,fun q hq=>⟨fun p hp=>Int.le_trans (k3 q hq) (Ha p hp),fun p hp=>Int.le_trans (k3 q hq) ?_⟩,fun x=> ?_,?_⟩
 ·by_cases hj:j<lb.length
  ·have e2:=drop_at hj;rw [e2] at hp;rcases List.mem_cons.1 hp with rfl|hp
   ·exact hab hj
   ·exact Int.le_trans (hab hj) ((srt_drop hb hj).2 p hp)
  ·rw [List.drop_eq_nil_of_le (by omega)] at hp;cases hp
 ·rw [<- h.in' x,k2 x,e,In_cons,or_assoc,or_assoc]
 ·have:=h.len;omega
theorem MInv.stepB {la lb m:List (Int×Int)}{i j:Nat}(ha:Srt la)(hb:Srt lb)(h:MInv la lb m i j)(hj:j<lb.length)(hab:i<la.length ->(lb.getD j (0,0)).1<=(la.getD i (0,0)).1):MInv la lb (appS m (lb.getD j (0,0))) i (j+1):=by
 have hs:MInv lb la m j i:=⟨h.s,fun q hq=>⟨(h.le q hq).2,(h.le q hq).1⟩,fun x=>by rw [or_comm (a:=In lb x),<- h.in' x,or_comm (a:=In (la.drop i) x)],by have:=h.len;omega⟩;have h2:=MInv.stepA hb ha hs hj hab;exact⟨h2.s,fun q hq=>⟨(h2.le q hq).2,(h2.le q hq).1⟩,fun x=>by rw [or_comm (a:=In la x),<- h2.in' x,or_comm (a:=In (la.drop i) x)],by have:=h2.len;omega⟩
theorem MInv.done {la lb m:List (Int×Int)}(h:MInv la lb m la.length lb.length):Srt m/\ (∀x,In m x↔(In la x \/In lb x))/\ m.length<=la.length+lb.length:=by
 refine⟨h.s,fun x=> ?_,by have:=h.len;omega⟩;rw [<- h.in' x];simp [In]
def flat (R F T:Nat ->Int)(n:Nat):List Rn:=(List.range n).map fun i=>(R i,F i,T i)
def tag (r:Int)(l:List (Int×Int)):List Rn:=l.map fun p=>(r,p.1,p.2)
def outF (L:Int ->List (Int×Int))(k:Nat):List Rn:=(KS L k).flatMap fun r=>tag r (L r)
theorem flat_succ (R F T:Nat ->Int)(n:Nat):flat R F T (n+1)=flat R F T n++[(R n,F n,T n)]:=by simp [flat,List.range_succ]
theorem flat_in (R F T:Nat ->Int):∀(n:Nat) (r x:Int),RI (flat R F T n) r x↔In (Lk R F T n r) x
 | 0,r,x=>by simp [flat,Lk,RI,In]
 | n+1,r,x=>by
  rw [flat_succ,RI_append,RI_one,flat_in R F T n r x];by_cases e:r=R n
  ·subst e;have:Lk R F T (n+1) (R n)=Lk R F T n (R n)++[(F n,T n)]:=upd_same _ _ _;rw [this,In_append,In_one];simp [InR]
  ·have:Lk R F T (n+1) r=Lk R F T n r:=upd_other _ _ e;rw [this];simp [InR,Ne.symm e]
theorem flat_srt {R F T:Nat ->Int}:∀(n:Nat),okTo R F T n ->FSrt (flat R F T n)
 | 0,_=>⟨by simp [flat],fun p hp=>by simp [flat] at hp⟩
 | n+1,h=>by
  have ih:=flat_srt n (fun i hi=>h i (by omega));have ho:=runOk_iff.1 (h n (by omega)).1;rw [flat_succ];refine ih.snoc ho (fun p hp=> ?_);cases n with
  | zero=>simp [flat] at hp
  | succ m=>
   have Hb:=(h (m+1) (by omega)).2 (by omega);unfold apartB at Hb;have Hb:=of_decide_eq_true Hb;rw [Nat.add_sub_cancel] at Hb;have Ha:Apt (R m,F m,T m) (R (m+1),F (m+1),T (m+1)):=Hb;rw [flat_succ] at hp ih;rcases List.mem_append.1 hp with hp|hp
   ·have h1:=(List.pairwise_append.1 ih.1).2.2 p hp _ (List.mem_singleton.2 rfl);exact h1.trans (ih.2 _ (by simp)) Ha
   ·rw [List.mem_singleton] at hp;subst hp;exact Ha
theorem tag_srt {r:Int}{l:List (Int×Int)}(h:Srt l)(h0:0<=r)(h8:r<8):FSrt (tag r l):=by
 refine⟨List.pairwise_map.2 (h.1.imp (fun hh=> .inr ⟨rfl,hh⟩)),fun p hp=> ?_⟩;obtain⟨q,hq,rfl⟩:=List.mem_map.1 hp;have:=h.2 q hq;exact⟨h0,h8,this⟩
theorem tag_in {r:Int}{l:List (Int×Int)}{y x:Int}:RI (tag r l) y x↔(r=y/\ In l x):=by
 constructor
 ·rintro⟨p,hp,h1,h2⟩;obtain⟨q,hq,rfl⟩:=List.mem_map.1 hp;exact⟨h1,q,hq,h2⟩
 ·rintro⟨rfl,q,hq,h⟩;exact⟨_,List.mem_map.2 ⟨q,hq,rfl⟩,rfl,h⟩
theorem outF_succ_y {L:Int ->List (Int×Int)}{k:Nat}(h:(L (k:Int)).isEmpty=false):outF L (k+1)=outF L k++tag (k:Int) (L (k:Int)):=by
 simp [outF,KS,h]
theorem outF_succ_n {L:Int ->List (Int×Int)}{k:Nat}(h:(L (k:Int)).isEmpty=true):outF L (k+1)=outF L k:=by
 simp [outF,KS,h]
theorem outF_ok {L:Int ->List (Int×Int)}(hL:∀r,Srt (L r)):∀k:Nat,k<=8 ->FSrt (outF L k)/\ (∀y x,RI (outF L k) y x↔(0<=y/\ y<k/\ In (L y) x))/\∀p∈outF L k,p.1<k
 | 0,_=>⟨⟨by simp [outF,KS],fun p hp=>by simp [outF,KS] at hp⟩,fun y x=>by simp [outF,KS,RI];omega,fun p hp=>by simp [outF,KS] at hp⟩
 | k+1,hk=>by
  obtain⟨i1,i2,i3⟩:=outF_ok hL k (by omega);by_cases e:(L (k:Int)).isEmpty=true
  ·rw [outF_succ_n e];refine⟨i1,fun y x=> ?_,fun p hp=>by have:=i3 p hp;omega⟩;rw [i2];constructor
   ·rintro⟨a,b,c⟩;exact⟨a,by omega,c⟩
   ·rintro⟨a,b,c⟩;refine⟨a,?_,c⟩;rcases Int.lt_or_le y k with h|h
    ·exact h
    ·have:y=(k:Int):=by omega
     subst this;have:L (k:Int)=[]:=by simpa using e
     rw [this] at c;exact absurd c In_nil
  ·have e:(L (k:Int)).isEmpty=false:=by simpa using e
   rw [outF_succ_y e];have ht:=tag_srt (hL (k:Int)) (by omega:(0:Int)<=k) (by omega);refine⟨⟨List.pairwise_append.2 ⟨i1.1,ht.1,fun p hp q hq=> ?_⟩,fun p hp=> ?_⟩,fun y x=> ?_,fun p hp=> ?_⟩
   ·obtain⟨q',_,rfl⟩:=List.mem_map.1 hq;exact .inl (i3 p hp)
   ·rcases List.mem_append.1 hp with hp|hp
    ·exact i1.2 p hp
    ·exact ht.2 p hp
   ·rw [RI_append,i2,tag_in];constructor
    ·rintro(⟨a,b,c⟩|⟨rfl,c⟩)
     ·exact⟨a,by omega,c⟩
     ·exact⟨by omega,by omega,c⟩
    ·rintro⟨a,b,c⟩;rcases Int.lt_or_le y k with h|h
     ·exact .inl ⟨a,h,c⟩
     ·have:y=(k:Int):=by omega
      subst this;exact .inr ⟨rfl,c⟩
   ·rcases List.mem_append.1 hp with hp|hp
    ·have:=i3 p hp;omega
    ·obtain⟨q',_,rfl⟩:=List.mem_map.1 hp;show (k:Int)<_;omega
theorem union_eq {R F T R' F' T':Nat ->Int}{n n':Nat}{L:Int ->List (Int×Int)}(h:okTo R F T n)(h':okTo R' F' T' n')(hS:∀r,Srt (L r))(hI:∀r x,In (L r) x↔(In (Lk R F T n r) x \/In (Lk R' F' T' n' r) x)):
  unF (flat R F T n) (flat R' F' T' n')=outF L 8:=by
 obtain⟨u1,u2⟩:=unF_ok (flat R' F' T' n') (flat R F T n) (flat_srt n h) (flat_srt n' h').2;obtain⟨o1,o2,_⟩:=outF_ok hS 8 zL;refine uniq u1 o1 (fun r x=> ?_);rw [u2,o2,flat_in,flat_in,hI];constructor
 ·intro hx;have hr:0<=r/\ r<8:=by
   rcases hx with ⟨p,hp,_⟩|⟨p,hp,_⟩
   ·exact Lk_rep n h r (List.ne_nil_of_mem hp)
   ·exact Lk_rep n' h' r (List.ne_nil_of_mem hp)
  exact⟨hr.1,hr.2,hx⟩
 ·exact fun hx=>hx.2.2
theorem Gr.drew {w w1:World}{b0 b:Value}(h:Gr w w1 b0 b):Gr w w1.drew b0 b:=h.trans ⟨⟨rfl,rfl,rfl,Nat.le_refl _,fun _ _ _=>rfl⟩,.inl rfl⟩
def SR (w:World)(B:Nat)(v:Value)(l:List (Int×Int)):Prop:=w.ownsRow B 142 2 v l.length (spanCells l)
theorem spanCells_len (l:List (Int×Int)):(spanCells l).length=l.length*2:=by
 induction l with
 | nil=>rfl
 | cons a l ih=>simp [spanCells] at*;omega
theorem cell2 (w:World)(x y:Value)(t:TypeId):∀j u,[x,y][j]? =some u ->(w.alloc (.cells #[x,y] t)).cell? ((⟨w.heap.size,0,none⟩:Addr).add j)=some u:=by
 intro j u hj;match j,hj with
 | 0,hj=>simp at hj;subst hj;simp [Addr.add]
 | 1,hj=>simp at hj;subst hj;simp [Addr.add]
theorem grownSet (w:World)(p:Addr)(u:Value):w.grownBy (w.setCell p u) (some p.block):=
 ⟨rfl,rfl,rfl,by simp [World.setCell],fun k hk hne=>zH _ _ _ _ (fun e=>hne (by rw [e]))⟩
structure GrpR (w:World)(bm n:Nat)(D:DataW Value)(G:Int ->Value)(L:Int ->List (Int×Int)):Prop where
 own:w.ownsMap Tryz.prog 3 rawR bm n D
 at':∀r,D.atKey (kI r) (.held (.slice none 0 0))=.held (G r)
 has':∀r,Maps.has D (kI r)= !(L r).isEmpty
 rows:∀r,w.ownsRow 0 142 2 (G r) (L r).length (spanCells (L r))
theorem row_zero {w:World}{B:Nat}{e:TypeId}{s:Nat}{v:Value}{n:Nat}{xs:List Value}(h:w.ownsRow B e s v n xs):w.ownsRow 0 e s v n xs:=by
 obtain⟨h1,h2⟩:=h;refine⟨h1,h2.imp id ?_⟩;rintro⟨g,Ha,Hb,e,_,r⟩;exact⟨g,Ha,Hb,e,Nat.zero_le _,r⟩
theorem row_map {w:World}{B bm n:Nat}{e:TypeId}{s:Nat}{v:Value}{m:Nat}{xs:List Value}{D:DataW Value}(h:w.ownsRow B e s v m xs)(hm:w.ownsMap Tryz.prog 3 rawR bm n D):v.ownBlock=none \/v.ownBlock≠some bm:=by
 obtain⟨_,h2⟩:=h;rcases h2 with ⟨rfl,_⟩|⟨g,Hb,Hc,rfl,_,hg,_⟩
 ·exact .inl rfl
 ·refine .inr (fun e=> ?_);obtain⟨es,Ha,hb,_⟩:=hm;have e:g=bm:=by simpa [Value.ownBlock] using e
  rw [e,hb] at hg;cases hg
theorem row_below {w w1:World}{B:Nat}{e:TypeId}{s:Nat}{v:Value}{n:Nat}{xs:List Value}(h:w.ownsRow B e s v n xs)(hb:Below w.heap.size w w1):w1.ownsRow B e s v n xs:=
 owns_below h hb (fun k hk=>(h.lt k hk).2)
theorem row_slice {w:World}{B:Nat}{v:Value}{l:List (Int×Int)}(h:w.ownsRow B 142 2 v l.length (spanCells l)):
  ∃a c,v=.slice a l.length c/\ SS w a l.length (sF l) (sT l)/\ l.length<=c/\ c<=9223372036854775807:=by
 rcases h.2 with ⟨e,e0⟩|⟨g,Ha,Hd,e,hb,_,Hc,Hb,_⟩
 ·exact⟨none,0,by rw [e,e0],.inl e0,by omega,by omega⟩
 ·exact⟨_,Ha,e,by rw [e] at h;exact ss_own h rfl,Hc,by unfold maxLen at Hb;omega⟩
theorem row_form {w:World}{B:Nat}{e:TypeId}{size:Nat}{v:Value}{n:Nat}{xs:List Value}(h:w.ownsRow B e size v n xs):∃y m c,v=.slice y m c:=by
 rcases h.2 with ⟨rfl,_⟩|⟨g,Ha,Hb,rfl,_⟩
 ·exact⟨_,_,_,rfl⟩
 ·exact⟨_,_,_,rfl⟩
theorem GrpR.gr {w w1:World}{bm n:Nat}{D:DataW Value}{G:Int ->Value}{L:Int ->List (Int×Int)}(h:GrpR w bm n D G L){row:Option Nat}(hg:w.grownBy w1 row)(hr:some bm≠row)(hro:∀r g,(G r).ownBlock=some g ->some g≠row):GrpR w1 bm n D G L:=
 ⟨h.own.kept hg hr,h.at',h.has',fun r=>(h.rows r).kept hg (by
  cases e:(G r).ownBlock with
  | none=>exact .inl rfl
  | some g=>exact .inr (hro r g e))⟩
theorem GrpR.below {w w1:World}{bm n:Nat}{D:DataW Value}{G:Int ->Value}{L:Int ->List (Int×Int)}(h:GrpR w bm n D G L)(hb:Below w.heap.size w w1):GrpR w1 bm n D G L:=
 h.gr (row:=none) ⟨hb.os,hb.tape,hb.output,hb.size,fun k hk _=>hb.block k hk⟩ (by simp) (by simp)
end Go.Proofs.YtfidfeilljlbiaaGreat
