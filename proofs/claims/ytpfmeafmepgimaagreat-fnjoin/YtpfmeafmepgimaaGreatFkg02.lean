import Derived.Test.YtpfmeafmepgimaaGreatFkg01
import Derived.Lib.AppendStr
import Derived.Laws.IdiomStrings
set_option linter.unusedVariables false
set_option linter.unusedSimpArgs false
set_option maxRecDepth 100000
set_option maxHeartbeats 40000000
namespace Go.Proofs.YtpfmeafmepgimaaGreat
open Go.ChangeShapes Go.WideShapes Go.ChangeAt Go.RowKit
def strInts (s:ByteArray):List Int:=s.data.toList.map fun b=>(b.toNat:Int)
theorem strInts_length (s:ByteArray):(strInts s).length=s.size:=by
 rw [strInts,List.length_map,Array.length_toList];rfl
theorem strInts_cells (s:ByteArray):(strInts s).map (Value.int .u8)=Lib.strCells s:=by
 simp [strInts,Lib.strCells,List.map_map,Function.comp_def]
theorem strInts_byte (s:ByteArray):∀z∈strInts s,0<=z/\ z<256:=by
 intro z hz;simp only [strInts,List.mem_map] at hz;obtain⟨b,_,rfl⟩:=hz;have:=b.toNat_lt;omega
theorem bytesOfStr (s:ByteArray)(w:World):∃cap w',(convert 9 22 (.string s)).run Tryz.prog w=.ok (.slice (some ⟨w.heap.size,0,none⟩) s.size cap) w'/\ Below w.heap.size w w'/\ w.heap.size<w'.heap.size/\
  ∀j u,(Lib.strCells s)[j]? =some u ->w'.cell? ((⟨w.heap.size,0,none⟩:Addr).add j)=some u:=by
 refine⟨_,_,run_bytes_of_string (P:=Tryz.prog) w 9 22 5 s Tryz.underlying9 Tryz.underlying22 Tryz.underlying5,?_,?_,?_⟩
 ·exact(Below.refl _ _).drew.alloc (Nat.le_refl _) _
 ·simp
 ·intro j u hj;have hlt:j<s.size:=by
   have:=(List.getElem?_eq_some_iff.1 hj).1;rw [Lib.strCells_length] at this;exact this
  have hc:∀(C:Array Value) (fr:Nat×Nat),(w.drew.alloc (.cells C 5 fr)).cell? ⟨w.heap.size,j,none⟩=C[j]? :=by
   intro C fr;exact cell_of_row _ _ _ _ _ _ (heap_alloc_new w.drew _)
  have e:((⟨w.heap.size,0,none⟩:Addr).add j)=⟨w.heap.size,j,none⟩:=by
   by_cases h0:j=0
   ·subst h0;rfl
   ·simp [Addr.add,h0]
  rw [e,hc];simp only [bytesRow];rw [Array.getElem?_append_left (by simp;exact hlt)];simp only [Lib.strCells] at hj;rw [<- hj];simp
def textInts (s:ByteArray):List Int:=uvF 9 s.size++strInts s
theorem specText (s:ByteArray)(w:World)(hs:s.size<=1048576):
  Calls Tryz.prog 120 #[.string s] w fun e w'=>∃v,e=.returned v/\ Own w' w.heap.size v (textInts s)/\ Below w.heap.size w w'/\ w.heap.size<w'.heap.size:=by
 obtain⟨i0,hi,hz0,hz1,hz2⟩:=info_parts Tryz.infoByte;have HL:=uvF_len 9 s.size;go_enter Tryz.func120,Tryz.ntmps120;go_wp2_with fail;refine(specUv 9 s.size _ (Nat.le_refl _) (hid (by omega)) (by omega)).mono ?_;rintro e w1 ⟨v1,rfl,o1,b1,z1⟩;obtain⟨cap,w2,hrun,b2,z2,hcs⟩:=bytesOfStr s w1;have hd:w2.ownsRow w.heap.size 5 1 v1 (uvF 9 s.size).length ((uvF 9 s.size).map (Value.int .u8)):=o1.kept b2 (fun k hk=>(o1.lt k hk).2);have hlt:∀k,v1.ownBlock=some k ->w.heap.size<=k:=fun k hk=>(o1.lt k hk).1;have HN:=hid hcs;have HT:=hid hlt;have hone:=Lib.strCells_oneCell s;have hlen:=Lib.strCells_length s;have HO:=hid hone;have HLN:=hid hlen;clear hcs o1 hone hlen hlt;go_wp2_with (at_builtin;refine wpList_append_own _ rfl _ _ 22 rfl w.heap.size 5 i0 (.int .u8 0) 1 1 Tryz.underlying22 hi hz0 hz1 hz2 rfl (by decide) _ _ _ rfl hd ⟨w1.heap.size,0,none⟩ s.size cap (Lib.strCells s) rfl (by rw [HLN.out];omega) HN.out HO.out ?c3 ?c4 ?c5 ?_);case c3=>unfold maxLen;omega
 case c4=>omega
 case c5=>omega
 ·intro v' w3 hown' hgr _;have R:Own w3 w.heap.size v' (textInts s):=by
   unfold Own textInts;rw [List.length_append,List.map_append,strInts_length,strInts_cells];exact hown'
  have RB:Below w.heap.size w w3:=(b1.trans (b2.mono (by omega))).grown hgr (by omega) HT.out;have RZ:=hgr.size;clear hown' hgr hd HN HO HLN hrun;go_wp2_with fail;go_ret;exact⟨v',rfl,R,RB,by omega⟩
theorem specRunOk (r f t:Int)(w:World):
  Calls Tryz.prog 56 #[.agg #[.int .i64 r,.int .i64 f,.int .i64 t]] w fun e w'=>e=.returned (.bool (runOkB r f t))/\ Below w.heap.size w w':=by
 by_cases h1:0<=r
 ·by_cases h2:r<8
  ·by_cases h3:1<=f
   ·by_cases h4:f<=t
    ·by_cases h5:t<=1000000000
     ·have HE:=hid (runOk_true ⟨h1,h2,h3,h4,h5⟩);go_enter Tryz.func56,Tryz.ntmps56;go_wp2_with fail;go_ret;exact⟨retB HE.out.symm,(Below.refl _ _).alloc (Nat.le_refl _) _⟩
     ·have HE:=hid (runOk_false (r:=r) (f:=f) (t:=t) (by omega));go_enter Tryz.func56,Tryz.ntmps56;go_wp2_with fail;go_ret;exact⟨retB HE.out.symm,(Below.refl _ _).alloc (Nat.le_refl _) _⟩
    ·have HE:=hid (runOk_false (r:=r) (f:=f) (t:=t) (by omega));go_enter Tryz.func56,Tryz.ntmps56;go_wp2_with fail;go_ret;exact⟨retB HE.out.symm,(Below.refl _ _).alloc (Nat.le_refl _) _⟩
   ·have HE:=hid (runOk_false (r:=r) (f:=f) (t:=t) (by omega));go_enter Tryz.func56,Tryz.ntmps56;go_wp2_with fail;go_ret;exact⟨retB HE.out.symm,(Below.refl _ _).alloc (Nat.le_refl _) _⟩
  ·have HE:=hid (runOk_false (r:=r) (f:=f) (t:=t) (by omega));go_enter Tryz.func56,Tryz.ntmps56;go_wp2_with fail;go_ret;exact⟨retB HE.out.symm,(Below.refl _ _).alloc (Nat.le_refl _) _⟩
 ·have HE:=hid (runOk_false (r:=r) (f:=f) (t:=t) (by omega));go_enter Tryz.func56,Tryz.ntmps56;go_wp2_with fail;go_ret;exact⟨retB HE.out.symm,(Below.refl _ _).alloc (Nat.le_refl _) _⟩
theorem repOk_yes (r:Int)(w:World)(h1:0<=r)(h2:r<8):
  Calls Tryz.prog 123 #[.int .i64 r] w fun e w'=>e=.returned (.bool true)/\ w'=w:=by
 go_enter Tryz.func123,Tryz.ntmps123;go_wp2_with fail;go_ret;exact⟨rfl,rfl⟩
theorem repOk_no (r:Int)(w:World)(h:¬(0<=r/\ r<8)):
  Calls Tryz.prog 123 #[.int .i64 r] w fun e w'=>e=.returned (.bool false)/\ w'=w:=by
 by_cases h1:0<=r
 ·have h2:decide (r<8)=false:=by simp;omega
  go_enter Tryz.func123,Tryz.ntmps123;go_wp2_with fail;go_ret;exact⟨rfl,rfl⟩
 ·go_enter Tryz.func123,Tryz.ntmps123;go_wp2_with fail;go_ret;exact⟨rfl,rfl⟩
theorem implRunOk (r f t:Int)(w:World):
  Calls Tryz.prog 102 #[.agg #[.int .i64 r,.int .i64 f,.int .i64 t]] w fun e w'=>e=.returned (.bool (runOkB r f t))/\ Below w.heap.size w w':=by
 by_cases h12:0<=r/\ r<8
 ·obtain⟨h1,h2⟩:=h12;have HC:=hid (repOk_yes r (w.alloc (.cells #[.int .i64 r,.int .i64 f,.int .i64 t] 87)) h1 h2);by_cases h3:1<=f
  ·by_cases h4:f<=t
   ·by_cases h5:t<=1000000000
    ·have HE:=hid (runOk_true ⟨h1,h2,h3,h4,h5⟩);go_enter Tryz.func102,Tryz.ntmps102;go_wp2_with fail;refine HC.out.mono ?_;rintro e w1 ⟨rfl,rfl⟩;go_wp2_with fail;go_ret;exact⟨retB HE.out.symm,(Below.refl _ _).alloc (Nat.le_refl _) _⟩
    ·have h5':decide (t<=1000000000)=false:=by simp;omega
     have HE:=hid (runOk_false (r:=r) (f:=f) (t:=t) (by omega));go_enter Tryz.func102,Tryz.ntmps102;go_wp2_with fail;refine HC.out.mono ?_;rintro e w1 ⟨rfl,rfl⟩;go_wp2_with fail;go_ret;exact⟨retB HE.out.symm,(Below.refl _ _).alloc (Nat.le_refl _) _⟩
   ·have HE:=hid (runOk_false (r:=r) (f:=f) (t:=t) (by omega));go_enter Tryz.func102,Tryz.ntmps102;go_wp2_with fail;refine HC.out.mono ?_;rintro e w1 ⟨rfl,rfl⟩;go_wp2_with fail;go_ret;exact⟨retB HE.out.symm,(Below.refl _ _).alloc (Nat.le_refl _) _⟩
  ·have HE:=hid (runOk_false (r:=r) (f:=f) (t:=t) (by omega));go_enter Tryz.func102,Tryz.ntmps102;go_wp2_with fail;refine HC.out.mono ?_;rintro e w1 ⟨rfl,rfl⟩;go_wp2_with fail;go_ret;exact⟨retB HE.out.symm,(Below.refl _ _).alloc (Nat.le_refl _) _⟩
 ·have HC:=hid (repOk_no r (w.alloc (.cells #[.int .i64 r,.int .i64 f,.int .i64 t] 87)) h12);have HE:=hid (runOk_false (r:=r) (f:=f) (t:=t) (by omega));clear h12;go_enter Tryz.func102,Tryz.ntmps102;go_wp2_with fail;refine HC.out.mono ?_;rintro e w1 ⟨rfl,rfl⟩;go_wp2_with fail;go_ret;exact⟨retB HE.out.symm,(Below.refl _ _).alloc (Nat.le_refl _) _⟩
theorem apart_true {r t r' f':Int}(h:r<r' \/(r=r'/\ t+1<f')):apartB r t r' f'=true:=by unfold apartB;exact decide_eq_true h
theorem apart_false {r t r' f':Int}(h:¬(r<r' \/(r=r'/\ t+1<f'))):apartB r t r' f'=false:=by unfold apartB;exact decide_eq_false h
theorem below2 (w:World)(o o':Obj):Below w.heap.size w ((w.alloc o).alloc o'):=((Below.refl _ _).alloc (Nat.le_refl _) _).alloc (by simp) _
theorem specApart (r f t r' f' t':Int)(w:World)(h0:0<=t)(h1:t<=1000000000):
  Calls Tryz.prog 57 #[.agg #[.int .i64 r,.int .i64 f,.int .i64 t],.agg #[.int .i64 r',.int .i64 f',.int .i64 t']] w fun e w'=>e=.returned (.bool (apartB r t r' f'))/\ Below w.heap.size w w':=by
 by_cases c1:r<r'
 ·have HE:=hid (apart_true (t:=t) (f':=f') (.inl c1));go_enter Tryz.func57,Tryz.ntmps57;go_wp2_with fail;go_ret;exact⟨retB HE.out.symm,below2 _ _ _⟩
 ·by_cases c2:r=r'
  ·subst c2;by_cases c3:t+1<f'
   ·have HE:=hid (apart_true (r:=r) (r':=r) (.inr ⟨rfl,c3⟩));go_enter Tryz.func57,Tryz.ntmps57;go_wp2_with fail;go_ret;exact⟨retB HE.out.symm,below2 _ _ _⟩
   ·have HE:=hid (apart_false (r:=r) (r':=r) (t:=t) (f':=f') (by omega));go_enter Tryz.func57,Tryz.ntmps57;go_wp2_with fail;go_ret;exact⟨retB HE.out.symm,below2 _ _ _⟩
  ·have c3:(r==r')=false:=by simp;exact c2
   have HE:=hid (apart_false (r:=r) (r':=r') (t:=t) (f':=f') (by omega));go_enter Tryz.func57,Tryz.ntmps57;go_wp2_with fail;go_ret;exact⟨retB HE.out.symm,below2 _ _ _⟩
theorem implFollows (r f t r' f' t':Int)(w:World)(h0:0<=t)(h1:t<=1000000000):
  Calls Tryz.prog 103 #[.agg #[.int .i64 r',.int .i64 f',.int .i64 t'],.agg #[.int .i64 r,.int .i64 f,.int .i64 t]] w fun e w'=>e=.returned (.bool (apartB r t r' f'))/\ Below w.heap.size w w':=by
 by_cases c2:r'=r
 ·subst c2;by_cases c3:t+1<f'
  ·have HE:=hid (apart_true (r:=r') (r':=r') (.inr ⟨rfl,c3⟩));go_enter Tryz.func103,Tryz.ntmps103;go_wp2_with fail;go_ret;exact⟨retB HE.out.symm,below2 _ _ _⟩
  ·have HE:=hid (apart_false (r:=r') (r':=r') (t:=t) (f':=f') (by omega));go_enter Tryz.func103,Tryz.ntmps103;go_wp2_with fail;go_ret;exact⟨retB HE.out.symm,below2 _ _ _⟩
 ·have c3:(r' !=r)=true:=by simp;exact c2
  by_cases c1:r<r'
  ·have HE:=hid (apart_true (t:=t) (f':=f') (.inl c1));go_enter Tryz.func103,Tryz.ntmps103;go_wp2_with fail;go_ret;exact⟨retB HE.out.symm,below2 _ _ _⟩
  ·have HE:=hid (apart_false (r:=r) (r':=r') (t:=t) (f':=f') (by omega));go_enter Tryz.func103,Tryz.ntmps103;go_wp2_with fail;go_ret;exact⟨retB HE.out.symm,below2 _ _ _⟩
def okTo (R F T:Nat ->Int)(k:Nat):Prop:=∀i,i<k ->runOkB (R i) (F i) (T i)=true/\ (0<i ->apartB (R (i - 1)) (T (i - 1)) (R i) (F i)=true)
def okToB (R F T:Nat ->Int):Nat ->Bool
 | 0=>true
 | k+1=>okToB R F T k && (runOkB (R k) (F k) (T k) && (k==0||apartB (R (k - 1)) (T (k - 1)) (R k) (F k)))
def ctxB (R F T:Nat ->Int)(n:Nat):Bool:=okToB R F T n && decide (n<=1000)
theorem okToB_iff {R F T:Nat ->Int}:∀k:Nat,okToB R F T k=true↔okTo R F T k
 | 0=>⟨fun _ i hi=>by omega,fun _=>rfl⟩
 | k+1=>by
  have ih:=okToB_iff (R:=R) (F:=F) (T:=T) k;constructor
  ·intro h;simp only [okToB,Bool.and_eq_true,Bool.or_eq_true,beq_iff_eq] at h;intro i hi;by_cases e:i=k
   ·subst e;exact⟨h.2.1,fun h0=>by rcases h.2.2 with h'|h';omega;exact h'⟩
   ·exact ih.1 h.1 i (by omega)
  ·intro h;simp only [okToB,Bool.and_eq_true,Bool.or_eq_true,beq_iff_eq];refine⟨ih.2 (fun i hi=>h i (by omega)),(h k (by omega)).1,?_⟩;by_cases h0:k=0
   ·exact .inl h0
   ·exact .inr ((h k (by omega)).2 (by omega))
theorem ctxB_iff {R F T:Nat ->Int}{n:Nat}:ctxB R F T n=true↔okTo R F T n/\ n<=1000:=by
 unfold ctxB;rw [Bool.and_eq_true,okToB_iff,decide_eq_true_iff]
theorem ctxB_false {R F T:Nat ->Int}{n:Nat}(h:¬(okTo R F T n/\ n<=1000)):ctxB R F T n=false:=by
 cases e:ctxB R F T n with
 | false=>rfl
 | true=>exact absurd (ctxB_iff.1 e) h
theorem okTo_succ {R F T:Nat ->Int}{k:Nat}(h:okTo R F T k)(h1:runOkB (R k) (F k) (T k)=true)(h2:0<k ->apartB (R (k - 1)) (T (k - 1)) (R k) (F k)=true):okTo R F T (k+1):=by
 intro i hi;by_cases e:i=k
 ·subst e;exact⟨h1,h2⟩
 ·exact h i (by omega)
theorem keepS {wr w1 w2:World}(h1:Below wr.heap.size wr w1)(b2:Below w1.heap.size w1 w2):Below wr.heap.size wr w2:=h1.trans (b2.mono h1.size)
theorem take1 {P:Program}{ops:Array Oper}{Q:Exit ->Act ->World ->Prop}{md:Region.Mode}{S:World ->Prop}{i:Nat}{d:Option Tmp}{v:Value}{fuel:Nat}{listed:Array Bool}{a:Act}{w:World}
  (hd:ops[i]?.map (fun o=>o.dst)=some d) (hs:Region.noSelect ops=true) (hf:Region.free md ops listed i=true) (hr:(Region.ready md ops listed).contains i=true)
  (hQ:∀c a w,Q (.panic c) (a.put d v) w ->Q (.panic c) a w) (hy:∀o,ops[i]? =some o ->YieldsIf P ops S o v a) (hS:S w)
  (h:wpAnyH P md ops Q S fuel (listed.setIfInBounds i true) (a.put d v) w):wpAnyH P md ops Q S (fuel+1) listed a w:=by
 obtain⟨o,ho,rfl⟩:=Option.map_eq_some_iff.1 hd;exact wpAnyH_take ho hs hf hr hQ (hy o ho) hS h
theorem call1 {P:Program}{ops:Array Oper}{Q:Exit ->Act ->World ->Prop}{md:Region.Mode}{S:World ->Prop}{i:Nat}{d:Option Tmp}{fuel:Nat}{listed:Array Bool}{a:Act}{w:World}
  (hd:ops[i]?.map (fun o=>o.dst)=some d) (hr:Region.ready md ops listed=[i])
  (h:∀o,ops[i]? =some o ->o.dst=d ->∀K':Act ->World ->Prop,Shut (∀a w,S w ->(S w ->wpAnyH P md ops Q S fuel (listed.setIfInBounds i true) a w) ->K' a w) ->if Region.wanted o (yielded ops a.tmps)=true then Oper.wp P o a w K' Q else K' (a.put o.dst undef) w):
  wpAnyH P md ops Q S (fuel+1) listed a w:=by
 obtain⟨o,ho,hod⟩:=Option.map_eq_some_iff.1 hd;exact wpAnyH_ready hr (by simp) (AllReadyH.cons ho (h o ho hod) AllReadyH.nil)
theorem gZa {α:Type}{l:List α}{i:Nat}:l.toArray[i]? =l[i]? :=List.getElem?_toArray
theorem gZb {α:Type}{a:α}{l:List α}{i:Nat}:(a::l)[i+1]? =l[i]? :=List.getElem?_cons_succ
theorem gZc {α:Type}{a:α}{l:List α}:(a::l)[0]? =some a:=List.getElem?_cons_zero
theorem gZd {α:Type}{a b:α}:(some a=some b)=(a=b):=Option.some.injEq a b
theorem sZa {α:Type}(l:List α)(i:Nat)(a:α):l.toArray.setIfInBounds i a=(l.set i a).toArray:=by simp
theorem sZb {α:Type}{a b:α}{l:List α}:(a::l).set 0 b=b::l:=List.set_cons_zero
theorem sZc {α:Type}{a b:α}{l:List α}{i:Nat}:(a::l).set (i+1) b=a::l.set i b:=List.set_cons_succ
theorem tk {P:Program}{ops:Array Oper}{Q:Exit ->Act ->World ->Prop}{md:Region.Mode}{S:World ->Prop}(i:Nat)(d:Tmp)(v:Value){fuel:Nat}{listed:Array Bool}{a:Act}{w:World}
  (hb:((ops[i]?.map (fun o=>o.dst)==some (some d)) && (Region.noSelect ops && (Region.free md ops listed i && (Region.ready md ops listed).contains i)))=true)
  (hQ:∀c a w,Q (.panic c) (a.put (some d) v) w ->Q (.panic c) a w) (hy:∀o,ops[i]? =some o ->YieldsIf P ops S o v a) (hS:S w)
  (h:wpAnyH P md ops Q S fuel (listed.setIfInBounds i true) (a.put (some d) v) w):wpAnyH P md ops Q S (fuel+1) listed a w:=by
 rw [Bool.and_eq_true,Bool.and_eq_true,Bool.and_eq_true] at hb;exact take1 (eq_of_beq hb.1) hb.2.1 hb.2.2.1 hb.2.2.2 hQ hy hS h
theorem tZ {P:Program}{ops:Array Oper}{Q:Exit ->Act ->World ->Prop}{md:Region.Mode}{S:World ->Prop}(i:Nat)(d:Tmp){v:Value}{fuel:Nat}{listed:Array Bool}{a b:Act}{w:World}
  (h:wpAnyH P md ops Q S fuel (listed.setIfInBounds i true) b w) (hS:S w:=by assumption)
  (hb:((ops[i]?.map (fun o=>o.dst)==some (some d)) && (Region.noSelect ops && (Region.free md ops listed i && (Region.ready md ops listed).contains i)))=true:=by kernel_rfl)
  (hQ:∀c a w,Q (.panic c) (a.put (some d) v) w ->Q (.panic c) a w:=by exact fun _ _ _ h=>h)
  (hy:∀o,ops[i]? =some o ->YieldsIf P ops S o v a:=by intro o ho;simp only [gZa,gZb,gZc,gZd] at ho;subst ho;refine Or.inl ⟨by rfl,?_⟩;intro w hSw;(try dsimp only at hSw);go_simp;try with_reducible rfl)
  (hp:a.put (some d) v=b:=by simp only [Act.put,sZa,sZb,sZc];rfl):wpAnyH P md ops Q S (fuel+1) listed a w:=tk i d v hb hQ hy hS (hp ▸ h)
theorem uZ {P:Program}{ops:Array Oper}{Q:Exit ->Act ->World ->Prop}{md:Region.Mode}{S:World ->Prop}(i:Nat)(d:Tmp){fuel:Nat}{listed:Array Bool}{a b:Act}{w:World}
  (h:wpAnyH P md ops Q S fuel (listed.setIfInBounds i true) b w) (hS:S w:=by assumption)
  (hb:((ops[i]?.map (fun o=>o.dst)==some (some d)) && (Region.noSelect ops && (Region.free md ops listed i && (Region.ready md ops listed).contains i)))=true:=by kernel_rfl)
  (hQ:∀c a w,Q (.panic c) (a.put (some d) undef) w ->Q (.panic c) a w:=by exact fun _ _ _ h=>h)
  (hy:∀o,ops[i]? =some o ->YieldsIf P ops S o undef a:=by intro o ho;simp only [gZa,gZb,gZc,gZd] at ho;subst ho;exact Or.inr ⟨by rfl,rfl⟩)
  (hp:a.put (some d) undef=b:=by simp only [Act.put,sZa,sZb,sZc];rfl):wpAnyH P md ops Q S (fuel+1) listed a w:=tk i d undef hb hQ hy hS (hp ▸ h)
theorem cZ {P:Program}{ops:Array Oper}{Q:Exit ->Act ->World ->Prop}{md:Region.Mode}{S:World ->Prop}(i:Nat){o:Oper}{fuel:Nat}{listed:Array Bool}{a:Act}{w:World}
  (h:∀K':Act ->World ->Prop,Shut (∀a w,S w ->(S w ->wpAnyH P md ops Q S fuel (listed.setIfInBounds i true) a w) ->K' a w) ->if Region.wanted o (yielded ops a.tmps)=true then Oper.wp P o a w K' Q else K' (a.put o.dst undef) w)
  (hr:Region.ready md ops listed=[i]:=by kernel_rfl) (ho:ops[i]? =some o:=by simp only [gZa,gZb,gZc];rfl):wpAnyH P md ops Q S (fuel+1) listed a w:=
 call1 (d:=o.dst) (by rw [ho];rfl) hr (fun o' h1 _=>by rw [ho] at h1;cases h1;exact h)
theorem wrapIn (x:Int)(h0: -9223372036854775808<=x)(h1:x<=9223372036854775807):IntKind.i64.wrap x=x:=by
 rw [IntKind.wrap_i64];omega
theorem ok_false_run {R F T:Nat ->Int}{n k:Nat}(hk:k<n)(h:runOkB (R k) (F k) (T k)=false):ctxB R F T n=false:=ctxB_false fun⟨h1,_⟩=>by
 have:=(h1 k hk).1;rw [h] at this;cases this
theorem ok_false_apart {R F T:Nat ->Int}{n k:Nat}(hk:k<n)(h0:0<k)(h:apartB (R (k - 1)) (T (k - 1)) (R k) (F k)=false):ctxB R F T n=false:=ctxB_false fun⟨h1,_⟩=>by
 have:=(h1 k hk).2 h0;rw [h] at this;cases this
theorem specOk (a:Option Addr)(n c:Nat)(R F T:Nat ->Int)(w:World)(hn:n<=1048576)(h:RSeg w a n R F T):
  Calls Tryz.prog 28 #[.agg #[.slice a n c]] w fun e w'=>e=.returned (.bool (ctxB R F T n))/\ Below w.heap.size w w':=by
 rcases h with h|⟨b,off,rfl,hb,hc⟩
 ·subst h;have HF:Hid (ctxB R F T 0=true):=ctxB_iff.2 ⟨fun i hi=>by omega,by omega⟩;go_enter Tryz.func28,Tryz.ntmps28;go_wp2_with fail;refine wp_loop_rounds 1 ?_;rw [rounds_succ];go_wp2_with fail;go_ret;exact⟨retB HF.out.symm,(Below.refl _ _).alloc (Nat.le_refl _) _⟩
 ·go_enter Tryz.func28,Tryz.ntmps28;go_wp2_with fail;go_loopw [3] (fun i wr=>∃k:Nat,k<=n/\ i=.int .i64 k/\ okTo R F T k/\ wr.cell? ⟨w.heap.size,0,none⟩=some (.slice (some ⟨b,off,none⟩) n c)/\ Below w.heap.size w wr/\ w.heap.size<wr.heap.size) (fun i _=>n - (intOf i).toNat);case atStart=>exact⟨0,Nat.zero_le _,rfl,fun i hi=>by omega,by simp,(Below.refl _ _).alloc (Nat.le_refl _) _,by simp⟩
  case round=>
   obtain⟨k,hk,rfl,hok,hbox,hbel,hsz⟩:=hrel;have hbw:=Nat.lt_of_lt_of_le hb hbel.size;by_cases hlt:k<n
   ·have hck:wr.cell? ⟨b,off+k*3,none⟩=some (.int .i64 (R k)):=(hbel.cell (p:=⟨b,_,none⟩) hb).trans (hc k hlt).1;have hck1:wr.cell? ⟨b,off+k*3+1,none⟩=some (.int .i64 (F k)):=(hbel.cell (p:=⟨b,_,none⟩) hb).trans (hc k hlt).2.1;have hck2:wr.cell? ⟨b,off+k*3+2,none⟩=some (.int .i64 (T k)):=(hbel.cell (p:=⟨b,_,none⟩) hb).trans (hc k hlt).2.2;have hk0:(0:Int)<=(k:Int):=Int.natCast_nonneg _;have hk1:(k:Int)<(n:Int):=by omega
    have HB:=hid hbel;have HO:=hid hok;cases hr:runOkB (R k) (F k) (T k) with
    | false=>
     have HR:=hid hr;clear hr hc hbel hok;go_wp2_with fail;refine wp_region_held_drew (S:=fun w'=>Below wr.heap.size wr w'/\ w'.cell? ⟨w.heap.size,0,none⟩=some (.slice (some ⟨b,off,none⟩) n c)/\ w'.cell? ⟨b,off+k*3,none⟩=some (.int .i64 (R k))/\ w'.cell? ⟨b,off+k*3+1,none⟩=some (.int .i64 (F k))/\ w'.cell? ⟨b,off+k*3+2,none⟩=some (.int .i64 (T k))) (by kernel_rfl) ⟨(Below.refl _ _).drew,hbox,hck,hck1,hck2⟩ (fun hHeld=> ?_);refine tZ 0 11 ?_;refine tZ 1 12 ?_;refine tZ 2 13 ?_;refine tZ 3 14 ?_;refine tZ 4 15 ?_;refine cZ 5 ?_;intro K hK;go_simp;refine(specRunOk _ _ _ _).mono ?_;rintro e w2 ⟨rfl,b2⟩;rw [HR.out];have hB:=keepS hHeld.1 b2;refine hK.out _ _ ⟨hB,(hB.cell (p:=⟨w.heap.size,0,none⟩) hsz).trans hbox,(hB.cell (p:=⟨b,_,none⟩) hbw).trans hck,(hB.cell (p:=⟨b,_,none⟩) hbw).trans hck1,(hB.cell (p:=⟨b,_,none⟩) hbw).trans hck2⟩ (fun hHeld=> ?_);clear hK K;try simp only [Act.put,sZa,sZb,sZc]
     refine tZ 6 17 ?_;refine tZ 7 18 ?_;refine uZ 8 19 ?_;refine uZ 9 20 ?_;refine uZ 10 21 ?_;refine uZ 11 22 ?_;refine uZ 12 23 ?_;refine uZ 13 24 ?_;refine uZ 14 25 ?_;refine uZ 15 26 ?_;refine uZ 16 27 ?_;refine uZ 17 28 ?_;refine uZ 18 29 ?_;refine uZ 19 30 ?_;refine uZ 20 31 ?_;refine uZ 21 32 ?_;refine uZ 22 33 ?_;refine uZ 23 34 ?_;refine uZ 24 35 ?_;refine tZ 25 36 ?_;refine wpAnyH_done (by kernel_rfl) ?_ _;have HZ:=hid (keepS (wr:=wr) (w1:=wr) (Below.refl _ _) hB);clear hHeld hB b2;go_wp2_with fail;go_ret;exact⟨retB (ok_false_run hlt HR.out).symm,HB.out.trans (HZ.out.mono (by omega))⟩
    | true=>
     have HR:=hid hr;clear hr;by_cases hk00:k=0
     ·have hg:decide (0<k)=false:=by simp;omega
      have HK:=hid hk00;clear hc hbel hok hk00;go_wp2_with fail;refine wp_region_held_drew (S:=fun w'=>Below wr.heap.size wr w'/\ w'.cell? ⟨w.heap.size,0,none⟩=some (.slice (some ⟨b,off,none⟩) n c)/\ w'.cell? ⟨b,off+k*3,none⟩=some (.int .i64 (R k))/\ w'.cell? ⟨b,off+k*3+1,none⟩=some (.int .i64 (F k))/\ w'.cell? ⟨b,off+k*3+2,none⟩=some (.int .i64 (T k))) (by kernel_rfl) ⟨(Below.refl _ _).drew,hbox,hck,hck1,hck2⟩ (fun hHeld=> ?_);refine tZ 0 11 ?_;refine tZ 1 12 ?_;refine tZ 2 13 ?_;refine tZ 3 14 ?_;refine tZ 4 15 ?_;refine cZ 5 ?_;intro K hK;go_simp;refine(specRunOk _ _ _ _).mono ?_;rintro e w2 ⟨rfl,b2⟩;rw [HR.out];have hB:=keepS hHeld.1 b2;refine hK.out _ _ ⟨hB,(hB.cell (p:=⟨w.heap.size,0,none⟩) hsz).trans hbox,(hB.cell (p:=⟨b,_,none⟩) hbw).trans hck,(hB.cell (p:=⟨b,_,none⟩) hbw).trans hck1,(hB.cell (p:=⟨b,_,none⟩) hbw).trans hck2⟩ (fun hHeld=> ?_);clear hK K;try simp only [Act.put,sZa,sZb,sZc]
      refine tZ 6 17 ?_;refine tZ 7 18 ?_;refine tZ 8 19 ?_;refine tZ 9 20 ?_;refine tZ 10 21 ?_;refine uZ 11 22 ?_;refine uZ 12 23 ?_;refine uZ 13 24 ?_;refine uZ 14 25 ?_;refine uZ 15 26 ?_;refine uZ 16 27 ?_;refine uZ 17 28 ?_;refine uZ 18 29 ?_;refine uZ 19 30 ?_;refine uZ 20 31 ?_;refine uZ 21 32 ?_;refine uZ 22 33 ?_;refine uZ 23 34 ?_;refine tZ 24 35 ?_;refine tZ 25 36 ?_;refine wpAnyH_done (by kernel_rfl) ?_ _;have HX:=hid hHeld.2.1;have HZ:=hid hB;clear hHeld hB b2;go_wp2_with fail;go_roundw;case rel=>exact⟨k+1,hlt,by go_num,okTo_succ HO.out HR.out (fun h=>by have:=HK.out;omega),HX.out,HB.out.trans (HZ.out.mono (by omega)),by have:=HZ.out.size;omega⟩
      case measure=>simp [intOf];omega
     ·have hg:decide (0<k)=true:=by simp;omega
      have hcp:=(hbel.cell (p:=⟨b,off+(k - 1)*3,none⟩) hb).trans (hc (k - 1) (by omega)).1;have hcp1:=(hbel.cell (p:=⟨b,off+(k - 1)*3+1,none⟩) hb).trans (hc (k - 1) (by omega)).2.1;have hcp2:=(hbel.cell (p:=⟨b,off+(k - 1)*3+2,none⟩) hb).trans (hc (k - 1) (by omega)).2.2;have e0:IntKind.i64.wrap ((k:Int) - 1)=(k:Int) - 1:=wrapIn _ (by omega) (by omega);have e1:((k:Int) - 1).toNat=k - 1:=by omega
      have e2:(1:Int)<=(k:Int):=by omega
      have e3:(k:Int) - 1<(n:Int):=by omega
      have hpo:=runOk_iff.1 (hok (k - 1) (by omega)).1;have HP:=hid hpo;have HK:=hid hk00;clear hc hbel hok hk00 hpo;go_wp2_with fail;refine wp_region_held_drew (S:=fun w'=>Below wr.heap.size wr w'/\ w'.cell? ⟨w.heap.size,0,none⟩=some (.slice (some ⟨b,off,none⟩) n c)/\ w'.cell? ⟨b,off+k*3,none⟩=some (.int .i64 (R k))/\ w'.cell? ⟨b,off+k*3+1,none⟩=some (.int .i64 (F k))/\ w'.cell? ⟨b,off+k*3+2,none⟩=some (.int .i64 (T k))/\ w'.cell? ⟨b,off+(k - 1)*3,none⟩=some (.int .i64 (R (k - 1)))/\ w'.cell? ⟨b,off+(k - 1)*3+1,none⟩=some (.int .i64 (F (k - 1)))/\ w'.cell? ⟨b,off+(k - 1)*3+2,none⟩=some (.int .i64 (T (k - 1)))) (by kernel_rfl) ⟨(Below.refl _ _).drew,hbox,hck,hck1,hck2,hcp,hcp1,hcp2⟩ (fun hHeld=> ?_);refine tZ 0 11 ?_;refine tZ 1 12 ?_;refine tZ 2 13 ?_;refine tZ 3 14 ?_;refine tZ 4 15 ?_;refine cZ 5 ?_;intro K hK;go_simp;refine(specRunOk _ _ _ _).mono ?_;rintro e w2 ⟨rfl,b2⟩;rw [HR.out];have hB:=keepS hHeld.1 b2;refine hK.out _ _ ⟨hB,(hB.cell (p:=⟨w.heap.size,0,none⟩) hsz).trans hbox,(hB.cell (p:=⟨b,_,none⟩) hbw).trans hck,(hB.cell (p:=⟨b,_,none⟩) hbw).trans hck1,(hB.cell (p:=⟨b,_,none⟩) hbw).trans hck2,(hB.cell (p:=⟨b,_,none⟩) hbw).trans hcp,(hB.cell (p:=⟨b,_,none⟩) hbw).trans hcp1,(hB.cell (p:=⟨b,_,none⟩) hbw).trans hcp2⟩ (fun hHeld=> ?_);clear hK K;try simp only [Act.put,sZa,sZb,sZc]
      refine tZ 6 17 ?_;refine tZ 7 18 ?_;refine tZ 8 19 ?_;refine tZ 9 20 ?_;refine tZ 10 21 ?_;refine tZ 11 22 ?_;refine tZ 12 23 ?_;refine tZ 13 24 ?_;refine tZ 14 25 ?_;refine tZ 15 26 ?_;refine tZ 16 27 ?_;refine tZ 17 28 ?_;refine tZ 18 29 ?_;refine tZ 19 30 ?_;refine tZ 20 31 ?_;refine tZ 21 32 ?_;refine cZ 22 ?_;intro K hK;go_simp;refine(specApart (R (k - 1)) (F (k - 1)) (T (k - 1)) (R k) (F k) (T k) _ (by have:=HP.out;omega) (by have:=HP.out;omega)).mono ?_;rintro e w3 ⟨rfl,b3⟩;have hB3:=keepS hB b3;cases ha:apartB (R (k - 1)) (T (k - 1)) (R k) (F k) with
      | false=>
       have HA:=hid ha;clear ha;refine hK.out _ _ ⟨hB3,(hB3.cell (p:=⟨w.heap.size,0,none⟩) hsz).trans hbox,(hB3.cell (p:=⟨b,_,none⟩) hbw).trans hck,(hB3.cell (p:=⟨b,_,none⟩) hbw).trans hck1,(hB3.cell (p:=⟨b,_,none⟩) hbw).trans hck2,(hB3.cell (p:=⟨b,_,none⟩) hbw).trans hcp,(hB3.cell (p:=⟨b,_,none⟩) hbw).trans hcp1,(hB3.cell (p:=⟨b,_,none⟩) hbw).trans hcp2⟩ (fun hHeld=> ?_);clear hK K;try simp only [Act.put,sZa,sZb,sZc]
       refine tZ 23 34 ?_;refine tZ 24 35 ?_;refine tZ 25 36 ?_;refine wpAnyH_done (by kernel_rfl) ?_ _;have HZ:=hid hB3;clear hHeld hB b2 b3 hB3;go_wp2_with fail;go_ret;exact⟨retB (ok_false_apart hlt (by have:=HK.out;omega) HA.out).symm,HB.out.trans (HZ.out.mono (by omega))⟩
      | true=>
       have HA:=hid ha;clear ha;refine hK.out _ _ ⟨hB3,(hB3.cell (p:=⟨w.heap.size,0,none⟩) hsz).trans hbox,(hB3.cell (p:=⟨b,_,none⟩) hbw).trans hck,(hB3.cell (p:=⟨b,_,none⟩) hbw).trans hck1,(hB3.cell (p:=⟨b,_,none⟩) hbw).trans hck2,(hB3.cell (p:=⟨b,_,none⟩) hbw).trans hcp,(hB3.cell (p:=⟨b,_,none⟩) hbw).trans hcp1,(hB3.cell (p:=⟨b,_,none⟩) hbw).trans hcp2⟩ (fun hHeld=> ?_);clear hK K;try simp only [Act.put,sZa,sZb,sZc]
       refine tZ 23 34 ?_;refine tZ 24 35 ?_;refine tZ 25 36 ?_;refine wpAnyH_done (by kernel_rfl) ?_ _;have HX:=hid hHeld.2.1;have HZ:=hid hB3;clear hHeld hB b2 b3 hB3 e0 e1 e2 e3;go_wp2_with fail;go_roundw;case rel=>exact⟨k+1,hlt,by go_num,okTo_succ HO.out HR.out (fun _=>HA.out),HX.out,HB.out.trans (HZ.out.mono (by omega)),by have:=HZ.out.size;omega⟩
       case measure=>simp [intOf];omega
   ·obtain rfl:k=n:=by omega
    have HB:=hid hbel;by_cases hm:k<=1000
    ·have HF:Hid (ctxB R F T k=true):=ctxB_iff.2 ⟨hok,hm⟩;have hd:decide ((k:Int)<=1000)=true:=by simp;omega
     clear hc hbel hok;go_wp2_with fail;go_ret;exact⟨retB HF.out.symm,HB.out⟩
    ·have HF:Hid (ctxB R F T k=false):=ctxB_false fun h=>hm h.2;have hd:decide ((k:Int)<=1000)=false:=by simp;omega
     clear hc hbel hok;go_wp2_with fail;go_ret;exact⟨retB HF.out.symm,HB.out⟩
theorem implOk (a:Option Addr)(n c:Nat)(R F T:Nat ->Int)(w:World)(hn:n<=1048576)(h:RSeg w a n R F T):
  Calls Tryz.prog 81 #[.agg #[.slice a n c]] w fun e w'=>e=.returned (.bool (ctxB R F T n))/\ Below w.heap.size w w':=by
 by_cases hm:n<=1000;case neg=>
  have HF:Hid (ctxB R F T n=false):=ctxB_false fun h=>hm h.2;go_enter Tryz.func81,Tryz.ntmps81;go_wp2_with fail;go_ret;exact⟨retB HF.out.symm,(Below.refl _ _).alloc (Nat.le_refl _) _⟩
 rcases h with h|⟨b,off,rfl,hb,hc⟩
 ·subst h;have HF:Hid (ctxB R F T 0=true):=ctxB_iff.2 ⟨fun i hi=>by omega,by omega⟩;go_enter Tryz.func81,Tryz.ntmps81;go_wp2_with fail;refine wp_loop_rounds 1 ?_;rw [rounds_succ];go_wp2_with fail;go_ret;exact⟨retB HF.out.symm,(Below.refl _ _).alloc (Nat.le_refl _) _⟩
 ·go_enter Tryz.func81,Tryz.ntmps81;go_wp2_with fail;go_loopw [12] (fun i wr=>∃k:Nat,k<=n/\ i=.int .i64 k/\ okTo R F T k/\ wr.cell? ⟨w.heap.size,0,none⟩=some (.slice (some ⟨b,off,none⟩) n c)/\ Below w.heap.size w wr/\ w.heap.size<wr.heap.size) (fun i _=>n - (intOf i).toNat);case atStart=>exact⟨0,Nat.zero_le _,rfl,fun i hi=>by omega,by simp,(Below.refl _ _).alloc (Nat.le_refl _) _,by simp⟩
  case round=>
   obtain⟨k,hk,rfl,hok,hbox,hbel,hsz⟩:=hrel;have hbw:=Nat.lt_of_lt_of_le hb hbel.size;by_cases hlt:k<n
   ·have hck:wr.cell? ⟨b,off+k*3,none⟩=some (.int .i64 (R k)):=(hbel.cell (p:=⟨b,_,none⟩) hb).trans (hc k hlt).1;have hck1:wr.cell? ⟨b,off+k*3+1,none⟩=some (.int .i64 (F k)):=(hbel.cell (p:=⟨b,_,none⟩) hb).trans (hc k hlt).2.1;have hck2:wr.cell? ⟨b,off+k*3+2,none⟩=some (.int .i64 (T k)):=(hbel.cell (p:=⟨b,_,none⟩) hb).trans (hc k hlt).2.2;have HB:=hid hbel;have HO:=hid hok;obtain⟨W1,hW1⟩:∃W1,wr.alloc (.cells #[.int .i64 (R k),.int .i64 (F k),.int .i64 (T k)] 87)=W1:=⟨_,rfl⟩;have zW:wr.heap.size<W1.heap.size:=by rw [<- hW1];simp
    have zB:w.heap.size<W1.heap.size:=by omega
    have zb:b<W1.heap.size:=by omega
    have bW:Below wr.heap.size wr W1:=by rw [<- hW1];exact(Below.refl _ _).alloc (Nat.le_refl _) _
    have hbox1:W1.cell? ⟨w.heap.size,0,none⟩=some (.slice (some ⟨b,off,none⟩) n c):=(bW.cell (p:=⟨w.heap.size,0,none⟩) hsz).trans hbox;have r0:W1.cell? ⟨wr.heap.size,0,none⟩=some (.int .i64 (R k)):=by rw [<- hW1];simp
    have r1:W1.cell? ⟨wr.heap.size,1,none⟩=some (.int .i64 (F k)):=by rw [<- hW1];simp
    have r2:W1.cell? ⟨wr.heap.size,2,none⟩=some (.int .i64 (T k)):=by rw [<- hW1];simp
    have HW:=hid bW;cases hr:runOkB (R k) (F k) (T k) with
    | false=>
     have HR:=hid hr;clear hr hc hbel hok bW;go_wp2_with fail;try rw [hW1]
     clear hW1 hbox hck hck1 hck2;refine wp_region_held_drew (S:=fun w'=>Below W1.heap.size W1 w'/\ w'.cell? ⟨w.heap.size,0,none⟩=some (.slice (some ⟨b,off,none⟩) n c)/\ w'.cell? ⟨wr.heap.size,0,none⟩=some (.int .i64 (R k))/\ w'.cell? ⟨wr.heap.size,1,none⟩=some (.int .i64 (F k))/\ w'.cell? ⟨wr.heap.size,2,none⟩=some (.int .i64 (T k))) (by kernel_rfl) ⟨(Below.refl _ _).drew,hbox1,r0,r1,r2⟩ (fun hHeld=> ?_);refine tZ 0 17 ?_;refine cZ 1 ?_;intro K hK;go_simp;refine(implRunOk _ _ _ _).mono ?_;rintro e w2 ⟨rfl,b2⟩;rw [HR.out];have hB:=keepS hHeld.1 b2;refine hK.out _ _ ⟨hB,(hB.cell (p:=⟨w.heap.size,0,none⟩) zB).trans hbox1,(hB.cell (p:=⟨wr.heap.size,0,none⟩) zW).trans r0,(hB.cell (p:=⟨wr.heap.size,1,none⟩) zW).trans r1,(hB.cell (p:=⟨wr.heap.size,2,none⟩) zW).trans r2⟩ (fun hHeld=> ?_);clear hK K;try simp only [Act.put,sZa,sZb,sZc]
     refine tZ 2 19 ?_;refine tZ 3 20 ?_;refine uZ 4 21 ?_;refine uZ 5 22 ?_;refine uZ 6 23 ?_;refine uZ 7 24 ?_;refine uZ 8 25 ?_;refine uZ 9 26 ?_;refine uZ 10 27 ?_;refine uZ 11 28 ?_;refine uZ 12 29 ?_;refine uZ 13 30 ?_;refine uZ 14 31 ?_;refine uZ 15 32 ?_;refine uZ 16 33 ?_;refine tZ 17 34 ?_;refine wpAnyH_done (by kernel_rfl) ?_ _;have HZ:=hid hB;clear hHeld hB b2;go_wp2_with fail;go_ret;exact⟨retB (ok_false_run hlt HR.out).symm,HB.out.trans ((HW.out.trans (HZ.out.mono (by omega))).mono (by omega))⟩
    | true=>
     have HR:=hid hr;clear hr;by_cases hk00:k=0
     ·have hg:decide (0<k)=false:=by simp;omega
      have HK:=hid hk00;clear hc hbel hok hk00 bW;go_wp2_with fail;try rw [hW1]
      clear hW1 hbox hck hck1 hck2;refine wp_region_held_drew (S:=fun w'=>Below W1.heap.size W1 w'/\ w'.cell? ⟨w.heap.size,0,none⟩=some (.slice (some ⟨b,off,none⟩) n c)/\ w'.cell? ⟨wr.heap.size,0,none⟩=some (.int .i64 (R k))/\ w'.cell? ⟨wr.heap.size,1,none⟩=some (.int .i64 (F k))/\ w'.cell? ⟨wr.heap.size,2,none⟩=some (.int .i64 (T k))) (by kernel_rfl) ⟨(Below.refl _ _).drew,hbox1,r0,r1,r2⟩ (fun hHeld=> ?_);refine tZ 0 17 ?_;refine cZ 1 ?_;intro K hK;go_simp;refine(implRunOk _ _ _ _).mono ?_;rintro e w2 ⟨rfl,b2⟩;rw [HR.out];have hB:=keepS hHeld.1 b2;refine hK.out _ _ ⟨hB,(hB.cell (p:=⟨w.heap.size,0,none⟩) zB).trans hbox1,(hB.cell (p:=⟨wr.heap.size,0,none⟩) zW).trans r0,(hB.cell (p:=⟨wr.heap.size,1,none⟩) zW).trans r1,(hB.cell (p:=⟨wr.heap.size,2,none⟩) zW).trans r2⟩ (fun hHeld=> ?_);clear hK K;try simp only [Act.put,sZa,sZb,sZc]
      refine tZ 2 19 ?_;refine tZ 3 20 ?_;refine tZ 4 21 ?_;refine tZ 5 22 ?_;refine tZ 6 23 ?_;refine uZ 7 24 ?_;refine uZ 8 25 ?_;refine uZ 9 26 ?_;refine uZ 10 27 ?_;refine uZ 11 28 ?_;refine uZ 12 29 ?_;refine uZ 13 30 ?_;refine uZ 14 31 ?_;refine uZ 15 32 ?_;refine tZ 16 33 ?_;refine tZ 17 34 ?_;refine wpAnyH_done (by kernel_rfl) ?_ _;have HX:=hid hHeld.2.1;have HZ:=hid hB;clear hHeld hB b2;go_wp2_with fail;go_roundw;case rel=>exact⟨k+1,hlt,by go_num,okTo_succ HO.out HR.out (fun h=>by have:=HK.out;omega),HX.out,HB.out.trans ((HW.out.trans (HZ.out.mono (by omega))).mono (by omega)),by have:=HZ.out.size;omega⟩
      case measure=>simp [intOf];omega
     ·have hg:decide (0<k)=true:=by simp;omega
      have b1:=hbel.trans (bW.mono (by omega));have hcp:=(b1.cell (p:=⟨b,off+(k - 1)*3,none⟩) hb).trans (hc (k - 1) (by omega)).1;have hcp1:=(b1.cell (p:=⟨b,off+(k - 1)*3+1,none⟩) hb).trans (hc (k - 1) (by omega)).2.1;have hcp2:=(b1.cell (p:=⟨b,off+(k - 1)*3+2,none⟩) hb).trans (hc (k - 1) (by omega)).2.2;have e0:IntKind.i64.wrap ((k:Int) - 1)=(k:Int) - 1:=wrapIn _ (by omega) (by omega);have e1:((k:Int) - 1).toNat=k - 1:=by omega
      have e2:(1:Int)<=(k:Int):=by omega
      have e3:(k:Int) - 1<(n:Int):=by omega
      have hpo:=runOk_iff.1 (hok (k - 1) (by omega)).1;have HP:=hid hpo;have HK:=hid hk00;clear hc hbel hok hk00 hpo bW b1;go_wp2_with fail;try rw [hW1]
      clear hW1 hbox hck hck1 hck2;refine wp_region_held_drew (S:=fun w'=>Below W1.heap.size W1 w'/\ w'.cell? ⟨w.heap.size,0,none⟩=some (.slice (some ⟨b,off,none⟩) n c)/\ w'.cell? ⟨wr.heap.size,0,none⟩=some (.int .i64 (R k))/\ w'.cell? ⟨wr.heap.size,1,none⟩=some (.int .i64 (F k))/\ w'.cell? ⟨wr.heap.size,2,none⟩=some (.int .i64 (T k))/\ w'.cell? ⟨b,off+(k - 1)*3,none⟩=some (.int .i64 (R (k - 1)))/\ w'.cell? ⟨b,off+(k - 1)*3+1,none⟩=some (.int .i64 (F (k - 1)))/\ w'.cell? ⟨b,off+(k - 1)*3+2,none⟩=some (.int .i64 (T (k - 1)))) (by kernel_rfl) ⟨(Below.refl _ _).drew,hbox1,r0,r1,r2,hcp,hcp1,hcp2⟩ (fun hHeld=> ?_);refine tZ 0 17 ?_;refine cZ 1 ?_;intro K hK;go_simp;refine(implRunOk _ _ _ _).mono ?_;rintro e w2 ⟨rfl,b2⟩;rw [HR.out];have hB:=keepS hHeld.1 b2;refine hK.out _ _ ⟨hB,(hB.cell (p:=⟨w.heap.size,0,none⟩) zB).trans hbox1,(hB.cell (p:=⟨wr.heap.size,0,none⟩) zW).trans r0,(hB.cell (p:=⟨wr.heap.size,1,none⟩) zW).trans r1,(hB.cell (p:=⟨wr.heap.size,2,none⟩) zW).trans r2,(hB.cell (p:=⟨b,_,none⟩) zb).trans hcp,(hB.cell (p:=⟨b,_,none⟩) zb).trans hcp1,(hB.cell (p:=⟨b,_,none⟩) zb).trans hcp2⟩ (fun hHeld=> ?_);clear hK K;try simp only [Act.put,sZa,sZb,sZc]
      refine tZ 2 19 ?_;refine tZ 3 20 ?_;refine tZ 4 21 ?_;refine tZ 5 22 ?_;refine tZ 6 23 ?_;refine tZ 7 24 ?_;refine tZ 8 25 ?_;refine tZ 9 26 ?_;refine tZ 10 27 ?_;refine tZ 11 28 ?_;refine tZ 12 29 ?_;refine tZ 13 30 ?_;refine cZ 14 ?_;intro K hK;go_simp;refine(implFollows (R (k - 1)) (F (k - 1)) (T (k - 1)) (R k) (F k) (T k) _ (by have:=HP.out;omega) (by have:=HP.out;omega)).mono ?_;rintro e w3 ⟨rfl,b3⟩;have hB3:=keepS hB b3;cases ha:apartB (R (k - 1)) (T (k - 1)) (R k) (F k) with
      | false=>
       have HA:=hid ha;clear ha;refine hK.out _ _ ⟨hB3,(hB3.cell (p:=⟨w.heap.size,0,none⟩) zB).trans hbox1,(hB3.cell (p:=⟨wr.heap.size,0,none⟩) zW).trans r0,(hB3.cell (p:=⟨wr.heap.size,1,none⟩) zW).trans r1,(hB3.cell (p:=⟨wr.heap.size,2,none⟩) zW).trans r2,(hB3.cell (p:=⟨b,_,none⟩) zb).trans hcp,(hB3.cell (p:=⟨b,_,none⟩) zb).trans hcp1,(hB3.cell (p:=⟨b,_,none⟩) zb).trans hcp2⟩ (fun hHeld=> ?_);clear hK K;try simp only [Act.put,sZa,sZb,sZc]
       refine tZ 15 32 ?_;refine tZ 16 33 ?_;refine tZ 17 34 ?_;refine wpAnyH_done (by kernel_rfl) ?_ _;have HZ:=hid hB3;clear hHeld hB b2 b3 hB3;go_wp2_with fail;go_ret;exact⟨retB (ok_false_apart hlt (by have:=HK.out;omega) HA.out).symm,HB.out.trans ((HW.out.trans (HZ.out.mono (by omega))).mono (by omega))⟩
      | true=>
       have HA:=hid ha;clear ha;refine hK.out _ _ ⟨hB3,(hB3.cell (p:=⟨w.heap.size,0,none⟩) zB).trans hbox1,(hB3.cell (p:=⟨wr.heap.size,0,none⟩) zW).trans r0,(hB3.cell (p:=⟨wr.heap.size,1,none⟩) zW).trans r1,(hB3.cell (p:=⟨wr.heap.size,2,none⟩) zW).trans r2,(hB3.cell (p:=⟨b,_,none⟩) zb).trans hcp,(hB3.cell (p:=⟨b,_,none⟩) zb).trans hcp1,(hB3.cell (p:=⟨b,_,none⟩) zb).trans hcp2⟩ (fun hHeld=> ?_);clear hK K;try simp only [Act.put,sZa,sZb,sZc]
       refine tZ 15 32 ?_;refine tZ 16 33 ?_;refine tZ 17 34 ?_;refine wpAnyH_done (by kernel_rfl) ?_ _;have HX:=hid hHeld.2.1;have HZ:=hid hB3;clear hHeld hB b2 b3 hB3 e0 e1 e2 e3;go_wp2_with fail;go_roundw;case rel=>exact⟨k+1,hlt,by go_num,okTo_succ HO.out HR.out (fun _=>HA.out),HX.out,HB.out.trans ((HW.out.trans (HZ.out.mono (by omega))).mono (by omega)),by have:=HZ.out.size;omega⟩
       case measure=>simp [intOf];omega
   ·obtain rfl:k=n:=by omega
    have HB:=hid hbel;have HF:Hid (ctxB R F T k=true):=ctxB_iff.2 ⟨hok,hm⟩;clear hc hbel hok;go_wp2_with fail;go_ret;exact⟨retB HF.out.symm,HB.out⟩
end Go.Proofs.YtpfmeafmepgimaaGreat
