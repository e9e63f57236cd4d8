import Derived.Test.YtfidfeilljlbiaaGreatRows
import Derived.WalkKit
import Derived.ProofKit
import Derived.OpenShut
import Derived.ShutString
import Derived.ChangeOld
import Derived.Below
import Derived.WalkLawsBesides
import Derived.WalkSpells
import Derived.Outline
import Derived.Deep.RegionHeld3
import Derived.Laws.BitsAllLaws
import Derived.Lib.AppendStr
import Derived.Laws.IdiomStrings
import Derived.Maps.Own
import Derived.Maps.OwnSet
import Derived.Maps.OwnOps
import Derived.Maps.AppendAt
import Derived.Maps.Views
set_option linter.unusedVariables false
set_option linter.unusedSimpArgs false
set_option maxRecDepth 100000
set_option maxHeartbeats 40000000
namespace Go.Proofs.YtfidfeilljlbiaaGreat
open Go.ChangeShapes Go.WideShapes Go.ChangeAt Go.RowKit
theorem hid {p:Prop}(h:p):Hid p:=h
def I64 (f:Nat ->Int):Prop:=∀i, -9223372036854775808<=f i/\ f i<=9223372036854775807
def RSeg (w:World)(a:Option Addr)(n:Nat)(R F T:Nat ->Int):Prop:=
 n=0 \/∃b off,a=some ⟨b,off,none⟩/\ b<w.heap.size/\∀i,i<n ->w.cell? ⟨b,off+i*3,none⟩=some (.int .i64 (R i))/\ w.cell? ⟨b,off+i*3+1,none⟩=some (.int .i64 (F i))/\ w.cell? ⟨b,off+i*3+2,none⟩=some (.int .i64 (T i))
theorem RSeg.kept {w w1:World}{B:Nat}{a:Option Addr}{n:Nat}{R F T:Nat ->Int}(h:RSeg w a n R F T)(hb:Below B w w1)(hc:∀x,a=some x ->x.block<B):RSeg w1 a n R F T:=by
 rcases h with h|⟨b,Hb,rfl,Hc,Ha⟩
 ·exact .inl h
 ·have hB:b<B:=hc ⟨b,Hb,none⟩ rfl;refine .inr ⟨b,Hb,rfl,Nat.lt_of_lt_of_le Hc hb.size,fun i hi=> ?_⟩;obtain⟨h1,h2,h3⟩:=Ha i hi;exact⟨(hb.cell (p:=⟨b,_,none⟩) hB).trans h1,(hb.cell (p:=⟨b,_,none⟩) hB).trans h2,(hb.cell (p:=⟨b,_,none⟩) hB).trans h3⟩
theorem RSeg.below {w w1:World}{a:Option Addr}{n:Nat}{R F T:Nat ->Int}(h:RSeg w a n R F T)(hb:Below w.heap.size w w1):RSeg w1 a n R F T:=by
 rcases h with h|⟨b,Hc,rfl,Hb,Ha⟩
 ·exact .inl h
 ·exact RSeg.kept (.inr ⟨b,Hc,rfl,Hb,Ha⟩) hb (fun x hx=>by simp at hx;subst hx;exact Hb)
def runOkB (r f t:Int):Bool:=decide (0<=r/\ r<8/\ 1<=f/\ f<=t/\ t<=1000000000)
def apartB (r t r' f':Int):Bool:=decide (r<r' \/(r=r'/\ t+1<f'))
theorem runOk_true {r f t:Int}(h:0<=r/\ r<8/\ 1<=f/\ f<=t/\ t<=1000000000):runOkB r f t=true:=by unfold runOkB;exact decide_eq_true h
theorem runOk_false {r f t:Int}(h:¬(0<=r/\ r<8/\ 1<=f/\ f<=t/\ t<=1000000000)):runOkB r f t=false:=by unfold runOkB;exact decide_eq_false h
theorem runOk_iff {r f t:Int}:runOkB r f t=true↔(0<=r/\ r<8/\ 1<=f/\ f<=t/\ t<=1000000000):=by unfold runOkB;simp
theorem retB {a b:Bool}(h:a=b):Ending.returned (.bool a)=.returned (.bool b):=by rw [h]
theorem ret_int {k:IntKind}{a b:Int}(h:a=b):Ending.returned (.int k a)=.returned (.int k b):=by rw [h]
theorem Tryz.infoRun:(Tryz.prog.info? 96).map (fun i=>(i.zero,i.size,i.bytes))=some (some (.agg #[.int .i64 0,.int .i64 0,.int .i64 0]),3,24):=by kernel_rfl
theorem bcell {W w1:World}(hb:Below W.heap.size W w1):(∀b o,b<W.heap.size ->w1.cell? ⟨b,o,none⟩=W.cell? ⟨b,o,none⟩)/\ (∀b o,b<W.heap.size ->w1.frozen? ⟨b,o,none⟩=W.frozen? ⟨b,o,none⟩):=
 ⟨fun b o h=>hb.cell (p:=⟨b,o,none⟩) h,fun b o h=>hb.frozen (p:=⟨b,o,none⟩) h⟩
theorem owns_below {w w1:World}{B C:Nat}{e:TypeId}{size:Nat}{v:Value}{n:Nat}{xs:List Value}(h:w.ownsRow B e size v n xs)(hb:Below C w w1)(hc:∀k,v.ownBlock=some k ->k<C):w1.ownsRow B e size v n xs:=by
 obtain⟨h1,h2⟩:=h;refine⟨h1,?_⟩;rcases h2 with h2|⟨g,Ha,Hb,rfl,Hc,hg,r⟩
 ·exact .inl h2
 ·exact .inr ⟨g,Ha,Hb,rfl,Hc,by rw [hb.block g (hc g rfl)];exact hg,r⟩
def Seg (w:World)(a:Option Addr)(n:Nat)(f:Nat ->Int):Prop:=
 n=0 \/∃b off,a=some ⟨b,off,none⟩/\ b<w.heap.size/\∀i,i<n ->w.cell? ⟨b,off+i,none⟩=some (.int .u8 (f i))
def Byt (f:Nat ->Int):Prop:=∀i,0<=f i/\ f i<256
theorem Seg.below {w w':World}{a:Option Addr}{n:Nat}{f:Nat ->Int}(h:Seg w a n f)(hb:Below w.heap.size w w'):Seg w' a n f:=by
 rcases h with h|⟨b,Hb,rfl,Ha,hc⟩
 ·exact .inl h
 ·exact .inr ⟨b,Hb,rfl,Nat.lt_of_lt_of_le Ha hb.size,fun i hi=>(hb.cell (p:=⟨b,Hb+i,none⟩) Ha).trans (hc i hi)⟩
theorem Tryz.infoByte:(Tryz.prog.info? 5).map (fun i=>(i.zero,i.size,i.bytes))=some (some (.int .u8 0),1,1):=by kernel_rfl
theorem seg_of {w:World}{a0:Option Addr}{len0 cap0:Nat}{z0:List Int}
  (w0:(a0=none/\ len0=0/\ cap0=0/\ z0=[]) \/
   ∃x,a0=some x/\ len0<=cap0/\ cap0<=maxLen/\ z0.length=cap0/\ (∀i,i<z0.length ->w.cell? (x.add i)=some (.int .u8 (z0.getD i 0)))/\∀n∈z0,(Lit.int .u8 n).wf=true):
  Seg w a0 len0 (fun i=>z0.getD i 0)/\ Byt (fun i=>z0.getD i 0)/\ len0<=9223372036854775807:=by
 rcases w0 with ⟨rfl,rfl,rfl,rfl⟩|⟨⟨b,Hf,sp⟩,rfl,hl,hm,hz,Ha,He⟩
 ·exact⟨.inl rfl,fun i=>by simp,by omega⟩
 ·refine⟨?_,fun i=> ?_,by unfold maxLen at hm;omega⟩
  ·by_cases h0:len0=0
   ·exact .inl h0
   ·have Hb:=Ha 0 (by omega);have Hd:sp=none:=by simpa [Addr.add] using World.cell?_spot Hb
    subst Hd;refine .inr ⟨b,Hf,rfl,block_lt_of_cell Hb,fun i hi=> ?_⟩;have h:=Ha i (by omega);by_cases Hc:i=0
    ·subst Hc;simpa [Addr.add] using h
    ·simpa [Addr.add,Hc] using h
  ·by_cases hi:i<z0.length
   ·have:=He (z0.getD i 0) (by simp [List.getD,hi]);have b:=bounds_u8 this;show 0<=z0.getD i 0/\ z0.getD i 0<256;omega
   ·simp [List.getD,hi]
def Own (w:World)(B:Nat)(v:Value)(zs:List Int):Prop:=w.ownsRow B 5 1 v zs.length (zs.map (Value.int .u8))
theorem Own.kept {w w1:World}{B C:Nat}{v:Value}{zs:List Int}(h:Own w B v zs)(hb:Below C w w1)(hc:∀k,v.ownBlock=some k ->k<C):Own w1 B v zs:=by
 obtain⟨h1,h2⟩:=h;refine⟨h1,?_⟩;rcases h2 with h2|⟨g,Ha,Hb,rfl,Hc,hg,r⟩
 ·exact .inl h2
 ·exact .inr ⟨g,Ha,Hb,rfl,Hc,by rw [hb.block g (hc g rfl)];exact hg,r⟩
theorem Own.shape {w:World}{B:Nat}{v:Value}{zs:List Int}(h:Own w B v zs)(hz:zs≠[]):
  ∃g Ha,v=.slice (some ⟨g,0,none⟩) zs.length Ha/\ B<=g/\ g<w.heap.size/\ zs.length<=Ha/\ Ha<=maxLen/\
   (∀j u,(zs.map (Value.int .u8))[j]? =some u ->w.cell? ((⟨g,0,none⟩:Addr).add j)=some u)/\ Seg w (some ⟨g,0,none⟩) zs.length (fun i=>zs.getD i 0):=by
 have h':=h;obtain⟨h1,h2⟩:=h;rcases h2 with ⟨_,h2⟩|⟨g,Ha,Hd,rfl,Hc,hg,hn,hm,r⟩
 ·exact absurd (List.eq_nil_of_length_eq_zero h2) hz
 ·have Hb:=(h'.lt g rfl).2;refine⟨g,Ha,rfl,Hc,Hb,hn,hm,h'.cells rfl,.inr ⟨g,0,rfl,Hb,fun i hi=> ?_⟩⟩;rw [Nat.zero_add,World.ownsRow.cellAt h' i (by omega)];simp [hi,List.getD]
theorem bytesOf {zs:List Int}(h:∀z∈zs,0<=z/\ z<256):Byt (fun i=>zs.getD i 0):=by
 intro i;by_cases hi:i<zs.length
 ·have:=h (zs.getD i 0) (by simp [List.getD,hi]);exact this
 ·simp [List.getD,hi]
def strInts (s:ByteArray):List Int:=s.data.toList.map fun b=>(b.toNat:Int)
theorem strInts_length (s:ByteArray):(strInts s).length=s.size:=by
 rw [strInts,List.length_map,Array.length_toList];rfl
theorem strInts_cells (s:ByteArray):(strInts s).map (Value.int .u8)=Lib.strCells s:=by
 simp [strInts,Lib.strCells,List.map_map,Function.comp_def]
theorem strInts_byte (s:ByteArray):∀z∈strInts s,0<=z/\ z<256:=by
 intro z hz;simp only [strInts,List.mem_map] at hz;obtain⟨b,_,rfl⟩:=hz;have:=b.toNat_lt;omega
theorem bytesOfStr (s:ByteArray)(w:World):∃cap w',(convert 9 22 (.string s)).run Tryz.prog w=.ok (.slice (some ⟨w.heap.size,0,none⟩) s.size cap) w'/\ Below w.heap.size w w'/\ w.heap.size<w'.heap.size/\
  ∀j u,(Lib.strCells s)[j]? =some u ->w'.cell? ((⟨w.heap.size,0,none⟩:Addr).add j)=some u:=by
 refine⟨_,_,run_bytes_of_string (P:=Tryz.prog) w 9 22 5 s Tryz.underlying9 Tryz.underlying22 Tryz.underlying5,?_,?_,?_⟩
 ·exact(Below.refl _ _).drew.alloc (Nat.le_refl _) _
 ·simp
 ·intro j u hj;have Ha:j<s.size:=by
   have:=(List.getElem?_eq_some_iff.1 hj).1;rw [Lib.strCells_length] at this;exact this
  have hc:∀(C:Array Value) (fr:Nat×Nat),(w.drew.alloc (.cells C 5 fr)).cell? ⟨w.heap.size,j,none⟩=C[j]? :=by
   intro C fr;exact cell_of_row _ _ _ _ _ _ (heap_alloc_new w.drew _)
  have e:((⟨w.heap.size,0,none⟩:Addr).add j)=⟨w.heap.size,j,none⟩:=by
   by_cases h0:j=0
   ·subst h0;rfl
   ·simp [Addr.add,h0]
  rw [e,hc];simp only [bytesRow];rw [Array.getElem?_append_left (by simp;exact Ha)];simp only [Lib.strCells] at hj;rw [<- hj];simp
theorem specRunOk (r f t:Int)(w:World):
  Calls Tryz.prog 63 #[.agg #[.int .i64 r,.int .i64 f,.int .i64 t]] w fun e w'=>e=.returned (.bool (runOkB r f t))/\ Below w.heap.size w w':=by
 by_cases h1:0<=r
 ·by_cases h2:r<8
  ·by_cases h3:1<=f
   ·by_cases h4:f<=t
    ·by_cases h5:t<=1000000000
     ·have HE:=hid (runOk_true ⟨h1,h2,h3,h4,h5⟩);go_enter Tryz.func63,Tryz.ntmps63;go_wp2_with fail;go_ret;exact⟨retB HE.out.symm,(Below.refl _ _).alloc (Nat.le_refl _) _⟩
     ·have HE:=hid (runOk_false (r:=r) (f:=f) (t:=t) (by omega));go_enter Tryz.func63,Tryz.ntmps63;go_wp2_with fail;go_ret;exact⟨retB HE.out.symm,(Below.refl _ _).alloc (Nat.le_refl _) _⟩
    ·have HE:=hid (runOk_false (r:=r) (f:=f) (t:=t) (by omega));go_enter Tryz.func63,Tryz.ntmps63;go_wp2_with fail;go_ret;exact⟨retB HE.out.symm,(Below.refl _ _).alloc (Nat.le_refl _) _⟩
   ·have HE:=hid (runOk_false (r:=r) (f:=f) (t:=t) (by omega));go_enter Tryz.func63,Tryz.ntmps63;go_wp2_with fail;go_ret;exact⟨retB HE.out.symm,(Below.refl _ _).alloc (Nat.le_refl _) _⟩
  ·have HE:=hid (runOk_false (r:=r) (f:=f) (t:=t) (by omega));go_enter Tryz.func63,Tryz.ntmps63;go_wp2_with fail;go_ret;exact⟨retB HE.out.symm,(Below.refl _ _).alloc (Nat.le_refl _) _⟩
 ·have HE:=hid (runOk_false (r:=r) (f:=f) (t:=t) (by omega));go_enter Tryz.func63,Tryz.ntmps63;go_wp2_with fail;go_ret;exact⟨retB HE.out.symm,(Below.refl _ _).alloc (Nat.le_refl _) _⟩
theorem repOk_yes (r:Int)(w:World)(h1:0<=r)(h2:r<8):
  Calls Tryz.prog 30 #[.int .i64 r] w fun e w'=>e=.returned (.bool true)/\ w'=w:=by
 go_enter Tryz.func30,Tryz.ntmps30;go_wp2_with fail;go_ret;exact⟨rfl,rfl⟩
theorem repOk_no (r:Int)(w:World)(h:¬(0<=r/\ r<8)):
  Calls Tryz.prog 30 #[.int .i64 r] w fun e w'=>e=.returned (.bool false)/\ w'=w:=by
 by_cases h1:0<=r
 ·have h2:decide (r<8)=false:=by simp;omega
  go_enter Tryz.func30,Tryz.ntmps30;go_wp2_with fail;go_ret;exact⟨rfl,rfl⟩
 ·go_enter Tryz.func30,Tryz.ntmps30;go_wp2_with fail;go_ret;exact⟨rfl,rfl⟩
theorem implRunOk (r f t:Int)(w:World):
  Calls Tryz.prog 139 #[.agg #[.int .i64 r,.int .i64 f,.int .i64 t]] w fun e w'=>e=.returned (.bool (runOkB r f t))/\ Below w.heap.size w w':=by
 by_cases Ha:0<=r/\ r<8
 ·obtain⟨h1,h2⟩:=Ha;have HC:=hid (repOk_yes r (w.alloc (.cells #[.int .i64 r,.int .i64 f,.int .i64 t] 96)) h1 h2);by_cases h3:1<=f
  ·by_cases h4:f<=t
   ·by_cases h5:t<=1000000000
    ·have HE:=hid (runOk_true ⟨h1,h2,h3,h4,h5⟩);go_enter Tryz.func139,Tryz.ntmps139;go_wp2_with fail;refine HC.out.mono ?_;rintro e w1 ⟨rfl,rfl⟩;go_wp2_with fail;go_ret;exact⟨retB HE.out.symm,(Below.refl _ _).alloc (Nat.le_refl _) _⟩
    ·have Hb:decide (t<=1000000000)=false:=by simp;omega
     have HE:=hid (runOk_false (r:=r) (f:=f) (t:=t) (by omega));go_enter Tryz.func139,Tryz.ntmps139;go_wp2_with fail;refine HC.out.mono ?_;rintro e w1 ⟨rfl,rfl⟩;go_wp2_with fail;go_ret;exact⟨retB HE.out.symm,(Below.refl _ _).alloc (Nat.le_refl _) _⟩
   ·have HE:=hid (runOk_false (r:=r) (f:=f) (t:=t) (by omega));go_enter Tryz.func139,Tryz.ntmps139;go_wp2_with fail;refine HC.out.mono ?_;rintro e w1 ⟨rfl,rfl⟩;go_wp2_with fail;go_ret;exact⟨retB HE.out.symm,(Below.refl _ _).alloc (Nat.le_refl _) _⟩
  ·have HE:=hid (runOk_false (r:=r) (f:=f) (t:=t) (by omega));go_enter Tryz.func139,Tryz.ntmps139;go_wp2_with fail;refine HC.out.mono ?_;rintro e w1 ⟨rfl,rfl⟩;go_wp2_with fail;go_ret;exact⟨retB HE.out.symm,(Below.refl _ _).alloc (Nat.le_refl _) _⟩
 ·have HC:=hid (repOk_no r (w.alloc (.cells #[.int .i64 r,.int .i64 f,.int .i64 t] 96)) Ha);have HE:=hid (runOk_false (r:=r) (f:=f) (t:=t) (by omega));clear Ha;go_enter Tryz.func139,Tryz.ntmps139;go_wp2_with fail;refine HC.out.mono ?_;rintro e w1 ⟨rfl,rfl⟩;go_wp2_with fail;go_ret;exact⟨retB HE.out.symm,(Below.refl _ _).alloc (Nat.le_refl _) _⟩
theorem apart_true {r t r' f':Int}(h:r<r' \/(r=r'/\ t+1<f')):apartB r t r' f'=true:=by unfold apartB;exact decide_eq_true h
theorem apart_false {r t r' f':Int}(h:¬(r<r' \/(r=r'/\ t+1<f'))):apartB r t r' f'=false:=by unfold apartB;exact decide_eq_false h
theorem below2 (w:World)(o o':Obj):Below w.heap.size w ((w.alloc o).alloc o'):=((Below.refl _ _).alloc (Nat.le_refl _) _).alloc (by simp) _
theorem specApart (r f t r' f' t':Int)(w:World)(h0:0<=t)(h1:t<=1000000000):
  Calls Tryz.prog 64 #[.agg #[.int .i64 r,.int .i64 f,.int .i64 t],.agg #[.int .i64 r',.int .i64 f',.int .i64 t']] w fun e w'=>e=.returned (.bool (apartB r t r' f'))/\ Below w.heap.size w w':=by
 by_cases c1:r<r'
 ·have HE:=hid (apart_true (t:=t) (f':=f') (.inl c1));go_enter Tryz.func64,Tryz.ntmps64;go_wp2_with fail;go_ret;exact⟨retB HE.out.symm,below2 _ _ _⟩
 ·by_cases c2:r=r'
  ·subst c2;by_cases c3:t+1<f'
   ·have HE:=hid (apart_true (r:=r) (r':=r) (.inr ⟨rfl,c3⟩));go_enter Tryz.func64,Tryz.ntmps64;go_wp2_with fail;go_ret;exact⟨retB HE.out.symm,below2 _ _ _⟩
   ·have HE:=hid (apart_false (r:=r) (r':=r) (t:=t) (f':=f') (by omega));go_enter Tryz.func64,Tryz.ntmps64;go_wp2_with fail;go_ret;exact⟨retB HE.out.symm,below2 _ _ _⟩
  ·have c3:(r==r')=false:=by simp;exact c2
   have HE:=hid (apart_false (r:=r) (r':=r') (t:=t) (f':=f') (by omega));go_enter Tryz.func64,Tryz.ntmps64;go_wp2_with fail;go_ret;exact⟨retB HE.out.symm,below2 _ _ _⟩
theorem implFollows (r f t r' f' t':Int)(w:World)(h0:0<=t)(h1:t<=1000000000):
  Calls Tryz.prog 140 #[.agg #[.int .i64 r',.int .i64 f',.int .i64 t'],.agg #[.int .i64 r,.int .i64 f,.int .i64 t]] w fun e w'=>e=.returned (.bool (apartB r t r' f'))/\ Below w.heap.size w w':=by
 by_cases c2:r'=r
 ·subst c2;by_cases c3:t+1<f'
  ·have HE:=hid (apart_true (r:=r') (r':=r') (.inr ⟨rfl,c3⟩));go_enter Tryz.func140,Tryz.ntmps140;go_wp2_with fail;go_ret;exact⟨retB HE.out.symm,below2 _ _ _⟩
  ·have HE:=hid (apart_false (r:=r') (r':=r') (t:=t) (f':=f') (by omega));go_enter Tryz.func140,Tryz.ntmps140;go_wp2_with fail;go_ret;exact⟨retB HE.out.symm,below2 _ _ _⟩
 ·have c3:(r' !=r)=true:=by simp;exact c2
  by_cases c1:r<r'
  ·have HE:=hid (apart_true (t:=t) (f':=f') (.inl c1));go_enter Tryz.func140,Tryz.ntmps140;go_wp2_with fail;go_ret;exact⟨retB HE.out.symm,below2 _ _ _⟩
  ·have HE:=hid (apart_false (r:=r) (r':=r') (t:=t) (f':=f') (by omega));go_enter Tryz.func140,Tryz.ntmps140;go_wp2_with fail;go_ret;exact⟨retB HE.out.symm,below2 _ _ _⟩
def okTo (R F T:Nat ->Int)(k:Nat):Prop:=∀i,i<k ->runOkB (R i) (F i) (T i)=true/\ (0<i ->apartB (R (i - 1)) (T (i - 1)) (R i) (F i)=true)
def okToB (R F T:Nat ->Int):Nat ->Bool
 | 0=>true
 | k+1=>okToB R F T k && (runOkB (R k) (F k) (T k) && (k==0||apartB (R (k - 1)) (T (k - 1)) (R k) (F k)))
def ctxB (R F T:Nat ->Int)(n:Nat):Bool:=okToB R F T n && decide (n<=1000)
theorem okToB_iff {R F T:Nat ->Int}:∀k:Nat,okToB R F T k=true↔okTo R F T k
 | 0=>⟨fun _ i hi=>by omega,fun _=>rfl⟩
 | k+1=>by
  have ih:=okToB_iff (R:=R) (F:=F) (T:=T) k;constructor
  ·intro h;simp only [okToB,Bool.and_eq_true,Bool.or_eq_true,beq_iff_eq] at h;intro i hi;by_cases e:i=k
   ·subst e;exact⟨h.2.1,fun h0=>by rcases h.2.2 with h'|h';omega;exact h'⟩
   ·exact ih.1 h.1 i (by omega)
  ·intro h;simp only [okToB,Bool.and_eq_true,Bool.or_eq_true,beq_iff_eq];refine⟨ih.2 (fun i hi=>h i (by omega)),(h k (by omega)).1,?_⟩;by_cases h0:k=0
   ·exact .inl h0
   ·exact .inr ((h k (by omega)).2 (by omega))
theorem ctxB_iff {R F T:Nat ->Int}{n:Nat}:ctxB R F T n=true↔okTo R F T n/\ n<=1000:=by
 unfold ctxB;rw [Bool.and_eq_true,okToB_iff,decide_eq_true_iff]
theorem ctxB_false {R F T:Nat ->Int}{n:Nat}(h:¬(okTo R F T n/\ n<=1000)):ctxB R F T n=false:=by
 cases e:ctxB R F T n with
 | false=>rfl
 | true=>exact absurd (ctxB_iff.1 e) h
theorem okTo_succ {R F T:Nat ->Int}{k:Nat}(h:okTo R F T k)(h1:runOkB (R k) (F k) (T k)=true)(h2:0<k ->apartB (R (k - 1)) (T (k - 1)) (R k) (F k)=true):okTo R F T (k+1):=by
 intro i hi;by_cases e:i=k
 ·subst e;exact⟨h1,h2⟩
 ·exact h i (by omega)
theorem keepS {wr w1 w2:World}(h1:Below wr.heap.size wr w1)(b2:Below w1.heap.size w1 w2):Below wr.heap.size wr w2:=h1.trans (b2.mono h1.size)
theorem take1 {P:Program}{ops:Array Oper}{Q:Exit ->Act ->World ->Prop}{md:Region.Mode}{S:World ->Prop}{i:Nat}{d:Option Tmp}{v:Value}{fuel:Nat}{listed:Array Bool}{a:Act}{w:World}
  (hd:ops[i]?.map (fun o=>o.dst)=some d) (hs:Region.noSelect ops=true) (hf:Region.free md ops listed i=true) (hr:(Region.ready md ops listed).contains i=true)
  (hQ:∀c a w,Q (.panic c) (a.put d v) w ->Q (.panic c) a w) (hy:∀o,ops[i]? =some o ->YieldsIf P ops S o v a) (hS:S w)
  (h:wpAnyH P md ops Q S fuel (listed.setIfInBounds i true) (a.put d v) w):wpAnyH P md ops Q S (fuel+1) listed a w:=by
 obtain⟨o,ho,rfl⟩:=Option.map_eq_some_iff.1 hd;exact wpAnyH_take ho hs hf hr hQ (hy o ho) hS h
theorem call1 {P:Program}{ops:Array Oper}{Q:Exit ->Act ->World ->Prop}{md:Region.Mode}{S:World ->Prop}{i:Nat}{d:Option Tmp}{fuel:Nat}{listed:Array Bool}{a:Act}{w:World}
  (hd:ops[i]?.map (fun o=>o.dst)=some d) (hr:Region.ready md ops listed=[i])
  (h:∀o,ops[i]? =some o ->o.dst=d ->∀K':Act ->World ->Prop,Shut (∀a w,S w ->(S w ->wpAnyH P md ops Q S fuel (listed.setIfInBounds i true) a w) ->K' a w) ->if Region.wanted o (yielded ops a.tmps)=true then Oper.wp P o a w K' Q else K' (a.put o.dst undef) w):
  wpAnyH P md ops Q S (fuel+1) listed a w:=by
 obtain⟨o,ho,Ha⟩:=Option.map_eq_some_iff.1 hd;exact wpAnyH_ready hr (by simp) (AllReadyH.cons ho (h o ho Ha) AllReadyH.nil)
theorem gZa {α:Type}{l:List α}{i:Nat}:l.toArray[i]? =l[i]? :=List.getElem?_toArray
theorem gZb {α:Type}{a:α}{l:List α}{i:Nat}:(a::l)[i+1]? =l[i]? :=List.getElem?_cons_succ
theorem gZc {α:Type}{a:α}{l:List α}:(a::l)[0]? =some a:=List.getElem?_cons_zero
theorem gZd {α:Type}{a b:α}:(some a=some b)=(a=b):=Option.some.injEq a b
theorem sZa {α:Type}(l:List α)(i:Nat)(a:α):l.toArray.setIfInBounds i a=(l.set i a).toArray:=by simp
theorem sZb {α:Type}{a b:α}{l:List α}:(a::l).set 0 b=b::l:=List.set_cons_zero
theorem sZc {α:Type}{a b:α}{l:List α}{i:Nat}:(a::l).set (i+1) b=a::l.set i b:=List.set_cons_succ
theorem tk {P:Program}{ops:Array Oper}{Q:Exit ->Act ->World ->Prop}{md:Region.Mode}{S:World ->Prop}(i:Nat)(d:Tmp)(v:Value){fuel:Nat}{listed:Array Bool}{a:Act}{w:World}
  (hb:((ops[i]?.map (fun o=>o.dst)==some (some d)) && (Region.noSelect ops && (Region.free md ops listed i && (Region.ready md ops listed).contains i)))=true)
  (hQ:∀c a w,Q (.panic c) (a.put (some d) v) w ->Q (.panic c) a w) (hy:∀o,ops[i]? =some o ->YieldsIf P ops S o v a) (hS:S w)
  (h:wpAnyH P md ops Q S fuel (listed.setIfInBounds i true) (a.put (some d) v) w):wpAnyH P md ops Q S (fuel+1) listed a w:=by
 rw [Bool.and_eq_true,Bool.and_eq_true,Bool.and_eq_true] at hb;exact take1 (eq_of_beq hb.1) hb.2.1 hb.2.2.1 hb.2.2.2 hQ hy hS h
theorem tZ {P:Program}{ops:Array Oper}{Q:Exit ->Act ->World ->Prop}{md:Region.Mode}{S:World ->Prop}(i:Nat)(d:Tmp){v:Value}{fuel:Nat}{listed:Array Bool}{a b:Act}{w:World}
  (h:wpAnyH P md ops Q S fuel (listed.setIfInBounds i true) b w) (hS:S w:=by assumption)
  (hb:((ops[i]?.map (fun o=>o.dst)==some (some d)) && (Region.noSelect ops && (Region.free md ops listed i && (Region.ready md ops listed).contains i)))=true:=by kernel_rfl)
  (hQ:∀c a w,Q (.panic c) (a.put (some d) v) w ->Q (.panic c) a w:=by exact fun _ _ _ h=>h)
  (hy:∀o,ops[i]? =some o ->YieldsIf P ops S o v a:=by intro o ho;simp only [gZa,gZb,gZc,gZd] at ho;subst ho;refine Or.inl ⟨by rfl,?_⟩;intro w Ha;(try dsimp only at Ha);go_simp;try with_reducible rfl)
  (hp:a.put (some d) v=b:=by simp only [Act.put,sZa,sZb,sZc];rfl):wpAnyH P md ops Q S (fuel+1) listed a w:=tk i d v hb hQ hy hS (hp ▸ h)
theorem uZ {P:Program}{ops:Array Oper}{Q:Exit ->Act ->World ->Prop}{md:Region.Mode}{S:World ->Prop}(i:Nat)(d:Tmp){fuel:Nat}{listed:Array Bool}{a b:Act}{w:World}
  (h:wpAnyH P md ops Q S fuel (listed.setIfInBounds i true) b w) (hS:S w:=by assumption)
  (hb:((ops[i]?.map (fun o=>o.dst)==some (some d)) && (Region.noSelect ops && (Region.free md ops listed i && (Region.ready md ops listed).contains i)))=true:=by kernel_rfl)
  (hQ:∀c a w,Q (.panic c) (a.put (some d) undef) w ->Q (.panic c) a w:=by exact fun _ _ _ h=>h)
  (hy:∀o,ops[i]? =some o ->YieldsIf P ops S o undef a:=by intro o ho;simp only [gZa,gZb,gZc,gZd] at ho;subst ho;exact Or.inr ⟨by rfl,rfl⟩)
  (hp:a.put (some d) undef=b:=by simp only [Act.put,sZa,sZb,sZc];rfl):wpAnyH P md ops Q S (fuel+1) listed a w:=tk i d undef hb hQ hy hS (hp ▸ h)
theorem cZ {P:Program}{ops:Array Oper}{Q:Exit ->Act ->World ->Prop}{md:Region.Mode}{S:World ->Prop}(i:Nat){o:Oper}{fuel:Nat}{listed:Array Bool}{a:Act}{w:World}
  (h:∀K':Act ->World ->Prop,Shut (∀a w,S w ->(S w ->wpAnyH P md ops Q S fuel (listed.setIfInBounds i true) a w) ->K' a w) ->if Region.wanted o (yielded ops a.tmps)=true then Oper.wp P o a w K' Q else K' (a.put o.dst undef) w)
  (hr:Region.ready md ops listed=[i]:=by kernel_rfl) (ho:ops[i]? =some o:=by simp only [gZa,gZb,gZc];rfl):wpAnyH P md ops Q S (fuel+1) listed a w:=
 call1 (d:=o.dst) (by rw [ho];rfl) hr (fun o' h1 _=>by rw [ho] at h1;cases h1;exact h)
theorem zO (w:World)(o:Obj):Below w.heap.size w (w.alloc o):=(Below.refl _ _).alloc (Nat.le_refl _) o
theorem zL {n:Nat}:n<=n:=Nat.le_refl n
theorem zI {B:Nat}{w:World}:Below B w w:=Below.refl B w
theorem zH (w:World)(a:Addr)(u:Value)(k:Nat)(h:k≠a.block):(w.setCell a u).heap[k]? =w.heap[k]? :=Below.heap_setCell w a u k h
theorem zP:(∀(a:Act) (v:Value),a.put none v=a)/\ (∀(t:Array Value) (d) (i:Nat) (v:Value),(Act.mk t d).put (some i) v=Act.mk (t.setIfInBounds i v) d)/\ (∀(l:List Value) (i:Nat) (a:Value),l.toArray.setIfInBounds i a=(l.set i a).toArray)/\ (∀(a b:Value) (l:List Value),(a::l).set 0 b=b::l)/\∀(a b:Value) (l:List Value) (i:Nat),(a::l).set (i+1) b=a::l.set i b:=⟨fun _ _=>rfl,fun _ _ _ _=>rfl,fun _ _ _=>by simp,fun _ _ _=>rfl,fun _ _ _ _=>rfl⟩
theorem zD {P:Program}{ops:Array Oper}{Q:Exit ->Act ->World ->Prop}{md:Region.Mode}{S:World ->Prop}{fuel:Nat}{listed:Array Bool}{a:Act}{w:World}(h:Q .normal a w)(hr:Region.ready md ops listed=[]:=by kernel_rfl):wpAnyH P md ops Q S fuel listed a w:=wpAnyH_done hr h fuel
theorem zR {P:Program}{ops:Array Oper}{Q:Exit ->Act ->World ->Prop}{S:World ->Prop}{id:Nat}{a:Act}{w:World}(hS:S w.drew)(h:S w.drew ->wpAnyH P .any ops Q S ops.size (Array.replicate ops.size false) a w.drew)(hm:P.follows .mixedOrders=true:=by kernel_rfl):(Code.region id ops true).wp P Q a w:=wp_region_held_drew hm hS h
theorem zF {P:Program}{fn:Func}{R:Ending ->World ->Prop}{a:Act}{w:World}{v:Value}(hr:(results fn a.tmps).run P w=.ok v w)(hR:R (.returned v) w)(hd:a.defers=[]:=by rfl):bodyPost P fn R .ret a w:=bodyPost_ret hr hd hR
theorem wrapIn (x:Int)(h0: -9223372036854775808<=x)(h1:x<=9223372036854775807):IntKind.i64.wrap x=x:=by
 rw [IntKind.wrap_i64];omega
theorem ok_false_run {R F T:Nat ->Int}{n k:Nat}(hk:k<n)(h:runOkB (R k) (F k) (T k)=false):ctxB R F T n=false:=ctxB_false fun⟨h1,_⟩=>by
 have:=(h1 k hk).1;rw [h] at this;cases this
theorem ok_false_apart {R F T:Nat ->Int}{n k:Nat}(hk:k<n)(h0:0<k)(h:apartB (R (k - 1)) (T (k - 1)) (R k) (F k)=false):ctxB R F T n=false:=ctxB_false fun⟨h1,_⟩=>by
 have:=(h1 k hk).2 h0;rw [h] at this;cases this
theorem specOk (a:Option Addr)(n c:Nat)(R F T:Nat ->Int)(w:World)(hn:n<=1048576)(h:RSeg w a n R F T):
  Calls Tryz.prog 38 #[.agg #[.slice a n c]] w fun e w'=>e=.returned (.bool (ctxB R F T n))/\ Below w.heap.size w w':=by
 rcases h with h|⟨b,Hc,rfl,hb,hc⟩
 ·subst h;have HF:Hid (ctxB R F T 0=true):=ctxB_iff.2 ⟨fun i hi=>by omega,by omega⟩;go_enter Tryz.func38,Tryz.ntmps38;go_wp2_with fail;refine wp_loop_rounds 1 ?_;rw [rounds_succ];go_wp2_with fail;go_ret;exact⟨retB HF.out.symm,zO _ _⟩
 ·go_enter Tryz.func38,Tryz.ntmps38;go_wp2_with fail;go_loopw [3] (fun i wr=>∃k:Nat,k<=n/\ i=.int .i64 k/\ okTo R F T k/\ wr.cell? ⟨w.heap.size,0,none⟩=some (.slice (some ⟨b,Hc,none⟩) n c)/\ Below w.heap.size w wr/\ w.heap.size<wr.heap.size) (fun i _=>n - (intOf i).toNat);case atStart=>exact⟨0,Nat.zero_le _,rfl,fun i hi=>by omega,by simp,zO _ _,by simp⟩
  case round=>
   obtain⟨k,hk,rfl,Hl,He,Ha,Hn⟩:=hrel;have Hb:=Nat.lt_of_lt_of_le hb Ha.size;by_cases Hm:k<n
   ·have Hk:wr.cell? ⟨b,Hc+k*3,none⟩=some (.int .i64 (R k)):=(Ha.cell (p:=⟨b,_,none⟩) hb).trans (hc k Hm).1;have Hf:wr.cell? ⟨b,Hc+k*3+1,none⟩=some (.int .i64 (F k)):=(Ha.cell (p:=⟨b,_,none⟩) hb).trans (hc k Hm).2.1;have Hg:wr.cell? ⟨b,Hc+k*3+2,none⟩=some (.int .i64 (T k)):=(Ha.cell (p:=⟨b,_,none⟩) hb).trans (hc k Hm).2.2;have Hq:(0:Int)<=(k:Int):=Int.natCast_nonneg _;have Hr:(k:Int)<(n:Int):=by omega
    have HB:=hid Ha;have HO:=hid Hl;cases hr:runOkB (R k) (F k) (T k) with
    | false=>
     have HR:=hid hr;clear hr hc Ha Hl;go_wp2_with fail;refine zR (S:=fun w'=>Below wr.heap.size wr w'/\ w'.cell? ⟨w.heap.size,0,none⟩=some (.slice (some ⟨b,Hc,none⟩) n c)/\ w'.cell? ⟨b,Hc+k*3,none⟩=some (.int .i64 (R k))/\ w'.cell? ⟨b,Hc+k*3+1,none⟩=some (.int .i64 (F k))/\ w'.cell? ⟨b,Hc+k*3+2,none⟩=some (.int .i64 (T k))) ⟨zI.drew,He,Hk,Hf,Hg⟩ (fun qh=> ?_);refine tZ 0 11 ?_;refine tZ 1 12 ?_;refine tZ 2 13 ?_;refine tZ 3 14 ?_;refine tZ 4 15 ?_;refine cZ 5 ?_;intro K hK;go_simp;refine(specRunOk _ _ _ _).mono ?_;rintro e w2 ⟨rfl,b2⟩;rw [HR.out];have hB:=keepS qh.1 b2;refine hK.out _ _ ⟨hB,(hB.cell (p:=⟨w.heap.size,0,none⟩) Hn).trans He,(hB.cell (p:=⟨b,_,none⟩) Hb).trans Hk,(hB.cell (p:=⟨b,_,none⟩) Hb).trans Hf,(hB.cell (p:=⟨b,_,none⟩) Hb).trans Hg⟩ (fun qh=> ?_);clear hK K;try simp only [zP]
     refine tZ 6 17 ?_;refine tZ 7 18 ?_;refine uZ 8 19 ?_;refine uZ 9 20 ?_;refine uZ 10 21 ?_;refine uZ 11 22 ?_;refine uZ 12 23 ?_;refine uZ 13 24 ?_;refine uZ 14 25 ?_;refine uZ 15 26 ?_;refine uZ 16 27 ?_;refine uZ 17 28 ?_;refine uZ 18 29 ?_;refine uZ 19 30 ?_;refine uZ 20 31 ?_;refine uZ 21 32 ?_;refine uZ 22 33 ?_;refine uZ 23 34 ?_;refine uZ 24 35 ?_;refine tZ 25 36 ?_;refine zD ?_;have HZ:=hid (keepS (wr:=wr) (w1:=wr) zI hB);clear qh hB b2;go_wp2_with fail;go_ret;exact⟨retB (ok_false_run Hm HR.out).symm,HB.out.trans (HZ.out.mono (by omega))⟩
    | true=>
     have HR:=hid hr;clear hr;by_cases Hj:k=0
     ·have hg:decide (0<k)=false:=by simp;omega
      have HK:=hid Hj;clear hc Ha Hl Hj;go_wp2_with fail;refine zR (S:=fun w'=>Below wr.heap.size wr w'/\ w'.cell? ⟨w.heap.size,0,none⟩=some (.slice (some ⟨b,Hc,none⟩) n c)/\ w'.cell? ⟨b,Hc+k*3,none⟩=some (.int .i64 (R k))/\ w'.cell? ⟨b,Hc+k*3+1,none⟩=some (.int .i64 (F k))/\ w'.cell? ⟨b,Hc+k*3+2,none⟩=some (.int .i64 (T k))) ⟨zI.drew,He,Hk,Hf,Hg⟩ (fun qh=> ?_);refine tZ 0 11 ?_;refine tZ 1 12 ?_;refine tZ 2 13 ?_;refine tZ 3 14 ?_;refine tZ 4 15 ?_;refine cZ 5 ?_;intro K hK;go_simp;refine(specRunOk _ _ _ _).mono ?_;rintro e w2 ⟨rfl,b2⟩;rw [HR.out];have hB:=keepS qh.1 b2;refine hK.out _ _ ⟨hB,(hB.cell (p:=⟨w.heap.size,0,none⟩) Hn).trans He,(hB.cell (p:=⟨b,_,none⟩) Hb).trans Hk,(hB.cell (p:=⟨b,_,none⟩) Hb).trans Hf,(hB.cell (p:=⟨b,_,none⟩) Hb).trans Hg⟩ (fun qh=> ?_);clear hK K;try simp only [zP]
      refine tZ 6 17 ?_;refine tZ 7 18 ?_;refine tZ 8 19 ?_;refine tZ 9 20 ?_;refine tZ 10 21 ?_;refine uZ 11 22 ?_;refine uZ 12 23 ?_;refine uZ 13 24 ?_;refine uZ 14 25 ?_;refine uZ 15 26 ?_;refine uZ 16 27 ?_;refine uZ 17 28 ?_;refine uZ 18 29 ?_;refine uZ 19 30 ?_;refine uZ 20 31 ?_;refine uZ 21 32 ?_;refine uZ 22 33 ?_;refine uZ 23 34 ?_;refine tZ 24 35 ?_;refine tZ 25 36 ?_;refine zD ?_;have HX:=hid qh.2.1;have HZ:=hid hB;clear qh hB b2;go_wp2_with fail;go_roundw;case rel=>exact⟨k+1,Hm,by go_num,okTo_succ HO.out HR.out (fun h=>by have:=HK.out;omega),HX.out,HB.out.trans (HZ.out.mono (by omega)),by have:=HZ.out.size;omega⟩
      case measure=>simp [intOf];omega
     ·have hg:decide (0<k)=true:=by simp;omega
      have Ho:=(Ha.cell (p:=⟨b,Hc+(k - 1)*3,none⟩) hb).trans (hc (k - 1) (by omega)).1;have Hh:=(Ha.cell (p:=⟨b,Hc+(k - 1)*3+1,none⟩) hb).trans (hc (k - 1) (by omega)).2.1;have Hi:=(Ha.cell (p:=⟨b,Hc+(k - 1)*3+2,none⟩) hb).trans (hc (k - 1) (by omega)).2.2;have e0:IntKind.i64.wrap ((k:Int) - 1)=(k:Int) - 1:=wrapIn _ (by omega) (by omega);have e1:((k:Int) - 1).toNat=k - 1:=by omega
      have e2:(1:Int)<=(k:Int):=by omega
      have e3:(k:Int) - 1<(n:Int):=by omega
      have Hp:=runOk_iff.1 (Hl (k - 1) (by omega)).1;have HP:=hid Hp;have HK:=hid Hj;clear hc Ha Hl Hj Hp;go_wp2_with fail;refine zR (S:=fun w'=>Below wr.heap.size wr w'/\ w'.cell? ⟨w.heap.size,0,none⟩=some (.slice (some ⟨b,Hc,none⟩) n c)/\ w'.cell? ⟨b,Hc+k*3,none⟩=some (.int .i64 (R k))/\ w'.cell? ⟨b,Hc+k*3+1,none⟩=some (.int .i64 (F k))/\ w'.cell? ⟨b,Hc+k*3+2,none⟩=some (.int .i64 (T k))/\ w'.cell? ⟨b,Hc+(k - 1)*3,none⟩=some (.int .i64 (R (k - 1)))/\ w'.cell? ⟨b,Hc+(k - 1)*3+1,none⟩=some (.int .i64 (F (k - 1)))/\ w'.cell? ⟨b,Hc+(k - 1)*3+2,none⟩=some (.int .i64 (T (k - 1)))) ⟨zI.drew,He,Hk,Hf,Hg,Ho,Hh,Hi⟩ (fun qh=> ?_);refine tZ 0 11 ?_;refine tZ 1 12 ?_;refine tZ 2 13 ?_;refine tZ 3 14 ?_;refine tZ 4 15 ?_;refine cZ 5 ?_;intro K hK;go_simp;refine(specRunOk _ _ _ _).mono ?_;rintro e w2 ⟨rfl,b2⟩;rw [HR.out];have hB:=keepS qh.1 b2;refine hK.out _ _ ⟨hB,(hB.cell (p:=⟨w.heap.size,0,none⟩) Hn).trans He,(hB.cell (p:=⟨b,_,none⟩) Hb).trans Hk,(hB.cell (p:=⟨b,_,none⟩) Hb).trans Hf,(hB.cell (p:=⟨b,_,none⟩) Hb).trans Hg,(hB.cell (p:=⟨b,_,none⟩) Hb).trans Ho,(hB.cell (p:=⟨b,_,none⟩) Hb).trans Hh,(hB.cell (p:=⟨b,_,none⟩) Hb).trans Hi⟩ (fun qh=> ?_);clear hK K;try simp only [zP]
      refine tZ 6 17 ?_;refine tZ 7 18 ?_;refine tZ 8 19 ?_;refine tZ 9 20 ?_;refine tZ 10 21 ?_;refine tZ 11 22 ?_;refine tZ 12 23 ?_;refine tZ 13 24 ?_;refine tZ 14 25 ?_;refine tZ 15 26 ?_;refine tZ 16 27 ?_;refine tZ 17 28 ?_;refine tZ 18 29 ?_;refine tZ 19 30 ?_;refine tZ 20 31 ?_;refine tZ 21 32 ?_;refine cZ 22 ?_;intro K hK;go_simp;refine(specApart (R (k - 1)) (F (k - 1)) (T (k - 1)) (R k) (F k) (T k) _ (by have:=HP.out;omega) (by have:=HP.out;omega)).mono ?_;rintro e w3 ⟨rfl,b3⟩;have Hd:=keepS hB b3;cases ha:apartB (R (k - 1)) (T (k - 1)) (R k) (F k) with
      | false=>
       have HA:=hid ha;clear ha;refine hK.out _ _ ⟨Hd,(Hd.cell (p:=⟨w.heap.size,0,none⟩) Hn).trans He,(Hd.cell (p:=⟨b,_,none⟩) Hb).trans Hk,(Hd.cell (p:=⟨b,_,none⟩) Hb).trans Hf,(Hd.cell (p:=⟨b,_,none⟩) Hb).trans Hg,(Hd.cell (p:=⟨b,_,none⟩) Hb).trans Ho,(Hd.cell (p:=⟨b,_,none⟩) Hb).trans Hh,(Hd.cell (p:=⟨b,_,none⟩) Hb).trans Hi⟩ (fun qh=> ?_);clear hK K;try simp only [zP]
       refine tZ 23 34 ?_;refine tZ 24 35 ?_;refine tZ 25 36 ?_;refine zD ?_;have HZ:=hid Hd;clear qh hB b2 b3 Hd;go_wp2_with fail;go_ret;exact⟨retB (ok_false_apart Hm (by have:=HK.out;omega) HA.out).symm,HB.out.trans (HZ.out.mono (by omega))⟩
      | true=>
       have HA:=hid ha;clear ha;refine hK.out _ _ ⟨Hd,(Hd.cell (p:=⟨w.heap.size,0,none⟩) Hn).trans He,(Hd.cell (p:=⟨b,_,none⟩) Hb).trans Hk,(Hd.cell (p:=⟨b,_,none⟩) Hb).trans Hf,(Hd.cell (p:=⟨b,_,none⟩) Hb).trans Hg,(Hd.cell (p:=⟨b,_,none⟩) Hb).trans Ho,(Hd.cell (p:=⟨b,_,none⟩) Hb).trans Hh,(Hd.cell (p:=⟨b,_,none⟩) Hb).trans Hi⟩ (fun qh=> ?_);clear hK K;try simp only [zP]
       refine tZ 23 34 ?_;refine tZ 24 35 ?_;refine tZ 25 36 ?_;refine zD ?_;have HX:=hid qh.2.1;have HZ:=hid Hd;clear qh hB b2 b3 Hd e0 e1 e2 e3;go_wp2_with fail;go_roundw;case rel=>exact⟨k+1,Hm,by go_num,okTo_succ HO.out HR.out (fun _=>HA.out),HX.out,HB.out.trans (HZ.out.mono (by omega)),by have:=HZ.out.size;omega⟩
       case measure=>simp [intOf];omega
   ·obtain rfl:k=n:=by omega
    have HB:=hid Ha;by_cases hm:k<=1000
    ·have HF:Hid (ctxB R F T k=true):=ctxB_iff.2 ⟨Hl,hm⟩;have hd:decide ((k:Int)<=1000)=true:=by simp;omega
     clear hc Ha Hl;go_wp2_with fail;go_ret;exact⟨retB HF.out.symm,HB.out⟩
    ·have HF:Hid (ctxB R F T k=false):=ctxB_false fun h=>hm h.2;have hd:decide ((k:Int)<=1000)=false:=by simp;omega
     clear hc Ha Hl;go_wp2_with fail;go_ret;exact⟨retB HF.out.symm,HB.out⟩
theorem implOk (a:Option Addr)(n c:Nat)(R F T:Nat ->Int)(w:World)(hn:n<=1048576)(h:RSeg w a n R F T):
  Calls Tryz.prog 113 #[.agg #[.slice a n c]] w fun e w'=>e=.returned (.bool (ctxB R F T n))/\ Below w.heap.size w w':=by
 by_cases hm:n<=1000;case neg=>
  have HF:Hid (ctxB R F T n=false):=ctxB_false fun h=>hm h.2;go_enter Tryz.func113,Tryz.ntmps113;go_wp2_with fail;go_ret;exact⟨retB HF.out.symm,zO _ _⟩
 rcases h with h|⟨b,Hd,rfl,hb,hc⟩
 ·subst h;have HF:Hid (ctxB R F T 0=true):=ctxB_iff.2 ⟨fun i hi=>by omega,by omega⟩;go_enter Tryz.func113,Tryz.ntmps113;go_wp2_with fail;refine wp_loop_rounds 1 ?_;rw [rounds_succ];go_wp2_with fail;go_ret;exact⟨retB HF.out.symm,zO _ _⟩
 ·go_enter Tryz.func113,Tryz.ntmps113;go_wp2_with fail;go_loopw [12] (fun i wr=>∃k:Nat,k<=n/\ i=.int .i64 k/\ okTo R F T k/\ wr.cell? ⟨w.heap.size,0,none⟩=some (.slice (some ⟨b,Hd,none⟩) n c)/\ Below w.heap.size w wr/\ w.heap.size<wr.heap.size) (fun i _=>n - (intOf i).toNat);case atStart=>exact⟨0,Nat.zero_le _,rfl,fun i hi=>by omega,by simp,zO _ _,by simp⟩
  case round=>
   obtain⟨k,hk,rfl,Hm,Hf,Hb,Hq⟩:=hrel;have Hr:=Nat.lt_of_lt_of_le hb Hb.size;by_cases Hl:k<n
   ·have Ho:wr.cell? ⟨b,Hd+k*3,none⟩=some (.int .i64 (R k)):=(Hb.cell (p:=⟨b,_,none⟩) hb).trans (hc k Hl).1;have Hj:wr.cell? ⟨b,Hd+k*3+1,none⟩=some (.int .i64 (F k)):=(Hb.cell (p:=⟨b,_,none⟩) hb).trans (hc k Hl).2.1;have Hk:wr.cell? ⟨b,Hd+k*3+2,none⟩=some (.int .i64 (T k)):=(Hb.cell (p:=⟨b,_,none⟩) hb).trans (hc k Hl).2.2;have HB:=hid Hb;have HO:=hid Hm;obtain⟨W1,He⟩:∃W1,wr.alloc (.cells #[.int .i64 (R k),.int .i64 (F k),.int .i64 (T k)] 96)=W1:=⟨_,rfl⟩;have zW:wr.heap.size<W1.heap.size:=by rw [<- He];simp
    have zB:w.heap.size<W1.heap.size:=by omega
    have zb:b<W1.heap.size:=by omega
    have bW:Below wr.heap.size wr W1:=by rw [<- He];exact zO _ _
    have Ha:W1.cell? ⟨w.heap.size,0,none⟩=some (.slice (some ⟨b,Hd,none⟩) n c):=(bW.cell (p:=⟨w.heap.size,0,none⟩) Hq).trans Hf;have r0:W1.cell? ⟨wr.heap.size,0,none⟩=some (.int .i64 (R k)):=by rw [<- He];simp
    have r1:W1.cell? ⟨wr.heap.size,1,none⟩=some (.int .i64 (F k)):=by rw [<- He];simp
    have r2:W1.cell? ⟨wr.heap.size,2,none⟩=some (.int .i64 (T k)):=by rw [<- He];simp
    have HW:=hid bW;cases hr:runOkB (R k) (F k) (T k) with
    | false=>
     have HR:=hid hr;clear hr hc Hb Hm bW;go_wp2_with fail;try rw [He]
     clear He Hf Ho Hj Hk;refine zR (S:=fun w'=>Below W1.heap.size W1 w'/\ w'.cell? ⟨w.heap.size,0,none⟩=some (.slice (some ⟨b,Hd,none⟩) n c)/\ w'.cell? ⟨wr.heap.size,0,none⟩=some (.int .i64 (R k))/\ w'.cell? ⟨wr.heap.size,1,none⟩=some (.int .i64 (F k))/\ w'.cell? ⟨wr.heap.size,2,none⟩=some (.int .i64 (T k))) ⟨zI.drew,Ha,r0,r1,r2⟩ (fun qh=> ?_);refine tZ 0 17 ?_;refine cZ 1 ?_;intro K hK;go_simp;refine(implRunOk _ _ _ _).mono ?_;rintro e w2 ⟨rfl,b2⟩;rw [HR.out];have hB:=keepS qh.1 b2;refine hK.out _ _ ⟨hB,(hB.cell (p:=⟨w.heap.size,0,none⟩) zB).trans Ha,(hB.cell (p:=⟨wr.heap.size,0,none⟩) zW).trans r0,(hB.cell (p:=⟨wr.heap.size,1,none⟩) zW).trans r1,(hB.cell (p:=⟨wr.heap.size,2,none⟩) zW).trans r2⟩ (fun qh=> ?_);clear hK K;try simp only [zP]
     refine tZ 2 19 ?_;refine tZ 3 20 ?_;refine uZ 4 21 ?_;refine uZ 5 22 ?_;refine uZ 6 23 ?_;refine uZ 7 24 ?_;refine uZ 8 25 ?_;refine uZ 9 26 ?_;refine uZ 10 27 ?_;refine uZ 11 28 ?_;refine uZ 12 29 ?_;refine uZ 13 30 ?_;refine uZ 14 31 ?_;refine uZ 15 32 ?_;refine uZ 16 33 ?_;refine tZ 17 34 ?_;refine zD ?_;have HZ:=hid hB;clear qh hB b2;go_wp2_with fail;go_ret;exact⟨retB (ok_false_run Hl HR.out).symm,HB.out.trans ((HW.out.trans (HZ.out.mono (by omega))).mono (by omega))⟩
    | true=>
     have HR:=hid hr;clear hr;by_cases Hi:k=0
     ·have hg:decide (0<k)=false:=by simp;omega
      have HK:=hid Hi;clear hc Hb Hm Hi bW;go_wp2_with fail;try rw [He]
      clear He Hf Ho Hj Hk;refine zR (S:=fun w'=>Below W1.heap.size W1 w'/\ w'.cell? ⟨w.heap.size,0,none⟩=some (.slice (some ⟨b,Hd,none⟩) n c)/\ w'.cell? ⟨wr.heap.size,0,none⟩=some (.int .i64 (R k))/\ w'.cell? ⟨wr.heap.size,1,none⟩=some (.int .i64 (F k))/\ w'.cell? ⟨wr.heap.size,2,none⟩=some (.int .i64 (T k))) ⟨zI.drew,Ha,r0,r1,r2⟩ (fun qh=> ?_);refine tZ 0 17 ?_;refine cZ 1 ?_;intro K hK;go_simp;refine(implRunOk _ _ _ _).mono ?_;rintro e w2 ⟨rfl,b2⟩;rw [HR.out];have hB:=keepS qh.1 b2;refine hK.out _ _ ⟨hB,(hB.cell (p:=⟨w.heap.size,0,none⟩) zB).trans Ha,(hB.cell (p:=⟨wr.heap.size,0,none⟩) zW).trans r0,(hB.cell (p:=⟨wr.heap.size,1,none⟩) zW).trans r1,(hB.cell (p:=⟨wr.heap.size,2,none⟩) zW).trans r2⟩ (fun qh=> ?_);clear hK K;try simp only [zP]
      refine tZ 2 19 ?_;refine tZ 3 20 ?_;refine tZ 4 21 ?_;refine tZ 5 22 ?_;refine tZ 6 23 ?_;refine uZ 7 24 ?_;refine uZ 8 25 ?_;refine uZ 9 26 ?_;refine uZ 10 27 ?_;refine uZ 11 28 ?_;refine uZ 12 29 ?_;refine uZ 13 30 ?_;refine uZ 14 31 ?_;refine uZ 15 32 ?_;refine tZ 16 33 ?_;refine tZ 17 34 ?_;refine zD ?_;have HX:=hid qh.2.1;have HZ:=hid hB;clear qh hB b2;go_wp2_with fail;go_roundw;case rel=>exact⟨k+1,Hl,by go_num,okTo_succ HO.out HR.out (fun h=>by have:=HK.out;omega),HX.out,HB.out.trans ((HW.out.trans (HZ.out.mono (by omega))).mono (by omega)),by have:=HZ.out.size;omega⟩
      case measure=>simp [intOf];omega
     ·have hg:decide (0<k)=true:=by simp;omega
      have b1:=Hb.trans (bW.mono (by omega));have Hn:=(b1.cell (p:=⟨b,Hd+(k - 1)*3,none⟩) hb).trans (hc (k - 1) (by omega)).1;have Hg:=(b1.cell (p:=⟨b,Hd+(k - 1)*3+1,none⟩) hb).trans (hc (k - 1) (by omega)).2.1;have Hh:=(b1.cell (p:=⟨b,Hd+(k - 1)*3+2,none⟩) hb).trans (hc (k - 1) (by omega)).2.2;have e0:IntKind.i64.wrap ((k:Int) - 1)=(k:Int) - 1:=wrapIn _ (by omega) (by omega);have e1:((k:Int) - 1).toNat=k - 1:=by omega
      have e2:(1:Int)<=(k:Int):=by omega
      have e3:(k:Int) - 1<(n:Int):=by omega
      have Hp:=runOk_iff.1 (Hm (k - 1) (by omega)).1;have HP:=hid Hp;have HK:=hid Hi;clear hc Hb Hm Hi Hp bW b1;go_wp2_with fail;try rw [He]
      clear He Hf Ho Hj Hk;refine zR (S:=fun w'=>Below W1.heap.size W1 w'/\ w'.cell? ⟨w.heap.size,0,none⟩=some (.slice (some ⟨b,Hd,none⟩) n c)/\ w'.cell? ⟨wr.heap.size,0,none⟩=some (.int .i64 (R k))/\ w'.cell? ⟨wr.heap.size,1,none⟩=some (.int .i64 (F k))/\ w'.cell? ⟨wr.heap.size,2,none⟩=some (.int .i64 (T k))/\ w'.cell? ⟨b,Hd+(k - 1)*3,none⟩=some (.int .i64 (R (k - 1)))/\ w'.cell? ⟨b,Hd+(k - 1)*3+1,none⟩=some (.int .i64 (F (k - 1)))/\ w'.cell? ⟨b,Hd+(k - 1)*3+2,none⟩=some (.int .i64 (T (k - 1)))) ⟨zI.drew,Ha,r0,r1,r2,Hn,Hg,Hh⟩ (fun qh=> ?_);refine tZ 0 17 ?_;refine cZ 1 ?_;intro K hK;go_simp;refine(implRunOk _ _ _ _).mono ?_;rintro e w2 ⟨rfl,b2⟩;rw [HR.out];have hB:=keepS qh.1 b2;refine hK.out _ _ ⟨hB,(hB.cell (p:=⟨w.heap.size,0,none⟩) zB).trans Ha,(hB.cell (p:=⟨wr.heap.size,0,none⟩) zW).trans r0,(hB.cell (p:=⟨wr.heap.size,1,none⟩) zW).trans r1,(hB.cell (p:=⟨wr.heap.size,2,none⟩) zW).trans r2,(hB.cell (p:=⟨b,_,none⟩) zb).trans Hn,(hB.cell (p:=⟨b,_,none⟩) zb).trans Hg,(hB.cell (p:=⟨b,_,none⟩) zb).trans Hh⟩ (fun qh=> ?_);clear hK K;try simp only [zP]
      refine tZ 2 19 ?_;refine tZ 3 20 ?_;refine tZ 4 21 ?_;refine tZ 5 22 ?_;refine tZ 6 23 ?_;refine tZ 7 24 ?_;refine tZ 8 25 ?_;refine tZ 9 26 ?_;refine tZ 10 27 ?_;refine tZ 11 28 ?_;refine tZ 12 29 ?_;refine tZ 13 30 ?_;refine cZ 14 ?_;intro K hK;go_simp;refine(implFollows (R (k - 1)) (F (k - 1)) (T (k - 1)) (R k) (F k) (T k) _ (by have:=HP.out;omega) (by have:=HP.out;omega)).mono ?_;rintro e w3 ⟨rfl,b3⟩;have Hc:=keepS hB b3;cases ha:apartB (R (k - 1)) (T (k - 1)) (R k) (F k) with
      | false=>
       have HA:=hid ha;clear ha;refine hK.out _ _ ⟨Hc,(Hc.cell (p:=⟨w.heap.size,0,none⟩) zB).trans Ha,(Hc.cell (p:=⟨wr.heap.size,0,none⟩) zW).trans r0,(Hc.cell (p:=⟨wr.heap.size,1,none⟩) zW).trans r1,(Hc.cell (p:=⟨wr.heap.size,2,none⟩) zW).trans r2,(Hc.cell (p:=⟨b,_,none⟩) zb).trans Hn,(Hc.cell (p:=⟨b,_,none⟩) zb).trans Hg,(Hc.cell (p:=⟨b,_,none⟩) zb).trans Hh⟩ (fun qh=> ?_);clear hK K;try simp only [zP]
       refine tZ 15 32 ?_;refine tZ 16 33 ?_;refine tZ 17 34 ?_;refine zD ?_;have HZ:=hid Hc;clear qh hB b2 b3 Hc;go_wp2_with fail;go_ret;exact⟨retB (ok_false_apart Hl (by have:=HK.out;omega) HA.out).symm,HB.out.trans ((HW.out.trans (HZ.out.mono (by omega))).mono (by omega))⟩
      | true=>
       have HA:=hid ha;clear ha;refine hK.out _ _ ⟨Hc,(Hc.cell (p:=⟨w.heap.size,0,none⟩) zB).trans Ha,(Hc.cell (p:=⟨wr.heap.size,0,none⟩) zW).trans r0,(Hc.cell (p:=⟨wr.heap.size,1,none⟩) zW).trans r1,(Hc.cell (p:=⟨wr.heap.size,2,none⟩) zW).trans r2,(Hc.cell (p:=⟨b,_,none⟩) zb).trans Hn,(Hc.cell (p:=⟨b,_,none⟩) zb).trans Hg,(Hc.cell (p:=⟨b,_,none⟩) zb).trans Hh⟩ (fun qh=> ?_);clear hK K;try simp only [zP]
       refine tZ 15 32 ?_;refine tZ 16 33 ?_;refine tZ 17 34 ?_;refine zD ?_;have HX:=hid qh.2.1;have HZ:=hid Hc;clear qh hB b2 b3 Hc e0 e1 e2 e3;go_wp2_with fail;go_roundw;case rel=>exact⟨k+1,Hl,by go_num,okTo_succ HO.out HR.out (fun _=>HA.out),HX.out,HB.out.trans ((HW.out.trans (HZ.out.mono (by omega))).mono (by omega)),by have:=HZ.out.size;omega⟩
       case measure=>simp [intOf];omega
   ·obtain rfl:k=n:=by omega
    have HB:=hid Hb;have HF:Hid (ctxB R F T k=true):=ctxB_iff.2 ⟨Hm,hm⟩;clear hc Hb Hm;go_wp2_with fail;go_ret;exact⟨retB HF.out.symm,HB.out⟩
open Go.Maps
def rawR (v:Value):Option (DataW Value×List MemPlace):=match v with
 | .slice a n c=>some (.held (.slice a n c),[])
 | _=>none
theorem rawR_inv {v:Value}{d:DataW Value}{ps:List MemPlace}(h:rawR v=some (d,ps)):d=.held v/\∃a n c,v=.slice a n c:=by
 unfold rawR at h;split at h
 ·simp at h;exact⟨h.1.symm,_,_,_,rfl⟩
 ·cases h
theorem rawR_own {w:World}{B:Nat}{e:TypeId}{size:Nat}{v:Value}{n:Nat}{xs:List Value}(h:w.ownsRow B e size v n xs):rawR v=some (.held v,[]):=by
 rcases h.2 with ⟨rfl,_⟩|⟨g,Ha,Hb,rfl,_⟩<;>rfl
def kI (r:Int):Lit:=.int .i64 r
def upd {α:Type}(G:Int ->α)(r:Int)(v:α)(x:Int):α:=if x=r then v else G x
theorem upd_same {α:Type}(G:Int ->α)(r:Int)(v:α):upd G r v r=v:=if_pos rfl
theorem upd_other {α:Type}(G:Int ->α){r x:Int}(v:α)(h:x≠r):upd G r v x=G x:=if_neg h
theorem kI_ne {r x:Int}(h:x≠r):kI x≠kI r:=fun e=>h (by unfold kI at e;injection e)
def spanCells (l:List (Int×Int)):List Value:=l.flatMap fun p=>[.int .i64 p.1,.int .i64 p.2]
theorem spanCells_append (l:List (Int×Int))(p:Int×Int):spanCells (l++[p])=spanCells l++[.int .i64 p.1,.int .i64 p.2]:=by simp [spanCells]
structure GrpAt (w:World)(bm n:Nat)(D:DataW Value)(G:Int ->Value)(L:Int ->List (Int×Int)):Prop where
 own:w.ownsMap Tryz.prog 3 rawR bm n D
 at':∀r,D.atKey (kI r) (.held (.slice none 0 0))=.held (G r)
 has':∀r,Maps.has D (kI r)= !(L r).isEmpty
 rows:∀r,w.ownsRow (bm+1) 142 2 (G r) (L r).length (spanCells (L r))
 apart:∀r r' g,(G r).ownBlock=some g ->(G r').ownBlock=some g ->r=r'
theorem GrpAt.below {w w1:World}{bm n:Nat}{D:DataW Value}{G:Int ->Value}{L:Int ->List (Int×Int)}(h:GrpAt w bm n D G L)(hb:Below w.heap.size w w1):GrpAt w1 bm n D G L:=
 ⟨h.own.kept ⟨hb.os,hb.tape,hb.output,hb.size,fun k hk _=>hb.block k hk⟩ (by simp:some bm≠none),h.at',h.has',fun r=>owns_below (h.rows r) hb (fun k hk=>((h.rows r).lt k hk).2),h.apart⟩
theorem GrpAt.step {w w1 w2 w3:World}{bm n:Nat}{D:DataW Value}{G:Int ->Value}{L:Int ->List (Int×Int)}{v':Value}{r f t:Int}(h:GrpAt w bm n D G L)
  (hb:Below w.heap.size w w1) (hown:w2.ownsRow (bm+1) 142 2 v' ((L r).length+1) (spanCells (L r)++[.int .i64 f,.int .i64 t]))
  (hgr:w1.grownBy w2 (G r).ownBlock) (hloc:v'.ownBlock=(G r).ownBlock \/v'.ownBlock=some w1.heap.size)
  (hD:w3.ownsMap Tryz.prog 3 rawR bm (n+1) (D.put (kI r) (.held v'))) (hgr3:w2.grownBy w3 (some bm)):
  GrpAt w3 bm (n+1) (D.put (kI r) (.held v')) (upd G r v') (upd L r (L r++[(f,t)])):=by
 have h1:=h.below hb;have nb:∀(w:World) (v:Value) (m:Nat) (xs:List Value),w.ownsRow (bm+1) 142 2 v m xs ->v.ownBlock=none \/v.ownBlock≠some bm:=by
  intro w v m xs ho;cases e:v.ownBlock with
  | none=>exact .inl rfl
  | some g=>exact .inr (fun e2=>by have:=(ho.lt g e).1;injection e2 with e2;omega)
 refine⟨hD,fun x=> ?_,fun x=> ?_,fun x=> ?_,?_⟩
 ·by_cases e:x=r
  ·subst e;rw [upd_same,atKey_put_same h.own.isMap (show WideAt.IsKeyLit (kI x) from trivial)]
  ·rw [upd_other G v' e,atKey_put_other (kI_ne e)];exact h.at' x
 ·by_cases e:x=r
  ·subst e;rw [upd_same,has_put_same h.own.isMap (show WideAt.IsKeyLit (kI x) from trivial)];simp
  ·rw [upd_other L _ e,has_put_other (kI_ne e)];exact h.has' x
 ·by_cases e:x=r
  ·subst e;rw [upd_same,upd_same,spanCells_append,List.length_append];exact hown.kept hgr3 (nb _ _ _ _ hown)
  ·rw [upd_other G v' e,upd_other L _ e];have hx:=h1.rows x;have hk:(G x).ownBlock=none \/(G x).ownBlock≠(G r).ownBlock:=by
    cases e1:(G x).ownBlock with
    | none=>exact .inl rfl
    | some g=>exact .inr (fun e2=>e (h.apart x r g e1 e2.symm))
   have h2:=hx.kept hgr hk;exact h2.kept hgr3 (nb _ _ _ _ h2)
 ·intro x y g hx hy;have Hc:∀z,z≠r ->∀g,(G z).ownBlock=some g ->v'.ownBlock=some g ->False:=by
   intro z hz g Hb Ha;rcases hloc with hl|hl
   ·exact hz (h.apart z r g Hb (hl ▸ Ha))
   ·rw [hl] at Ha;have a1:=((h.rows z).lt g Hb).2;have a2:=hb.size;injection Ha with Ha;omega
  by_cases ex:x=r
  ·subst ex;rw [upd_same] at hx;by_cases ey:y=x
   ·exact ey.symm
   ·rw [upd_other G v' ey] at hy;exact(Hc y ey g hy hx).elim
  ·rw [upd_other G v' ex] at hx;by_cases ey:y=r
   ·subst ey;rw [upd_same] at hy;exact(Hc x ex g hx hy).elim
   ·rw [upd_other G v' ey] at hy;exact h.apart x y g hx hy
def Lk (R F T:Nat ->Int):Nat ->Int ->List (Int×Int)
 | 0=>fun _=>[]
 | k+1=>upd (Lk R F T k) (R k) (Lk R F T k (R k)++[(F k,T k)])
theorem Lk_len (R F T:Nat ->Int)(k:Nat):∀r,(Lk R F T k r).length<=k:=by
 induction k with
 | zero=>intro r;simp [Lk]
 | succ k ih=>
  intro r;by_cases e:r=R k
  ·subst e;simp only [Lk];rw [upd_same];have:=ih (R k);simp;omega
  ·simp only [Lk];rw [upd_other _ _ e];have:=ih r;omega
theorem zeroSpans (w:World):(zeroValue 139).run Tryz.prog w=.ok (.slice none 0 0) w:=by kernel_rfl
theorem wfI {r:Int}(h0: -9223372036854775808<=r)(h1:r<=9223372036854775807):(Lit.int .i64 r).wf=true:=by
 have e0:IntKind.i64.min= -9223372036854775808:=by decide
 have e1:IntKind.i64.max=9223372036854775807:=by decide
 simp only [Lit.wf,e0,e1,Bool.and_eq_true,decide_eq_true_iff];exact⟨h0,h1⟩
theorem GrpAt.look {w:World}{bm n:Nat}{D:DataW Value}{G:Int ->Value}{L:Int ->List (Int×Int)}(h:GrpAt w bm n D G L)(r:Int)(hr:(Lit.int .i64 r).wf=true):
  (Instr.lookup 67 (.map (some bm)) (.int .i64 r) false).run Tryz.prog w=.ok (G r) w:=by
 obtain⟨v,ps,Ha,hv⟩:=h.own.lookup (int_keyed Tryz.underlying3) Tryz.underlying67 (zeroSpans w) (zd:=.held (.slice none 0 0)) (zp:=[]) rfl (keyOf_int_mk Tryz.underlying3 hr);have:=h.at' r;obtain⟨hd,_⟩:=rawR_inv hv;unfold kI at this;rw [this] at hd;have e:v=G r:=by injection hd with hd;exact hd.symm
 rw [Ha,e]
end Go.Proofs.YtfidfeilljlbiaaGreat
