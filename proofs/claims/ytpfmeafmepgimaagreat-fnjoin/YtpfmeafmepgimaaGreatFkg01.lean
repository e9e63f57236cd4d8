import Derived.Test.YtpfmeafmepgimaaGreatRows
import Derived.WalkKit
import Derived.ProofKit
import Derived.OpenShut
import Derived.ShutString
import Derived.ChangeOld
import Derived.Below
import Derived.WalkLawsBesides
import Derived.WalkSpells
import Derived.Outline
import Derived.Deep.RegionHeld3
import Derived.Laws.BitsAllLaws
set_option linter.unusedVariables false
set_option linter.unusedSimpArgs false
set_option maxRecDepth 100000
set_option maxHeartbeats 40000000
namespace Go.Proofs.YtpfmeafmepgimaaGreat
open Go.ChangeShapes Go.WideShapes Go.ChangeAt Go.RowKit
theorem hid {p:Prop}(h:p):Hid p:=h
def I64 (f:Nat ->Int):Prop:=∀i, -9223372036854775808<=f i/\ f i<=9223372036854775807
def RSeg (w:World)(a:Option Addr)(n:Nat)(R F T:Nat ->Int):Prop:=
 n=0 \/∃b off,a=some ⟨b,off,none⟩/\ b<w.heap.size/\∀i,i<n ->w.cell? ⟨b,off+i*3,none⟩=some (.int .i64 (R i))/\ w.cell? ⟨b,off+i*3+1,none⟩=some (.int .i64 (F i))/\ w.cell? ⟨b,off+i*3+2,none⟩=some (.int .i64 (T i))
theorem RSeg.kept {w w1:World}{B:Nat}{a:Option Addr}{n:Nat}{R F T:Nat ->Int}(h:RSeg w a n R F T)(hb:Below B w w1)(hc:∀x,a=some x ->x.block<B):RSeg w1 a n R F T:=by
 rcases h with h|⟨b,off,rfl,hlt,hcell⟩
 ·exact .inl h
 ·have hB:b<B:=hc ⟨b,off,none⟩ rfl;refine .inr ⟨b,off,rfl,Nat.lt_of_lt_of_le hlt hb.size,fun i hi=> ?_⟩;obtain⟨h1,h2,h3⟩:=hcell i hi;exact⟨(hb.cell (p:=⟨b,_,none⟩) hB).trans h1,(hb.cell (p:=⟨b,_,none⟩) hB).trans h2,(hb.cell (p:=⟨b,_,none⟩) hB).trans h3⟩
theorem RSeg.below {w w1:World}{a:Option Addr}{n:Nat}{R F T:Nat ->Int}(h:RSeg w a n R F T)(hb:Below w.heap.size w w1):RSeg w1 a n R F T:=by
 rcases h with h|⟨b,off,rfl,hlt,hcell⟩
 ·exact .inl h
 ·exact RSeg.kept (.inr ⟨b,off,rfl,hlt,hcell⟩) hb (fun x hx=>by simp at hx;subst hx;exact hlt)
def runOkB (r f t:Int):Bool:=decide (0<=r/\ r<8/\ 1<=f/\ f<=t/\ t<=1000000000)
def apartB (r t r' f':Int):Bool:=decide (r<r' \/(r=r'/\ t+1<f'))
theorem runOk_true {r f t:Int}(h:0<=r/\ r<8/\ 1<=f/\ f<=t/\ t<=1000000000):runOkB r f t=true:=by unfold runOkB;exact decide_eq_true h
theorem runOk_false {r f t:Int}(h:¬(0<=r/\ r<8/\ 1<=f/\ f<=t/\ t<=1000000000)):runOkB r f t=false:=by unfold runOkB;exact decide_eq_false h
theorem runOk_iff {r f t:Int}:runOkB r f t=true↔(0<=r/\ r<8/\ 1<=f/\ f<=t/\ t<=1000000000):=by unfold runOkB;simp
theorem retB {a b:Bool}(h:a=b):Ending.returned (.bool a)=.returned (.bool b):=by rw [h]
theorem ret_int {k:IntKind}{a b:Int}(h:a=b):Ending.returned (.int k a)=.returned (.int k b):=by rw [h]
theorem Tryz.infoRun:(Tryz.prog.info? 87).map (fun i=>(i.zero,i.size,i.bytes))=some (some (.agg #[.int .i64 0,.int .i64 0,.int .i64 0]),3,24):=by kernel_rfl
theorem bcell {W w1:World}(hb:Below W.heap.size W w1):(∀b o,b<W.heap.size ->w1.cell? ⟨b,o,none⟩=W.cell? ⟨b,o,none⟩)/\ (∀b o,b<W.heap.size ->w1.frozen? ⟨b,o,none⟩=W.frozen? ⟨b,o,none⟩):=
 ⟨fun b o h=>hb.cell (p:=⟨b,o,none⟩) h,fun b o h=>hb.frozen (p:=⟨b,o,none⟩) h⟩
theorem owns_below {w w1:World}{B C:Nat}{e:TypeId}{size:Nat}{v:Value}{n:Nat}{xs:List Value}(h:w.ownsRow B e size v n xs)(hb:Below C w w1)(hc:∀k,v.ownBlock=some k ->k<C):w1.ownsRow B e size v n xs:=by
 obtain⟨h1,h2⟩:=h;refine⟨h1,?_⟩;rcases h2 with h2|⟨g,cap,cur,rfl,hbg,hg,r⟩
 ·exact .inl h2
 ·exact .inr ⟨g,cap,cur,rfl,hbg,by rw [hb.block g (hc g rfl)];exact hg,r⟩
def Seg (w:World)(a:Option Addr)(n:Nat)(f:Nat ->Int):Prop:=
 n=0 \/∃b off,a=some ⟨b,off,none⟩/\ b<w.heap.size/\∀i,i<n ->w.cell? ⟨b,off+i,none⟩=some (.int .u8 (f i))
def Byt (f:Nat ->Int):Prop:=∀i,0<=f i/\ f i<256
theorem Seg.below {w w':World}{a:Option Addr}{n:Nat}{f:Nat ->Int}(h:Seg w a n f)(hb:Below w.heap.size w w'):Seg w' a n f:=by
 rcases h with h|⟨b,off,rfl,hlt,hc⟩
 ·exact .inl h
 ·exact .inr ⟨b,off,rfl,Nat.lt_of_lt_of_le hlt hb.size,fun i hi=>(hb.cell (p:=⟨b,off+i,none⟩) hlt).trans (hc i hi)⟩
theorem Tryz.infoByte:(Tryz.prog.info? 5).map (fun i=>(i.zero,i.size,i.bytes))=some (some (.int .u8 0),1,1):=by kernel_rfl
theorem seg_of {w:World}{a0:Option Addr}{len0 cap0:Nat}{z0:List Int}
  (w0:(a0=none/\ len0=0/\ cap0=0/\ z0=[]) \/
   ∃x,a0=some x/\ len0<=cap0/\ cap0<=maxLen/\ z0.length=cap0/\ (∀i,i<z0.length ->w.cell? (x.add i)=some (.int .u8 (z0.getD i 0)))/\∀n∈z0,(Lit.int .u8 n).wf=true):
  Seg w a0 len0 (fun i=>z0.getD i 0)/\ Byt (fun i=>z0.getD i 0)/\ len0<=9223372036854775807:=by
 rcases w0 with ⟨rfl,rfl,rfl,rfl⟩|⟨⟨b,off,sp⟩,rfl,hl,hm,hz,hcell,hwz⟩
 ·exact⟨.inl rfl,fun i=>by simp,by omega⟩
 ·refine⟨?_,fun i=> ?_,by unfold maxLen at hm;omega⟩
  ·by_cases h0:len0=0
   ·exact .inl h0
   ·have hc0:=hcell 0 (by omega);have hsp:sp=none:=by simpa [Addr.add] using World.cell?_spot hc0
    subst hsp;refine .inr ⟨b,off,rfl,block_lt_of_cell hc0,fun i hi=> ?_⟩;have h:=hcell i (by omega);by_cases hi0:i=0
    ·subst hi0;simpa [Addr.add] using h
    ·simpa [Addr.add,hi0] using h
  ·by_cases hi:i<z0.length
   ·have:=hwz (z0.getD i 0) (by simp [List.getD,hi]);have b:=bounds_u8 this;show 0<=z0.getD i 0/\ z0.getD i 0<256;omega
   ·simp [List.getD,hi]
def uvF:Nat ->Nat ->List Int
 | 0,v=>[(v:Int)]
 | k+1,v=>if v<128 then [(v:Int)] else((128+v%128:Nat):Int)::uvF k (v/128)
def Own (w:World)(B:Nat)(v:Value)(zs:List Int):Prop:=w.ownsRow B 5 1 v zs.length (zs.map (Value.int .u8))
theorem uvF_lt (k v:Nat)(h:v<128):uvF k v=[(v:Int)]:=by
 cases k<;>simp [uvF,h]
theorem uvF_ge (k v:Nat)(h:¬v<128):uvF (k+1) v=((128+v%128:Nat):Int)::uvF k (v/128):=by
 simp [uvF,h]
theorem uvF_len (k:Nat):∀v,(uvF k v).length<=k+1/\ 0<(uvF k v).length:=by
 induction k with
 | zero=>intro v;simp [uvF]
 | succ k ih=>
  intro v;by_cases h:v<128
  ·rw [uvF_lt _ _ h];simp
  ·rw [uvF_ge _ _ h];have:=ih (v/128);simp;omega
theorem own_one (w:World)(B:Nat)(z:Int)(hB:B<=w.heap.size):Own (w.alloc (.cells #[.int .u8 z] 5)) B (.slice (some ⟨w.heap.size,0,none⟩) 1 1) [z]:=by
 have:=World.ownsRow_lit (base:=B) (e:=5) (size:=1) w #[.int .u8 z] 1 hB (by unfold maxLen;omega) rfl;exact this
theorem Own.kept {w w1:World}{B C:Nat}{v:Value}{zs:List Int}(h:Own w B v zs)(hb:Below C w w1)(hc:∀k,v.ownBlock=some k ->k<C):Own w1 B v zs:=by
 obtain⟨h1,h2⟩:=h;refine⟨h1,?_⟩;rcases h2 with h2|⟨g,cap,cur,rfl,hbg,hg,r⟩
 ·exact .inl h2
 ·exact .inr ⟨g,cap,cur,rfl,hbg,by rw [hb.block g (hc g rfl)];exact hg,r⟩
theorem Own.weak {w:World}{B C:Nat}{v:Value}{zs:List Int}(h:Own w B v zs)(hc:C<=B):Own w C v zs:=by
 obtain⟨h1,h2⟩:=h;refine⟨h1,?_⟩;rcases h2 with h2|⟨g,cap,cur,rfl,hbg,r⟩
 ·exact .inl h2
 ·exact .inr ⟨g,cap,cur,rfl,Nat.le_trans hc hbg,r⟩
theorem Own.shape {w:World}{B:Nat}{v:Value}{zs:List Int}(h:Own w B v zs)(hz:zs≠[]):
  ∃g cap,v=.slice (some ⟨g,0,none⟩) zs.length cap/\ B<=g/\ g<w.heap.size/\ zs.length<=cap/\ cap<=maxLen/\
   (∀j u,(zs.map (Value.int .u8))[j]? =some u ->w.cell? ((⟨g,0,none⟩:Addr).add j)=some u)/\ Seg w (some ⟨g,0,none⟩) zs.length (fun i=>zs.getD i 0):=by
 have h':=h;obtain⟨h1,h2⟩:=h;rcases h2 with ⟨_,h2⟩|⟨g,cap,cur,rfl,hbg,hg,hn,hm,r⟩
 ·exact absurd (List.eq_nil_of_length_eq_zero h2) hz
 ·have hlt:=(h'.lt g rfl).2;refine⟨g,cap,rfl,hbg,hlt,hn,hm,h'.cells rfl,.inr ⟨g,0,rfl,hlt,fun i hi=> ?_⟩⟩;rw [Nat.zero_add,World.ownsRow.cellAt h' i (by omega)];simp [hi,List.getD]
theorem bytesOf {zs:List Int}(h:∀z∈zs,0<=z/\ z<256):Byt (fun i=>zs.getD i 0):=by
 intro i;by_cases hi:i<zs.length
 ·have:=h (zs.getD i 0) (by simp [List.getD,hi]);exact this
 ·simp [List.getD,hi]
theorem specUv (k:Nat):∀(m:Nat) (w:World),k<=9 ->Hid (m<128^(k+1)) ->m<18446744073709551616 ->
  Calls Tryz.prog 142 #[.int .u64 (m:Int)] w fun e w'=>∃v,e=.returned v/\ Own w' w.heap.size v (uvF k m)/\ Below w.heap.size w w'/\ w.heap.size<w'.heap.size:=by
 obtain⟨i0,hi,hz0,hz1,hz2⟩:=info_parts Tryz.infoByte;have small:∀(k m:Nat) (w:World),m<128 ->Calls Tryz.prog 142 #[.int .u64 (m:Int)] w fun e w'=>∃v,e=.returned v/\ Own w' w.heap.size v (uvF k m)/\ Below w.heap.size w w'/\ w.heap.size<w'.heap.size:=by
  intro k m w hm;have HE:Hid (uvF k m=[(m:Int)]):=uvF_lt k m hm;go_enter Tryz.func142,Tryz.ntmps142;go_wp2_with fail;go_ret;refine⟨_,rfl,?_,(Below.refl _ _).alloc (Nat.le_refl _) _,by simp⟩;rw [HE.out];exact own_one w _ _ (Nat.le_refl _)
 induction k with
 | zero=>intro m w _ hm _;exact small 0 m w (by have:=hm.out;omega)
 | succ k ih=>
  intro m w hk hmk hm;by_cases hlt:m<128
  ·exact small (k+1) m w hlt
  ·have HE:Hid (uvF (k+1) m=((128+m%128:Nat):Int)::uvF k (m/128)):=uvF_ge k m hlt;have HL:=uvF_len k (m/128);have HK:Hid (m/128<128^(k+1)):=by
    have:=hmk.out;rw [Nat.pow_succ] at this;show _<_;omega
   have IH:=ih (m/128) (w.alloc (.cells #[.int .u8 (128+(m:Int)%128)] 5)) (by omega) HK (by omega);have HI:=hid IH;clear IH ih small hmk;go_enter Tryz.func142,Tryz.ntmps142;go_wp2_with fail;rw [show ((m:Int)/128)=((m/128:Nat):Int) from by omega];refine HI.out.mono ?_;rintro e w1 ⟨v,rfl,ho,hb,hz⟩;obtain⟨g,cap,rfl,hg1,hg2,_,_,hcs,_⟩:=ho.shape (by intro e;rw [e] at HL;simp at HL);have hd:w1.ownsRow w.heap.size 5 1 (.slice (some ⟨w.heap.size,0,none⟩) 1 1) 1 [.int .u8 (128+(m:Int)%128)]:=
    (own_one w w.heap.size (128+(m:Int)%128) (Nat.le_refl _)).kept hb (fun k hk=>by simp [Value.ownBlock] at hk;simp;omega)
   have hzs:w.heap.size+1<w1.heap.size:=by have:=hz;simp at this;exact this
   have hone:∀u∈(uvF k (m/128)).map (Value.int .u8),u.oneCell'=true:=ints_oneCell .u8 _;have HN:=hid hcs;clear hcs HI ho;go_wp2_with (at_builtin;refine wpList_append_own _ rfl _ _ 22 rfl w.heap.size 5 i0 (.int .u8 0) 1 1 Tryz.underlying22 hi hz0 hz1 hz2 rfl (by decide) _ _ _ rfl hd ⟨g,0,none⟩ (uvF k (m/128)).length cap ((uvF k (m/128)).map (Value.int .u8)) rfl (by simp) HN.out hone ?c3 ?c4 ?c5 ?_);case c3=>unfold maxLen;omega
   case c4=>omega
   case c5=>omega
   ·intro v' w2 hown' hgr _;have R:Own w2 w.heap.size v' (uvF (k+1) m):=by
     rw [HE.out];unfold Own;rw [List.length_cons,List.map_cons,Nat.add_comm];exact hown'
    have RB:Below w.heap.size w w2:=((((Below.refl _ _).alloc (Nat.le_refl _) _).trans (hb.mono (by simp)))).grown hgr (by omega) (fun k hk=>by simp [Value.ownBlock] at hk;omega);have RZ:=hgr.size;clear hown' hgr hd HN hone;go_wp2_with fail;go_ret;exact⟨v',rfl,R,RB,by omega⟩
end Go.Proofs.YtpfmeafmepgimaaGreat
