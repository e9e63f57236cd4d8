import Derived.Test.YtdeolligikjieaaGreatDoorFkg09
import Derived.Test.YtdeolligikjieaaGreatDoorFkg06
import Derived.Test.YtdeolligikjieaaGreatDoorFkg04
import Derived.Test.YtdeolligikjieaaGreatDoorFkg05
import Derived.Test.YtdeolligikjieaaGreatDoorFkg11
set_option linter.unusedVariables false
set_option linter.unusedSimpArgs false
set_option maxRecDepth 100000
set_option maxHeartbeats 40000000
namespace Go.Proofs.YtdeolligikjieaaGreatDoor
open Go.ChangeShapes Go.WideShapes Go.ChangeAt Go.RowKit
def LAt (w:World)(b off:Nat)(l:List Lf)(i m:Nat):Prop:=b<w.heap.size/\∀t,t<m ->∃qa qc,w.cell? ⟨b,off+t*5,none⟩=some (.slice qa (gL l (i+t)).p.length qc)/\ QaR w qa (gL l (i+t)).p/\ w.cell? ⟨b,off+t*5+1,none⟩=some (.bool (gL l (i+t)).fl)/\ w.cell? ⟨b,off+t*5+2,none⟩=some (.int .i64 (gL l (i+t)).r)/\ w.cell? ⟨b,off+t*5+3,none⟩=some (.int .i64 (gL l (i+t)).q)/\ w.cell? ⟨b,off+t*5+4,none⟩=some (.string (gL l (i+t)).v)
theorem LAt.below {w w':World}{b off i m:Nat}{l:List Lf}(h:LAt w b off l i m)(hb:Below w.heap.size w w'):LAt w' b off l i m:=
 ⟨Nat.lt_of_lt_of_le h.1 hb.size,fun t ht=>by
  obtain⟨y,z,j,k,q,r,u,v⟩:=h.2 t ht;exact⟨y,z,(hb.cell (p:=⟨b,_,none⟩) h.1).trans j,k.below hb,(hb.cell (p:=⟨b,_,none⟩) h.1).trans q,(hb.cell (p:=⟨b,_,none⟩) h.1).trans r,(hb.cell (p:=⟨b,_,none⟩) h.1).trans u,(hb.cell (p:=⟨b,_,none⟩) h.1).trans v⟩⟩
theorem LAt.take {w:World}{b off i m k:Nat}{l:List Lf}(h:LAt w b off l i m)(hk:k<=m):LAt w b off l i k:=⟨h.1,fun t ht=>h.2 t (by omega)⟩
theorem LAt.drop {w:World}{b off i m k:Nat}{l:List Lf}(h:LAt w b off l i m)(hk:k<=m):LAt w b (off+k*5) l (i+k) (m - k):=⟨h.1,fun t ht=>by
 have:=h.2 (k+t) (by omega);rw [show off+(k+t)*5=off+k*5+t*5 by omega,show i+(k+t)=i+k+t by omega] at this;exact this⟩
def kAt (d n:Nat)(fl:Bool):Int:=if d+1<n then 3 else kd fl
theorem Qg5 (pa:Option Addr)(n pc:Nat)(fl:Bool)(r q:Int)(v:ByteArray)(d:Nat)(w:World)(hn:n<=1048576)(hd:d<=1000):
  Calls Tryz.prog 62 #[.agg #[.slice pa n pc,.bool fl,.int .i64 r,.int .i64 q,.string v],.int .i64 (d:Int)] w fun e w'=>e=.returned (.int .i64 (kAt d n fl))/\ Below w.heap.size w w':=by
 have k:=hid (zO w (.cells #[.slice pa n pc,.bool fl,.int .i64 r,.int .i64 q,.string v] 69));by_cases h:d+1<n
 ·have m:(d:Int)+1<(n:Int):=by omega
  have j:Hid (kAt d n fl=3):=hid (if_pos h);go_enter Tryz.func62,Tryz.ntmps62;go_wp2_with fail;go_ret;exact⟨by rw [j.out];rfl,k.out⟩
 ·have m:¬(d:Int)+1<(n:Int):=by omega
  cases fl with
  | true=>
   have j:Hid (kAt d n true=2):=hid (if_neg h);go_enter Tryz.func62,Tryz.ntmps62;go_wp2_with fail;go_ret;exact⟨by rw [j.out];rfl,k.out⟩
  | false=>
   have j:Hid (kAt d n false=1):=hid (if_neg h);go_enter Tryz.func62,Tryz.ntmps62;go_wp2_with fail;go_ret;exact⟨by rw [j.out];rfl,k.out⟩
theorem Qkt (l:List Lf)(b off i m c d:Nat)(w:World)(hm:1<=m)(hm2:m<=1048576)(hd:d<=1000)(hp:∀t,t<m ->d<(gL l (i+t)).p.length/\ (gL l (i+t)).p.length<=1048576)(h:LAt w b off l i m):
  Calls Tryz.prog 61 #[.slice (some ⟨b,off,none⟩) m c,.int .i64 (d:Int)] w fun e w'=>(∃g:Nat,e=.returned (.int .i64 (g:Int))/\ 1<=g/\ g<=m/\ (∀t,t<g ->Qat (gL l (i+t)).p (kd (gL l (i+t)).fl) d=Qat (gL l i).p (kd (gL l i).fl) d)/\ (g<m ->Qat (gL l (i+g)).p (kd (gL l (i+g)).fl) d≠Qat (gL l i).p (kd (gL l i).fl) d))/\ Below w.heap.size w w':=by
 have HL:=hid h;have HP:=hid hp;clear h hp;go_enter Tryz.func61,Tryz.ntmps61;go_wp2_with fail;go_loopw [5] (fun i' wr=>∃k:Nat,k<=m/\ i'=.int .i64 k/\ Hid (∀t,t<k ->Qat (gL l (i+t)).p (kd (gL l (i+t)).fl) d=Qat (gL l i).p (kd (gL l i).fl) d)/\ Hid (Below w.heap.size w wr)) (fun i' _=>m - (intOf i').toNat);case atStart=>exact⟨0,Nat.zero_le _,rfl,hid (fun t ht=>by omega),hid zI⟩
 case round=>
  obtain⟨k,hk,rfl,HE,M⟩:=hrel;by_cases Hf:k<m
  ·have B:=HL.below M.out;obtain⟨qa,kc,G,hs,C,D,F,P⟩:=B.2 k Hf;obtain⟨qz,zc,o,gs,Q,U,V,Y⟩:=B.2 0 (by omega);have W:=HP k Hf;have J:=HP 0 (by omega);simp only [Nat.add_zero,Nat.zero_mul] at o gs Q U V Y J;rcases hs with hs|⟨A,L,rfl,Hu,Hn⟩
   ·omega
   rcases gs with gs|⟨E,N,rfl,Hv,Hq⟩
   ·omega
   have H:=Hn d W.1;have Z:=Hq d J.1;have Ha:Hid (k=0 ->gL l (i+k)=gL l i):=hid (fun e=>by rw [e,Nat.add_zero]);have q:Hid (Qat (gL l (i+k)).p (kd (gL l (i+k)).fl) d=Qat (gL l i).p (kd (gL l i).fl) d↔gS (gL l (i+k)).p d=gS (gL l i).p d/\ kAt d (gL l (i+k)).p.length (gL l (i+k)).fl=kAt d (gL l i).p.length (gL l i).fl):=hid (by unfold Qat kAt;exact Prod.mk.injEq _ _ _ _ ▸ Iff.rfl);have Hd:Hid (Qat (gL l (i+k)).p (kd (gL l (i+k)).fl) d≠Qat (gL l i).p (kd (gL l i).fl) d ->1<=k):=hid (fun hne=>by
    rcases Nat.eq_zero_or_pos k with e|e
    ·exact absurd (by rw [Ha e]) hne
    ·exact e)
   have Hk:Hid (∀v,Qat (gL l (i+k)).p (kd (gL l (i+k)).fl) d≠Qat (gL l i).p (kd (gL l i).fl) d ->v=k ->(1<=v/\ v<=m/\ (∀t,t<v ->Qat (gL l (i+t)).p (kd (gL l (i+t)).fl) d=Qat (gL l i).p (kd (gL l i).fl) d)/\ (v<m ->Qat (gL l (i+v)).p (kd (gL l (i+v)).fl) d≠Qat (gL l i).p (kd (gL l i).fl) d))):=hid (fun v h e=>by subst e;exact⟨Hd.out h,hk,HE.out,fun _=>h⟩);have Hr:Hid (Qat (gL l (i+k)).p (kd (gL l (i+k)).fl) d=Qat (gL l i).p (kd (gL l i).fl) d ->∀t,t<k+1 ->Qat (gL l (i+t)).p (kd (gL l (i+t)).fl) d=Qat (gL l i).p (kd (gL l i).fl) d):=hid (fun h t ht=>by
    by_cases e:t=k
    ·subst e;exact h
    ·exact HE t (by omega))
   obtain⟨X,hX⟩:∃X,(Qat (gL l (i+k)).p (kd (gL l (i+k)).fl) d=Qat (gL l i).p (kd (gL l i).fl) d)=X:=⟨_,rfl⟩;have HX:=hid hX;rw [hX] at q;clear Hn Hq;obtain⟨yk,Ho⟩:∃y,gL l (i+k)=y:=⟨_,rfl⟩;obtain⟨yz,Hp⟩:∃y,gL l i=y:=⟨_,rfl⟩;rw [Ho] at G C D F P H W q;rw [Hp] at o Q U V Y Z J q;clear Ho Hp;obtain⟨kp,kf,kr,kq,kv⟩:=yk;obtain⟨zp,zf,zr,zq,zv⟩:=yz;dsimp only at G C D F P H W o Q U V Y Z J q;clear hX;obtain⟨s,Hg⟩:∃s,gS kp d=s:=⟨_,rfl⟩;obtain⟨z,Hh⟩:∃z,gS zp d=z:=⟨_,rfl⟩;obtain⟨r,He⟩:∃r,kp.length=r:=⟨_,rfl⟩;obtain⟨u,Hi⟩:∃u,zp.length=u:=⟨_,rfl⟩;rw [Hg,Hh,He,Hi] at q;rw [Hg] at H;rw [Hh] at Z;rw [He] at G W;rw [Hi] at o J;have i1:(0:Int)<=(k:Int):=Int.natCast_nonneg _;have i2:(k:Int)<(m:Int):=by omega
   have i3:(0:Int)<=(d:Int):=Int.natCast_nonneg _;have i4:(d:Int)<(r:Int):=by omega
   have i5:(d:Int)<(u:Int):=by omega
   have i6:(0:Int)<(m:Int):=by omega
   have i7:0<m:=by omega
   have j:b<wr.heap.size:=B.1;clear Hg Hh He Hi B;have dk:decide ((k:Int)<(m:Int))=true:=by simp;omega
   have Ht:decide (k<m)=true:=by simp;omega
   go_wp2_with fail;cases hsz:(s.toList==z.toList) with
   | false=>
    have O:Hid (¬X):=hid (fun h=>by rw [(q.1 h).1] at hsz;simp at hsz);go_quiet (fail);have Hb:=hid (Qaz M.out nq);go_wp2_with fail;go_ret;exact⟨⟨k,rfl,Hk.out k (fun h=>O.out (by rw [<- HX.out];exact h)) rfl⟩,Hb.out⟩
   | true=>
    have Hs:Hid (s=z):=hid (toList_inj (by simpa using hsz));have Hc:Hid (∀w',Below wr.heap.size wr w' ->(Below wr.heap.size wr w'/\ w'.cell? ⟨b,off+k*5,none⟩=some (.slice (some ⟨A,L,none⟩) r kc)/\ w'.cell? ⟨b,off+k*5+1,none⟩=some (.bool kf)/\ w'.cell? ⟨b,off+k*5+2,none⟩=some (.int .i64 kr)/\ w'.cell? ⟨b,off+k*5+3,none⟩=some (.int .i64 kq)/\ w'.cell? ⟨b,off+k*5+4,none⟩=some (.string kv)/\ w'.cell? ⟨A,L+d,none⟩=some (.string s)/\ w'.cell? ⟨b,off,none⟩=some (.slice (some ⟨E,N,none⟩) u zc)/\ w'.cell? ⟨b,off+1,none⟩=some (.bool zf)/\ w'.cell? ⟨b,off+2,none⟩=some (.int .i64 zr)/\ w'.cell? ⟨b,off+3,none⟩=some (.int .i64 zq)/\ w'.cell? ⟨b,off+4,none⟩=some (.string zv)/\ w'.cell? ⟨E,N+d,none⟩=some (.string z))):=hid (fun w' hB=>⟨hB,(hB.cell (p:=⟨b,_,none⟩) j).trans G,(hB.cell (p:=⟨b,_,none⟩) j).trans C,(hB.cell (p:=⟨b,_,none⟩) j).trans D,(hB.cell (p:=⟨b,_,none⟩) j).trans F,(hB.cell (p:=⟨b,_,none⟩) j).trans P,(hB.cell (p:=⟨A,_,none⟩) Hu).trans H,(hB.cell (p:=⟨b,_,none⟩) j).trans o,(hB.cell (p:=⟨b,_,none⟩) j).trans Q,(hB.cell (p:=⟨b,_,none⟩) j).trans U,(hB.cell (p:=⟨b,_,none⟩) j).trans V,(hB.cell (p:=⟨b,_,none⟩) j).trans Y,(hB.cell (p:=⟨E,_,none⟩) Hv).trans Z⟩);clear G C D F P H o Q U V Y Z;refine zR (S:=fun w'=>Below wr.heap.size wr w'/\ w'.cell? ⟨b,off+k*5,none⟩=some (.slice (some ⟨A,L,none⟩) r kc)/\ w'.cell? ⟨b,off+k*5+1,none⟩=some (.bool kf)/\ w'.cell? ⟨b,off+k*5+2,none⟩=some (.int .i64 kr)/\ w'.cell? ⟨b,off+k*5+3,none⟩=some (.int .i64 kq)/\ w'.cell? ⟨b,off+k*5+4,none⟩=some (.string kv)/\ w'.cell? ⟨A,L+d,none⟩=some (.string s)/\ w'.cell? ⟨b,off,none⟩=some (.slice (some ⟨E,N,none⟩) u zc)/\ w'.cell? ⟨b,off+1,none⟩=some (.bool zf)/\ w'.cell? ⟨b,off+2,none⟩=some (.int .i64 zr)/\ w'.cell? ⟨b,off+3,none⟩=some (.int .i64 zq)/\ w'.cell? ⟨b,off+4,none⟩=some (.string zv)/\ w'.cell? ⟨E,N+d,none⟩=some (.string z)) (Hc _ zI.drew) (fun qh=> ?_);refine tZ 0 6 ?_;refine tZ 1 7 ?_;refine tZ 2 8 ?_;refine tZ 3 9 ?_;refine tZ 4 10 ?_;refine tZ 5 11 ?_;refine tZ 6 12 ?_;refine tZ 7 13 ?_;refine tZ 8 14 ?_;refine tZ 9 15 ?_;refine tZ 10 16 ?_;refine tZ 11 17 ?_;refine tZ 12 18 ?_;refine tZ 13 19 ?_;refine tZ 14 20 ?_;refine tZ 15 21 ?_;refine tZ 16 22 ?_;refine tZ 17 23 ?_;refine tZ 18 24 ?_;refine tZ 19 25 ?_;refine tZ 20 26 ?_;refine tZ 21 27 ?_;refine tZ 22 28 ?_;refine tZ 23 29 ?_;refine tZ 24 30 ?_;refine tZ 25 31 ?_;refine tZ 26 32 ?_;refine tZ 27 33 ?_;refine tZ 29 35 ?_;refine tZ 30 36 ?_;refine tZ 31 37 ?_;refine tZ 32 38 ?_;refine cZ 28 ?_;intro K I;go_simp;refine(Qg5 (some ⟨A,L,none⟩) r kc kf kr kq kv d _ (by omega) hd).mono ?_;rintro e w1 ⟨rfl,b1⟩;have R:=Qab qh.1 b1;refine I.out _ _ (Hc _ R) (fun qh=> ?_);clear I K;try simp only [zP]
    refine cZ 33 ?_;intro K I;go_simp;refine(Qg5 (some ⟨E,N,none⟩) u zc zf zr zq zv d _ (by omega) hd).mono ?_;rintro e w2 ⟨rfl,b2⟩;have T:=Qab R b2;refine I.out _ _ (Hc _ T) (fun qh=> ?_);clear I K;try simp only [zP]
    have Hj:=hid (M.trans (T.mono M.size));obtain⟨K1,Hl⟩:∃K1,kAt d r kf=K1:=⟨_,rfl⟩;obtain⟨K2,Hm⟩:∃K2,kAt d u zf=K2:=⟨_,rfl⟩;rw [Hl,Hm] at q ⊢;clear Hl Hm b1 b2;cases hkk:(K1==K2) with
    | false=>
     refine tZ 34 40 ?_;refine tZ 35 41 ?_;refine zD ?_;have O:Hid (¬X):=hid (fun h=>by rw [(q.1 h).2] at hkk;simp at hkk);clear qh R T;go_wp2_with fail;go_ret;exact⟨⟨k,rfl,Hk.out k (fun h=>O.out (by rw [<- HX.out];exact h)) rfl⟩,Hj.out⟩
    | true=>
     refine tZ 34 40 ?_;refine tZ 35 41 ?_;refine zD ?_;have O:Hid X:=hid (q.2 ⟨Hs.out,by simpa using hkk⟩);clear qh R T;go_wp2_with fail;go_roundw;case rel=>exact⟨k+1,Hf,by go_num,hid (Hr (by rw [HX.out];exact O.out)),Hj⟩
     case measure=>simp [intOf];omega
  ·obtain rfl:k=m:=by omega
   have dk:decide ((k:Int)<(k:Int))=false:=by simp
   have Ht:decide (k<k)=false:=by simp
   go_wp2_with fail;go_quiet (fail);have Hb:=hid (Qaz M.out nq);go_wp2_with fail;go_ret;exact⟨⟨k,rfl,hm,Nat.le_refl _,HE.out,fun h=>by omega⟩,Hb.out⟩
theorem QoW (B B':Nat)(v x:Value)(zs ns:List Int)(w:World)(ho:Own w B v zs)(hx:Own w B' x ns)(hxn:x.ownBlock≠none)(hB:B<=w.heap.size)(hl:zs.length+ns.length<=1000000000):
  ∃v' w',(Builtin.append_ #[22,22] 22 #[v,x]).run Tryz.prog w=.ok v' w'/\ Own w' B v' (zs++ns)/\ Gr w w' v v'/\ (v.ownBlock≠none ->v'.ownBlock≠none):=by
 have m:w.ownsRow B' 5 1 x ns.length (ns.map (Value.int .u8)):=hx;rcases m.2 with ⟨rfl,_⟩|⟨g,cap,u,rfl,_⟩
 ·exact absurd rfl hxn
 obtain⟨v',w',q,r,j⟩:=Qc6 B v zs ns ⟨g,0,none⟩ ns.length cap w ho rfl (World.ownsRow.cells m rfl) hB (by omega);refine⟨v',w',q,r,j,fun hv=> ?_⟩;rcases j.l with e|⟨k,e,_⟩
 ·rw [e];exact hv
 ·rw [e];simp
theorem Ql0 {w:World}{B:Nat}{v:Value}{zs:List Int}(h:Own w B v zs)(hz:0<zs.length):v.ownBlock≠none:=by
 obtain⟨m,j⟩:=h;rcases j with ⟨_,j⟩|⟨g,cap,k,rfl,_⟩
 ·omega
 ·simp [Value.ownBlock]
theorem QlC (l:List Lf)(f:Nat)(p:List ByteArray):0<(tB l (f+1) p).length:=by
 rw [Qfp,List.length_append];have:=(Qai 9 (kS l p l.length).length).2;omega
theorem QiT (l:List Lf)(p:List ByteArray)(k:Nat):∀j,k<=j ->kS l p k <+:kS l p j
 | 0,h=>by rw [show k=0 by omega];exact List.prefix_refl _
 | j+1,h=>by
  by_cases e:k=j+1
  ·rw [e];exact List.prefix_refl _
  ·have m:=QiT l p k j (by omega);cases h1:nx p (gL l j) with
   | none=>rw [Qcu h1];exact m
   | some y=>
    rw [Qcv h1];split
    ·exact m
    ·exact m.trans (List.prefix_append _ _)
theorem Qhd {α:Type}(f:α ->List Int){a b:List α}(h:a <+:b):(a.flatMap f).length<=(b.flatMap f).length:=by
 obtain⟨c,rfl⟩:=h;rw [List.flatMap_append,List.length_append];omega
structure Bd (w wr:World)(body:Value)(zs:List Int):Prop where
 b:Below w.heap.size w wr
 o:Own wr w.heap.size body zs
 n:body.ownBlock≠none
theorem Bd.keep {w wr w1:World}{body:Value}{zs:List Int}(h:Bd w wr body zs)(hb:Below wr.heap.size wr w1):Bd w w1 body zs:=
 ⟨h.b.trans (hb.mono h.b.size),Own.kept h.o hb (fun k hk=>(World.ownsRow.lt h.o k hk).2),h.n⟩
theorem Bd.app {w wr w1:World}{body v:Value}{zs ns:List Int}(h:Bd w wr body zs)(hb:Below wr.heap.size wr w1)(ho:Own w1 wr.heap.size v ns)(hz:0<ns.length)(hl:zs.length+ns.length<=1000000000):
  ∃v' m,(Builtin.append_ #[22,22] 22 #[body,v]).run Tryz.prog w1=.ok v' m/\ Bd w m v' (zs++ns):=by
 have j:=h.keep hb;obtain⟨v',m,e,u,q,r⟩:=QoW w.heap.size wr.heap.size body v zs ns w1 j.o ho (Ql0 ho hz) j.b.size hl;exact⟨v',m,e,j.b.trans (q.below j.b.size (fun k hk=>(World.ownsRow.lt j.o k hk).1)),u,r h.n⟩
theorem Bd.byte {w wr:World}{body:Value}{zs:List Int}(h:Bd w wr body zs)(Y:Int)(hl:zs.length<=1000000000):
  ∃v' m,(Builtin.append_ #[22,22] 22 #[body,.slice (some ⟨wr.heap.size,0,none⟩) 1 1]).run Tryz.prog (wr.alloc (.cells #[.int .u8 Y] 5))=.ok v' m/\ Bd w m v' (zs++[Y]):=by
 have v:Below wr.heap.size wr (wr.alloc (.cells #[.int .u8 Y] 5)):=zO _ _;have j:=h.keep v;obtain⟨v',m,e,y,r⟩:=Qc6 w.heap.size body zs [Y] ⟨wr.heap.size,0,none⟩ 1 1 (wr.alloc (.cells #[.int .u8 Y] 5)) j.o rfl (fun i u hu=>cell_one_new _ _ _ i u hu) j.b.size (by omega);refine⟨v',m,e,j.b.trans (r.below j.b.size (fun k hk=>(World.ownsRow.lt j.o k hk).1)),y,?_⟩;rcases r.l with q|⟨k,q,_⟩
 ·rw [q];exact h.n
 ·rw [q];simp
theorem Qmi {R F T:Nat ->Int}{n:Nat}{l:List Lf}{p:List ByteArray}{i e J g:Nat}{y:Ky}(hlv:QbQ R F T n l l.length)(hI:Iv l p i e)(hij:i<=J)(hfr:y ∉ kS l p J)(h1:1<=g)(hge:J+g<=e)(hy:Qat (gL l J).p (kd (gL l J).fl) p.length=y)(hsame:∀t,t<g ->Qat (gL l (J+t)).p (kd (gL l (J+t)).fl) p.length=y)(hdiff:J+g<e ->Qat (gL l (J+g)).p (kd (gL l (J+g)).fl) p.length≠y):
  kS l p (J+g)=kS l p J++[y]/\ dsK l p y l.length=((List.range g).map fun t=>gL l (J+t))/\ (∀s,y=(s,3) ->Iv l (p++[s]) J (J+g))/\∀z,nx p (gL l (J+g))=some z ->J+g<e ->z ∉ kS l p (J+g):=by
 have q:=hI.2.2;have j:∀t,t<g ->nx p (gL l (J+t))=some y:=fun t ht=>by
  rw [Qbi];exact⟨Qff.1 ((hI.1 (J+t) (by omega)).2 (by omega)),hsame t ht⟩
 have m:J+g<e ->nx p (gL l (J+g))≠some y:=fun hlt he=>by
  rw [Qbi] at he;exact hdiff hlt he.2
 have k:=Qki hlv hI hij hfr h1 hge j m;refine⟨?_,Qkg k (by omega),fun s es=>by subst es;exact Qmj k (by omega),fun z hz hlt=>Qkh hlv hI hfr h1 hge j m hlt hz⟩;have:=QeU hfr j (g - 1) (by omega);rwa [show J+(g - 1+1)=J+g by omega] at this
theorem Bd.made (w:World):Bd w (w.alloc (.cells #[] 5)) (.slice (some ⟨w.heap.size,0,none⟩) 0 0) []:=by
 refine⟨zO _ _,?_,by simp [Value.ownBlock]⟩;have:=World.ownsRow_lit (base:=w.heap.size) (e:=5) (size:=1) w #[] 0 (by omega) (by unfold maxLen;omega) rfl;simpa [Own] using this
theorem Bd.front {w wr w1:World}{body u:Value}{zs ns:List Int}(h:Bd w wr body zs)(hb:Below wr.heap.size wr w1)(ho:Own w1 wr.heap.size u ns)(hl:ns.length+zs.length<=1000000000):
  ∃v' j,(Builtin.append_ #[22,22] 22 #[u,body]).run Tryz.prog w1=.ok v' j/\ Own j w.heap.size v' (ns++zs)/\ Below w.heap.size w j:=by
 have m:=h.keep hb;have q:=Own.weak ho h.b.size;obtain⟨v',j,e,v,r,y⟩:=QoW w.heap.size w.heap.size u body ns zs w1 q m.o h.n m.b.size hl;exact⟨v',j,e,v,m.b.trans (r.below m.b.size (fun k hk=>(World.ownsRow.lt q k hk).1))⟩
structure Lp (l:List Lf)(p:List ByteArray)(w:World)(J M:Nat)(a:Option Addr)(c:Nat):Prop where
 c1:M<=c
 c2:c<=9223372036854775807
 a1:0<M ->∃b o,a=some ⟨b,o,none⟩/\ LAt w b o l J M
 fr:0<M ->∀y,nx p (gL l J)=some y ->y ∉ kS l p J
def QmG:Value ->Nat
 | .slice _ n _=>n
 | _=>0
theorem QhS {R F T:Nat ->Int}{n:Nat}(l:List Lf)(hlv:QbQ R F T n l l.length)(hbd:LvB l)(f:Nat)(p:List ByteArray)(hpf:p.length+(f+1)=8)
  (ih:∀(s:ByteArray),1<=f ->∀(i m c:Nat) (a:Option Addr) (w:World),m<=c ->c<=9223372036854775807 ->Iv l (p++[s]) i (i+m) ->(0<m ->∃b off,a=some ⟨b,off,none⟩/\ LAt w b off l i m) ->(tB l f (p++[s])).length<=90000000 ->
   Calls Tryz.prog 29 #[.slice a m c,.int .i64 ((p++[s]).length:Int)] w fun e w'=>∃v,e=.returned v/\ Own w' w.heap.size v (tB l f (p++[s]))/\ Below w.heap.size w w')
  (i m c:Nat) (a:Option Addr) (w:World) (hmc:m<=c) (hcm:c<=9223372036854775807) (hI:Iv l p i (i+m)) (hL:0<m ->∃b off,a=some ⟨b,off,none⟩/\ LAt w b off l i m) (hl:(tB l (f+1) p).length<=90000000):
  Calls Tryz.prog 29 #[.slice a m c,.int .i64 (p.length:Int)] w fun e w'=>∃v,e=.returned v/\ Own w' w.heap.size v (tB l (f+1) p)/\ Below w.heap.size w w':=by
  obtain⟨TB,Gn⟩:∃TB,tB l (f+1) p=TB:=⟨_,rfl⟩;rw [Gn] at hl ⊢;have Gk:Hid (uvF 9 (kS l p l.length).length++(kS l p l.length).flatMap (kB l f p)=TB):=hid (by rw [<- Gn,Qfp]);have Hm:=hid hI;have HL:=hid hL;obtain⟨d,hd⟩:∃d,p.length=d:=⟨_,rfl⟩;have HD:=hid hd;have G8:Hid (∀(s:ByteArray),1<=f ->∀(i m c:Nat) (a:Option Addr) (w:World),m<=c ->c<=9223372036854775807 ->Iv l (p++[s]) i (i+m) ->(0<m ->∃b off,a=some ⟨b,off,none⟩/\ LAt w b off l i m) ->(tB l f (p++[s])).length<=90000000 ->
   Calls Tryz.prog 29 #[.slice a m c,.int .i64 ((d:Int)+1)] w fun e w'=>∃v,e=.returned v/\ Own w' w.heap.size v (tB l f (p++[s]))/\ Below w.heap.size w w'):=hid (fun s hf i m c a w j k G h4 h5=>by
    have:=ih s hf i m c a w j k G h4 h5;rw [show (((p++[s]).length:Nat):Int)=(d:Int)+1 by simp;omega] at this;exact this)
  rw [hd] at hpf ⊢;have Kf:m<=1000:=by have:=hI.2;have:=hbd.len;omega
  clear Gn hI hL hd ih;go_enter Tryz.func29,Tryz.ntmps29;go_wp2_with fail;go_loopw [0,5,6] (fun lv cv bd wr=>∃(J M E:Nat) (a':Option Addr),Hid (i<=J/\ J+M=i+m)/\ lv=.slice a' M E/\ cv=.int .i64 ((kS l p J).length:Nat)/\ Hid (Lp l p w J M a' E)/\ Hid (Bd w wr bd ((kS l p J).flatMap (kB l f p)))) (fun lv _ _ _=>QmG lv);case atStart=>
   have e:=Hm.start i zL;refine⟨i,m,c,a,hid ⟨Nat.le_refl _,rfl⟩,rfl,by rw [e];rfl,hid ⟨hmc,hcm,HL.out,fun _ y _=>by rw [e];simp⟩,hid ?_⟩;rw [e];exact Bd.made w
  case round=>
   obtain⟨J,M,E,a',u,rfl,rfl,Hv,Hi⟩:=hrel;clear HL;by_cases Gh:0<M
   ·obtain⟨b,o,rfl,H6⟩:=Hv.a1 Gh;have Hz:=hid H6;have hM:M<=1000:=by have:=u.out;omega
    have Hl:Hid (i+m<=l.length/\ l.length<=1000):=hid ⟨Hm.2.2,hbd.len⟩;have HP:Hid (∀t,t<M ->d<(gL l (J+t)).p.length/\ (gL l (J+t)).p.length<=8):=hid (fun t ht=>by
     have hJ:=u.out;have he:=Hl.out;have j:=Qff.1 ((Hm.1 (J+t) (by omega)).2 (by omega));rw [HD.out] at j;exact⟨j.2,(hlv (J+t) (by omega)).1.1.2.1⟩)
    have Hy:=HP 0 Gh;have G9:Hid (QbV (gL l J)):=hid ((hlv J (by have:=u.out;have:=Hl.out;omega)).1);obtain⟨qa,qc,h0,hs,j,k,G,h4⟩:=H6.2 0 Gh;simp only [Nat.add_zero,Nat.zero_mul] at h0 hs j k G h4 Hy;rcases hs with hs|⟨kb,ko,rfl,G4,G5⟩
    ·omega
    have h5:=G5 d Hy.1;have Hx:=H6.1;have Gd:=hid (Hv.fr Gh);have H0:Hid (nx p (gL l J)=some (Qat (gL l J).p (kd (gL l J).fl) d)):=hid (by
     have hJ:=u.out;have he:=Hl.out;have j:=Qff.1 ((Hm.1 J (by omega)).2 (by omega));rw [Qbi];exact⟨j,by rw [HD.out]⟩)
    have Gr:(gS (gL l J).p d).size<=40:=(G9.1.2.2 d Hy.1).2;have Hr:=hid (Qkt l b o J M E d wr (by omega) (by omega) (by omega) (fun t ht=>by have:=HP t ht;omega) (H6.below Hi.b));have Gg:Hid (Qat (gL l J).p (kd (gL l J).fl) d=(gS (gL l J).p d,kAt d (gL l J).p.length (gL l J).fl)):=hid rfl;have Gf:Hid (kAt d (gL l J).p.length (gL l J).fl=1 \/kAt d (gL l J).p.length (gL l J).fl=2 \/(kAt d (gL l J).p.length (gL l J).fl=3/\ 1<=f)):=hid (by
     unfold kAt;split
     ·exact .inr (.inr ⟨rfl,by omega⟩)
     ·rcases Qg0 (gL l J).fl with h|h
      ·exact .inl h
      ·exact .inr (.inl h))
    have N:Hid ((kS l p J).length<=1000/\ ((kS l p J).flatMap (kB l f p)).length<=90000000):=hid ⟨by have:=Qev l p J;have hJ:=u.out;have he:=Hl.out;omega,by
     have j:=Qhd (kB l f p) (QiT l p J l.length (by have hJ:=u.out;have he:=Hl.out;omega));have k:TB.length<=90000000:=hl;rw [<- Gk.out,List.length_append] at k;omega⟩
    have Hs:Hid (∀g,1<=g ->g<=M ->(∀t,t<g ->Qat (gL l (J+t)).p (kd (gL l (J+t)).fl) d=Qat (gL l J).p (kd (gL l J).fl) d) ->(g<M ->Qat (gL l (J+g)).p (kd (gL l (J+g)).fl) d≠Qat (gL l J).p (kd (gL l J).fl) d) ->
      kS l p (J+g)=kS l p J++[Qat (gL l J).p (kd (gL l J).fl) d]/\ dsK l p (Qat (gL l J).p (kd (gL l J).fl) d) l.length=((List.range g).map fun t=>gL l (J+t))/\ (∀s,Qat (gL l J).p (kd (gL l J).fl) d=(s,3) ->Iv l (p++[s]) J (J+g))/\ (g<M ->∀z,nx p (gL l (J+g))=some z ->z ∉ kS l p (J+g))/\ ((kS l p (J+g)).flatMap (kB l f p)).length<=90000000):=hid (fun g g1 g2 g3 g4=>by
     have hJ:=u.out;have he:=Hl.out;have Gp:=HD.out;obtain⟨r1,r2,r3,r4⟩:=Qmi hlv Hm.out hJ.1 (Gd _ H0.out) g1 (by omega) (by rw [Gp]) (by rw [Gp];exact g3) (by rw [Gp];exact fun h=>g4 (by omega));refine⟨r1,r2,r3,fun h z hz=>r4 z hz (by omega),?_⟩;have j:=Qhd (kB l f p) (QiT l p (J+g) l.length (by omega));have k:TB.length<=90000000:=hl;rw [<- Gk.out,List.length_append] at k;omega)
    have Ge:Hid (∀t,t<M ->∃r q:Nat,∃v,r<=7/\ q<=1000000000/\ v.size<=200/\ (∀Y:Int,lfB Y (gL l (J+t))=uvF 9 r++(uvF 9 q++if Y=1 then Qae v else []))/\∀w',Below w.heap.size w w' ->w'.cell? ⟨b,o+t*5+2,none⟩=some (.int .i64 (r:Int))/\ w'.cell? ⟨b,o+t*5+3,none⟩=some (.int .i64 (q:Int))/\ w'.cell? ⟨b,o+t*5+4,none⟩=some (.string v)):=hid (fun t ht=>by
     have hJ:=u.out;have he:=Hl.out;have hr:=hbd.rep (J+t) (by omega);have hq:=hbd.seq (J+t) (by omega);have hv:=hbd.val (J+t) (by omega);refine⟨(gL l (J+t)).r.toNat,(gL l (J+t)).q.toNat,(gL l (J+t)).v,by omega,by omega,hv,fun Y=>rfl,fun w' hb'=> ?_⟩;obtain⟨_,_,_,_,_,U,V,Z⟩:=(Hz.below hb').2 t ht;refine⟨?_,?_,Z⟩
     ·rw [U];congr 2;omega
     ·rw [V];congr 2;omega)
    obtain⟨x,hx⟩:∃x,gL l J=x:=⟨_,rfl⟩;rw [hx] at h0 j k G h4 h5 Hy Gr Gg Gf H0 Hs Hr;clear hx;obtain⟨xp,fl,xr,xq,xv⟩:=x;dsimp only at h0 j k G h4 h5 Hy Gr Gg Gf H0 Hs Hr;rw [Gg.out] at H0 Hs Hr;obtain⟨s,Gq⟩:∃s,gS xp d=s:=⟨_,rfl⟩;obtain⟨pn,Gi⟩:∃pn,xp.length=pn:=⟨_,rfl⟩;obtain⟨Y,hY⟩:∃Y,kAt d pn fl=Y:=⟨_,rfl⟩;rw [Gq,Gi,hY] at H0 Hs Hr;rw [Gi,hY] at Gf;rw [Gq] at Gr h5;rw [Gi] at h0 Hy;have Ka:=hid hY;clear Gq Gi hY Gg G5 H6;have HC:Hid (∀w',Below w.heap.size w w' ->w'.cell? ⟨b,o,none⟩=some (.slice (some ⟨kb,ko,none⟩) pn qc)/\ w'.cell? ⟨b,o+1,none⟩=some (.bool fl)/\ w'.cell? ⟨b,o+2,none⟩=some (.int .i64 xr)/\ w'.cell? ⟨b,o+3,none⟩=some (.int .i64 xq)/\ w'.cell? ⟨b,o+4,none⟩=some (.string xv)/\ w'.cell? ⟨kb,ko+d,none⟩=some (.string s)):=hid (fun w' hB=>⟨(hB.cell (p:=⟨b,_,none⟩) Hx).trans h0,(hB.cell (p:=⟨b,_,none⟩) Hx).trans j,(hB.cell (p:=⟨b,_,none⟩) Hx).trans k,(hB.cell (p:=⟨b,_,none⟩) Hx).trans G,(hB.cell (p:=⟨b,_,none⟩) Hx).trans h4,(hB.cell (p:=⟨kb,_,none⟩) G4).trans h5⟩);clear h0 j k G h4 h5 Hx G4;obtain⟨X,Hf⟩:∃X,(kS l p J).length=X:=⟨_,rfl⟩;obtain⟨H,Hg⟩:∃H,(kS l p J).flatMap (kB l f p)=H:=⟨_,rfl⟩;rw [Hf,Hg] at N;rw [Hg] at Hi;have Hq:=hid Hf;have Hw:=hid Hg;have Go:=N.1;simp only [Hf];have Ke:M<=E:=Hv.c1;have Kb:E<=9223372036854775807:=Hv.c2;clear Hf Hg Hv;go_wp2_with fail;refine Hr.mono ?_;rintro e w1 ⟨⟨g,rfl,g1,g2,g3,g4⟩,b1⟩;have O:=hid (Hs g g1 g2 g3 g4);have Hj:=hid (Hi.keep b1);obtain⟨q0,q1,q2,q3,q4,q5⟩:=HC w1 Hj.b;clear Hs g3 g4 Hi Hr b1;go_wp2_with fail;refine(Qg5 (some ⟨kb,ko,none⟩) pn qc fl xr xq xv d w1 (by omega) (by omega)).mono ?_;rintro e w2 ⟨rfl,b2⟩;rw [Ka.out];have Hk:=hid (Hj.keep b2);clear q0 q1 q2 q3 q4 q5 Hj b2;obtain⟨q0,q1,q2,q3,q4,q5⟩:=HC w2 Hk.b;go_wp2_with fail;refine(QhA s w2 (by omega)).mono ?_;rintro e w3 ⟨v3,rfl,o3,b3,z3⟩;have Gt:=QaI s;obtain⟨v4,w4,B,G0⟩:=Hk.app b3 o3 (by unfold Qae;have:=(Qai 9 s.size).2;rw [List.length_append];omega) (by have:=N.2;omega);have Hb:=hid G0;clear q0 q1 q2 q3 q4 q5 Hk b3 o3 z3 G0;have Hu:Hid ((H++Qae s).length<=90000050):=hid (by have:=N.2;rw [List.length_append];omega);rcases Gf.out with rfl|rfl|⟨rfl,hf⟩
    ·have Ht:Hid (kB l f p (s,1)=Qae s++([1]++(uvF 9 g++(List.range g).flatMap fun t=>lfB 1 (gL l (J+t))))):=hid (by unfold kB;rw [if_neg (show¬(1:Int)=3 by decide),O.2.1];unfold mB;simp [List.flatMap_map]);obtain⟨v5,w5,Ha,Hd⟩:=Hb.byte 1 (by have:=Hu.out;omega);have L:=hid Hd;have Hn:Hid ((H++Qae s++[1]).length<=90000051):=hid (by have:=Hu.out;rw [List.length_append];simp;simpa using this);clear Hd Hb Gt;go_wp2_with (at_builtin;first|(refine Qaa rfl _ _ _ _ rfl B (by rfl) (by rfl) rfl ?_;clear B)|(refine Qaa rfl _ _ _ _ rfl Ha (by rfl) (by rfl) rfl ?_;clear Ha));refine(QaM g w5 (by omega)).mono ?_;rintro e w6 ⟨v6,rfl,o6,b6,z6⟩;have H9:=Qai 9 g;obtain⟨v7,w7,K,He⟩:=L.app b6 o6 H9.2 (by have:=Hn.out;omega);have I:=hid He;obtain⟨A,D⟩:∃A,H++Qae s++[1]++uvF 9 g=A:=⟨_,rfl⟩;have Gm:=hid D;have Gj:Hid (A.length<=90000070):=hid (by rw [<- D,List.length_append];have:=Hn.out;omega);rw [D] at I;clear D He o6 b6 z6 H9 L;go_wp2_with (at_builtin;refine Qaa rfl _ _ _ _ rfl K (by rfl) (by rfl) rfl ?_;clear K);go_loopw [6,9] (fun bd iv wr=>∃t:Nat,t<=g/\ iv=.int .i64 t/\ Hid (Bd w wr bd (A++(List.range t).flatMap fun t=>lfB 1 (gL l (J+t))))) (fun _ iv _=>g - (intOf iv).toNat);case atStart=>exact⟨0,Nat.zero_le _,rfl,hid (by simpa using I.out)⟩
     case round=>
      obtain⟨t,ht,rfl,Q⟩:=hrel;clear I;by_cases Gs:t<g
      ·obtain⟨r,q,v,hr,hq,hv,C,Ho⟩:=Ge t (by omega);have HK:=hid Ho;obtain⟨U,V,Z⟩:=Ho _ Q.b;clear Ho;have H1:Hid (A++((List.range (t+1)).flatMap fun t=>lfB 1 (gL l (J+t)))=A++((List.range t).flatMap fun t=>lfB 1 (gL l (J+t)))++(uvF 9 r++(uvF 9 q++Qae v))):=hid (by rw [List.range_succ,List.flatMap_append];simp [C]);have Hc:Hid ((A++(List.range t).flatMap fun t=>lfB 1 (gL l (J+t))).length<=90000070+230*1000):=hid (by
        have k:=Qck (fun t=>lfB 1 (gL l (J+t))) (fun _=>1) 230 (List.range t) (fun z hz=>by
         have Kc:=List.mem_range.1 hz;obtain⟨r,q,v,hr,hq,hv,C,_⟩:=Ge z (by omega);have a1:=(Qai 9 r).1;have a2:=(Qai 9 q).1;have a3:=QaI v;rw [C];simp only [List.length_append];split
         ·omega
         ·simp;omega)
        have G:∀ls:List Nat,(ls.map fun _=>1).sum=ls.length:=fun ls=>by
         induction ls with
         | nil=>rfl
         | cons a r ih=>simp only [List.map_cons,List.sum_cons,ih,List.length_cons];omega
        rw [G,List.length_range] at k;have:=Gj.out;rw [List.length_append];omega)
       obtain⟨us,Ga⟩:∃us,A++((List.range t).flatMap fun t=>lfB 1 (gL l (J+t)))=us:=⟨_,rfl⟩;rw [Ga] at Q H1 Hc;clear Ga C;have Gv:=Qai 9 r;have Gu:=Qai 9 q;go_wp2_with fail;refine(QaM r _ (by omega)).mono ?_;rintro e y1 ⟨u1,rfl,Gb,H2,Gw⟩;obtain⟨u2,y2,H7,H4⟩:=Q.app H2 Gb Gv.2 (by have:=Hc.out;omega);have Hh:=hid H4;clear H4 H2 Gb Gw Q U V Z;obtain⟨U,V,Z⟩:=HK _ Hh.b;go_wp2_with (at_builtin;refine Qaa rfl _ _ _ _ rfl H7 (by rfl) (by rfl) rfl ?_;clear H7);refine(QaM q _ (by omega)).mono ?_;rintro e y3 ⟨u3,rfl,Gc,H3,Gx⟩;obtain⟨u4,y4,H8,H5⟩:=Hh.app H3 Gc Gu.2 (by have:=Hc.out;rw [List.length_append];omega);have Hp:=hid H5;clear H5 H3 Gc Gx Hh U V Z;obtain⟨U,V,Z⟩:=HK _ Hp.b;go_wp2_with (at_builtin;refine Qaa rfl _ _ _ _ rfl H8 (by rfl) (by rfl) rfl ?_;clear H8);refine(QhA v _ (by omega)).mono ?_;rintro e y5 ⟨u5,rfl,G6,Gz,Kd⟩;have Kg:=QaI v;obtain⟨u6,y6,G2,G1⟩:=Hp.app Gz G6 (by unfold Qae;have:=(Qai 9 v.size).2;rw [List.length_append];omega) (by have:=Hc.out;rw [List.length_append,List.length_append];omega);have G7:=hid G1;clear G1 Gz G6 Kd Hp U V Z;go_wp2_with (at_builtin;refine Qaa rfl _ _ _ _ rfl G2 (by rfl) (by rfl) rfl ?_;clear G2);go_roundw;case rel=>exact⟨t+1,Gs,by go_num,hid (by rw [H1.out];simpa using G7.out)⟩
       case measure=>simp [intOf];omega
      ·obtain rfl:g=t:=by omega
       have W:Hid (Bd w wr u6 ((kS l p (J+g)).flatMap (kB l f p))):=hid (by rw [O.1,List.flatMap_append,Hw.out];simp only [List.flatMap_cons,List.flatMap_nil,List.append_nil];rw [Ht.out];simpa [<- Gm.out] using Q.out);have P:Hid ((kS l p (J+g)).length=X+1):=hid (by rw [O.1,List.length_append,Hq.out];rfl);have S:Hid (0<M - g ->∀y,nx p (gL l (J+g))=some y ->y ∉ kS l p (J+g)):=hid (fun h=>O.2.2.2.1 (by omega));clear Q Hw Hq Gd;by_cases G3:g<E
       ·go_wp2_with fail;go_roundw;case rel=>exact⟨J+g,M - g,E - g,some ⟨b,o+g*5,none⟩,hid (by have:=u.out;omega),by first|rfl|rw [if_neg (by omega)],by rw [P.out];go_num,hid ⟨by omega,by omega,fun h=>⟨b,_,rfl,Hz.drop g2⟩,S.out⟩,W⟩
        case measure=>simp [QmG];omega
       ·go_wp2_with fail;go_roundw;case rel=>exact⟨J+g,M - g,E - g,some ⟨b,o,none⟩,hid (by have:=u.out;omega),by first|rfl|rw [if_pos (by omega)],by rw [P.out];go_num,hid ⟨by omega,by omega,fun h=>by omega,S.out⟩,W⟩
        case measure=>simp [QmG];omega
    ·have Ht:Hid (kB l f p (s,2)=Qae s++([2]++(uvF 9 g++(List.range g).flatMap fun t=>lfB 2 (gL l (J+t))))):=hid (by unfold kB;rw [if_neg (show¬(2:Int)=3 by decide),O.2.1];unfold mB;simp [List.flatMap_map]);obtain⟨v5,w5,Ha,Hd⟩:=Hb.byte 2 (by have:=Hu.out;omega);have L:=hid Hd;have Hn:Hid ((H++Qae s++[2]).length<=90000051):=hid (by have:=Hu.out;rw [List.length_append];simp;simpa using this);clear Hd Hb Gt;go_wp2_with (at_builtin;first|(refine Qaa rfl _ _ _ _ rfl B (by rfl) (by rfl) rfl ?_;clear B)|(refine Qaa rfl _ _ _ _ rfl Ha (by rfl) (by rfl) rfl ?_;clear Ha));refine(QaM g w5 (by omega)).mono ?_;rintro e w6 ⟨v6,rfl,o6,b6,z6⟩;have H9:=Qai 9 g;obtain⟨v7,w7,K,He⟩:=L.app b6 o6 H9.2 (by have:=Hn.out;omega);have I:=hid He;obtain⟨A,D⟩:∃A,H++Qae s++[2]++uvF 9 g=A:=⟨_,rfl⟩;have Gm:=hid D;have Gj:Hid (A.length<=90000070):=hid (by rw [<- D,List.length_append];have:=Hn.out;omega);rw [D] at I;clear D He o6 b6 z6 H9 L;go_wp2_with (at_builtin;refine Qaa rfl _ _ _ _ rfl K (by rfl) (by rfl) rfl ?_;clear K);go_loopw [6,9] (fun bd iv wr=>∃t:Nat,t<=g/\ iv=.int .i64 t/\ Hid (Bd w wr bd (A++(List.range t).flatMap fun t=>lfB 2 (gL l (J+t))))) (fun _ iv _=>g - (intOf iv).toNat);case atStart=>exact⟨0,Nat.zero_le _,rfl,hid (by simpa using I.out)⟩
     case round=>
      obtain⟨t,ht,rfl,Q⟩:=hrel;clear I;by_cases Gs:t<g
      ·obtain⟨r,q,v,hr,hq,hv,C,Ho⟩:=Ge t (by omega);have HK:=hid Ho;obtain⟨U,V,Z⟩:=Ho _ Q.b;clear Ho;have H1:Hid (A++((List.range (t+1)).flatMap fun t=>lfB 2 (gL l (J+t)))=A++((List.range t).flatMap fun t=>lfB 2 (gL l (J+t)))++(uvF 9 r++uvF 9 q)):=hid (by rw [List.range_succ,List.flatMap_append];simp [C]);have Hc:Hid ((A++(List.range t).flatMap fun t=>lfB 2 (gL l (J+t))).length<=90000070+230*1000):=hid (by
        have k:=Qck (fun t=>lfB 2 (gL l (J+t))) (fun _=>1) 230 (List.range t) (fun z hz=>by
         have Kc:=List.mem_range.1 hz;obtain⟨r,q,v,hr,hq,hv,C,_⟩:=Ge z (by omega);have a1:=(Qai 9 r).1;have a2:=(Qai 9 q).1;have a3:=QaI v;rw [C];simp only [List.length_append];split
         ·omega
         ·simp;omega)
        have G:∀ls:List Nat,(ls.map fun _=>1).sum=ls.length:=fun ls=>by
         induction ls with
         | nil=>rfl
         | cons a r ih=>simp only [List.map_cons,List.sum_cons,ih,List.length_cons];omega
        rw [G,List.length_range] at k;have:=Gj.out;rw [List.length_append];omega)
       obtain⟨us,Ga⟩:∃us,A++((List.range t).flatMap fun t=>lfB 2 (gL l (J+t)))=us:=⟨_,rfl⟩;rw [Ga] at Q H1 Hc;clear Ga C;have Gv:=Qai 9 r;have Gu:=Qai 9 q;go_wp2_with fail;refine(QaM r _ (by omega)).mono ?_;rintro e y1 ⟨u1,rfl,Gb,H2,Gw⟩;obtain⟨u2,y2,H7,H4⟩:=Q.app H2 Gb Gv.2 (by have:=Hc.out;omega);have Hh:=hid H4;clear H4 H2 Gb Gw Q U V Z;obtain⟨U,V,Z⟩:=HK _ Hh.b;go_wp2_with (at_builtin;refine Qaa rfl _ _ _ _ rfl H7 (by rfl) (by rfl) rfl ?_;clear H7);refine(QaM q _ (by omega)).mono ?_;rintro e y3 ⟨u3,rfl,Gc,H3,Gx⟩;obtain⟨u4,y4,H8,H5⟩:=Hh.app H3 Gc Gu.2 (by have:=Hc.out;rw [List.length_append];omega);have Hp:=hid H5;clear H5 H3 Gc Gx Hh U V Z;obtain⟨U,V,Z⟩:=HK _ Hp.b;go_wp2_with (at_builtin;refine Qaa rfl _ _ _ _ rfl H8 (by rfl) (by rfl) rfl ?_;clear H8);go_roundw;case rel=>exact⟨t+1,Gs,by go_num,hid (by rw [H1.out];simpa using Hp.out)⟩
       case measure=>simp [intOf];omega
      ·obtain rfl:g=t:=by omega
       have W:Hid (Bd w wr u6 ((kS l p (J+g)).flatMap (kB l f p))):=hid (by rw [O.1,List.flatMap_append,Hw.out];simp only [List.flatMap_cons,List.flatMap_nil,List.append_nil];rw [Ht.out];simpa [<- Gm.out] using Q.out);have P:Hid ((kS l p (J+g)).length=X+1):=hid (by rw [O.1,List.length_append,Hq.out];rfl);have S:Hid (0<M - g ->∀y,nx p (gL l (J+g))=some y ->y ∉ kS l p (J+g)):=hid (fun h=>O.2.2.2.1 (by omega));clear Q Hw Hq Gd;by_cases G3:g<E
       ·go_wp2_with fail;go_roundw;case rel=>exact⟨J+g,M - g,E - g,some ⟨b,o+g*5,none⟩,hid (by have:=u.out;omega),by first|rfl|rw [if_neg (by omega)],by rw [P.out];go_num,hid ⟨by omega,by omega,fun h=>⟨b,_,rfl,Hz.drop g2⟩,S.out⟩,W⟩
        case measure=>simp [QmG];omega
       ·go_wp2_with fail;go_roundw;case rel=>exact⟨J+g,M - g,E - g,some ⟨b,o,none⟩,hid (by have:=u.out;omega),by first|rfl|rw [if_pos (by omega)],by rw [P.out];go_num,hid ⟨by omega,by omega,fun h=>by omega,S.out⟩,W⟩
        case measure=>simp [QmG];omega
    ·have Ht:Hid (kB l f p (s,3)=Qae s++([3]++tB l f (p++[s]))):=hid (by unfold kB;rw [if_pos rfl]);have Gl:Hid ((tB l f (p++[s])).length<=90000000/\ 0<(tB l f (p++[s])).length):=hid ⟨by
      have j:=O.2.2.2.2;rw [O.1,List.flatMap_append,List.length_append] at j;simp only [List.flatMap_cons,List.flatMap_nil,List.append_nil] at j;rw [Ht.out] at j;simp only [List.length_append] at j;omega,by
      obtain⟨f',rfl⟩:∃f',f=f'+1:=⟨f - 1,by omega⟩;exact QlC _ _ _⟩
     obtain⟨v5,w5,Ha,Hd⟩:=Hb.byte 3 (by have:=Hu.out;omega);have L:=hid Hd;have Hn:Hid ((H++Qae s++[3]).length<=90000051):=hid (by have:=Hu.out;rw [List.length_append];simp;simpa using this);clear Hd Hb Gt;go_wp2_with (at_builtin;first|(refine Qaa rfl _ _ _ _ rfl B (by rfl) (by rfl) rfl ?_;clear B)|(refine Qaa rfl _ _ _ _ rfl Ha (by rfl) (by rfl) rfl ?_;clear Ha));refine(G8 s hf J g E (some ⟨b,o,none⟩) w5 (by omega) Kb (O.2.2.1 s rfl) (fun _=>⟨b,o,rfl,(Hz.take g2).below L.b⟩) Gl.1).mono ?_;rintro e w6 ⟨v6,rfl,o6,b6⟩;obtain⟨v7,w7,K,He⟩:=L.app b6 o6 Gl.2 (by have:=Hn.out;have:=Gl.1;omega);have I:=hid He;clear He o6 b6 L;have W:Hid (Bd w w7 v7 ((kS l p (J+g)).flatMap (kB l f p))):=hid (by rw [O.1,List.flatMap_append,Hw.out];simp only [List.flatMap_cons,List.flatMap_nil,List.append_nil];rw [Ht.out];simpa [List.append_assoc] using I.out);have P:Hid ((kS l p (J+g)).length=X+1):=hid (by rw [O.1,List.length_append,Hq.out];rfl);have S:Hid (0<M - g ->∀y,nx p (gL l (J+g))=some y ->y ∉ kS l p (J+g)):=hid (fun h=>O.2.2.2.1 (by omega));clear I Hw Hq Gd;by_cases G3:g<E
     ·go_wp2_with (at_builtin;refine Qaa rfl _ _ _ _ rfl K (by rfl) (by rfl) rfl ?_;clear K);go_roundw;case rel=>exact⟨J+g,M - g,E - g,some ⟨b,o+g*5,none⟩,hid (by have:=u.out;omega),by first|rfl|rw [if_neg (by omega)],by rw [P.out];go_num,hid ⟨by omega,by omega,fun h=>⟨b,_,rfl,Hz.drop g2⟩,S.out⟩,W⟩
      case measure=>simp [QmG];omega
     ·go_wp2_with (at_builtin;refine Qaa rfl _ _ _ _ rfl K (by rfl) (by rfl) rfl ?_;clear K);go_roundw;case rel=>exact⟨J+g,M - g,E - g,some ⟨b,o,none⟩,hid (by have:=u.out;omega),by first|rfl|rw [if_pos (by omega)],by rw [P.out];go_num,hid ⟨by omega,by omega,fun h=>by omega,S.out⟩,W⟩
      case measure=>simp [QmG];omega
   ·obtain rfl:M=0:=by omega
    have Gy:Hid (kS l p J=kS l p l.length):=hid (by have j:=u.out;have k:=Hm.out;rw [k.stop l.length k.2.2 zL];congr 1;omega);have N:Hid ((kS l p J).length<=1000/\ uvF 9 (kS l p J).length++(kS l p J).flatMap (kB l f p)=TB):=hid ⟨by have:=Qev l p J;have j:=u.out;have k:=Hm.2.2;have:=hbd.len;omega,by rw [Gy.out];exact Gk.out⟩;obtain⟨X,Hf⟩:∃X,(kS l p J).length=X:=⟨_,rfl⟩;obtain⟨H,Hg⟩:∃H,(kS l p J).flatMap (kB l f p)=H:=⟨_,rfl⟩;rw [Hf,Hg] at N;rw [Hg] at Hi;have Go:=N.1;simp only [Hf];clear Hf Hg Hv Gy u;go_wp2_with fail;refine(QaM X _ (by omega)).mono ?_;rintro e w1 ⟨v1,rfl,o1,b1,z1⟩;obtain⟨v2,w2,B,o2,b2⟩:=Hi.front b1 o1 (by have j:=N.2;have k:TB.length<=90000000:=hl;rw [<- j,List.length_append] at k;omega);rw [N.2] at o2;have HO:=hid o2;have HB:=hid b2;clear o2 b2 b1 o1 z1 Hi;go_wp2_with (at_builtin;refine Qaa rfl _ _ _ _ rfl B (by rfl) (by rfl) rfl ?_;clear B);go_ret;exact⟨v2,rfl,HO.out,HB.out⟩
theorem Qmx {R F T:Nat ->Int}{n:Nat}(l:List Lf)(hlv:QbQ R F T n l l.length)(hbd:LvB l):∀(f:Nat) (p:List ByteArray),p.length+f=8 ->1<=f ->∀(i m c:Nat) (a:Option Addr) (w:World),m<=c ->c<=9223372036854775807 ->Iv l p i (i+m) ->(0<m ->∃b off,a=some ⟨b,off,none⟩/\ LAt w b off l i m) ->(tB l f p).length<=90000000 ->
  Calls Tryz.prog 29 #[.slice a m c,.int .i64 (p.length:Int)] w fun e w'=>∃v,e=.returned v/\ Own w' w.heap.size v (tB l f p)/\ Below w.heap.size w w':=by
 intro f;induction f with
 | zero=>intro p _ j;omega
 | succ f IH=>exact fun p hpf _ i m c a w j h2 h3 h4 h5=>QhS l hlv hbd f p hpf (fun s hf=>IH (p++[s]) (by rw [List.length_append];simp;omega) hf) i m c a w j h2 h3 h4 h5
open Go.Maps Go.Sort
theorem QjK {w:World}{o:Oper}{a:Act}{K:Act ->World ->Prop}{Q:Exit ->Act ->World ->Prop}(s x:Operand)
  (ho:o.op=.call {callee:=.builtin .append,args:=#[s,x],argTypes:=#[22,22]})
  (B B':Nat) (b v:Value) (zs ys:List Int) (hs:a.eval s=b) (hown:Own w B b zs) (hx:a.eval x=v) (hv:Own w B' v ys) (hvn:v.ownBlock≠none) (hbn:b.ownBlock≠none) (hl:zs.length+ys.length<=1000000000) (hB:B<=w.heap.size)
  (h:∀v' w',Own w' B v' (zs++ys) ->Gr w w' b v' ->v'.ownBlock≠none ->K (a.put o.dst v') w'):o.wp Tryz.prog a w K Q:=by
 obtain⟨p,q,z,t,i⟩:=info_parts Tryz.infoByte;have u:=hv;obtain⟨V,y⟩:=hv;rcases y with ⟨rfl,_⟩|⟨g,cap,A,rfl,E,M,U,O,r⟩
 ·exact absurd rfl hvn
 refine QcJ s x 22 ho B 5 p (.int .u8 0) 1 1 Tryz.underlying22 q z t i rfl (by decide) b zs.length _ hs hown ⟨g,0,none⟩ ys.length cap (ys.map (Value.int .u8)) hx (by simp) (World.ownsRow.cells u rfl) (ints_oneCell .u8 _) (by unfold maxLen;omega) (by omega) hB ?_;intro v' w' k m j;refine h v' w' ?_ (Gr.app m j) ?_
 ·unfold Own;rw [List.length_append,List.map_append];exact k
 ·rcases j with j|j
  ·rw [j];exact hbn
  ·rw [j];simp
theorem QbN {w:World}{ops:Array Oper}{rest:List Oper}{o:Oper}{a:Act}{Q:Exit ->Act ->World ->Prop}(hgd:o.guard=none)(s x:Operand)
  (ho:o.op=.call {callee:=.builtin .append,args:=#[s,x],argTypes:=#[22,22]})
  (B B':Nat) (b v:Value) (zs ys:List Int) (hs:a.eval s=b) (hown:Own w B b zs) (hx:a.eval x=v) (hv:Own w B' v ys) (hvn:v.ownBlock≠none) (hbn:b.ownBlock≠none) (hl:zs.length+ys.length<=1000000000) (hB:B<=w.heap.size)
  (h:∀v' w',Own w' B v' (zs++ys) ->Gr w w' b v' ->v'.ownBlock≠none ->wpList Tryz.prog ops Q rest (a.put o.dst v') w'):wpList Tryz.prog ops Q (o::rest) a w:=
 wpList_plain hgd fun _ hK=>QjK s x ho B B' b v zs ys hs hown hx hv hvn hbn hl hB fun v' w' h2 h3 h4=>hK _ _ (h v' w' h2 h3 h4)
theorem Own.some {w:World}{B:Nat}{v:Value}{zs:List Int}(h:Own w B v zs)(hz:0<zs.length):v.ownBlock≠none:=by
 obtain⟨m,j⟩:=h;rcases j with ⟨_,j⟩|⟨g,cap,k,rfl,_⟩
 ·omega
 ·simp [Value.ownBlock]
def Qd2 (L:Int ->List (Int×Int))(k:Nat):List Int:=(KS L k).flatMap (QmF L)
theorem QfM (L:Int ->List (Int×Int))(ks:List Int):∀k,k<=ks.length ->Qfw L ks k=(ks.take k).flatMap (QmF L)
 | 0,_=>by simp [Qfw]
 | k+1,h=>by
  have e:ks.take (k+1)=ks.take k++[ks.getD k 0]:=by
   rw [List.take_add_one];simp [List.getD,show k<ks.length by omega]
  rw [e,List.flatMap_append,<- QfM L ks k (by omega)];simp [Qfw]
theorem Qfi (L:Int ->List (Int×Int)):QdR L=uvF 9 (KS L 8).length++Qd2 L 8:=by
 unfold QdR Qd2;rw [QfM L _ _ zL,List.take_length]
theorem QkT {L:Int ->List (Int×Int)}{k:Nat}(h:L (k:Int)≠[]):KS L (k+1)=KS L k++[(k:Int)]:=by
 have:(L (k:Int)).isEmpty=false:=by cases e:L (k:Int) with|nil=>exact absurd e h|cons _ _=>rfl
 simp [KS,this]
theorem QmO {L:Int ->List (Int×Int)}{k:Nat}(h:L (k:Int)=[]):KS L (k+1)=KS L k:=by simp [KS,h]
theorem Qf5 {L:Int ->List (Int×Int)}{k:Nat}(h:L (k:Int)≠[]):Qd2 L (k+1)=Qd2 L k++(uvF 9 k++(uvF 9 (L (k:Int)).length++spK (L (k:Int)) (L (k:Int)).length)):=by
 unfold Qd2;rw [QkT h,List.flatMap_append];simp [QmF,QjM]
theorem QgX {L:Int ->List (Int×Int)}{k:Nat}(h:L (k:Int)=[]):Qd2 L (k+1)=Qd2 L k:=by
 unfold Qd2;rw [QmO h]
theorem Qc5 {L:Int ->List (Int×Int)}(hL:∀r,(L r).length<=1000):∀k,(Qd2 L k).length<=30000*k
 | 0=>by simp [Qd2,KS]
 | k+1=>by
  have:=Qc5 hL k;by_cases h:L (k:Int)=[]
  ·rw [QgX h];omega
  ·have j:=(Qai 9 k).1;have m:=(Qai 9 (L (k:Int)).length).1;have q:=QdZ (L (k:Int)) (L (k:Int)).length;have u:=hL (k:Int);rw [Qf5 h];simp only [List.length_append];omega
def Qjc (l:List (Int×Int))(j:Nat):Int:=loK l j - 2
theorem QnP {w:World}{B n cap g:Nat}{r:Int}{l:List (Int×Int)}(h:w.ownsRow B 113 3 (.slice (some ⟨g,0,none⟩) n cap) n (QaA r l))(hl:l.length=n):
  ∀i,i<n ->w.cell? ⟨g,i*3+1,none⟩=some (.int .i64 (sF l i))/\ w.cell? ⟨g,i*3+2,none⟩=some (.int .i64 (sT l i)):=by
 intro i j;have k:∀(l:List (Int×Int)) (i:Nat),i<l.length ->(QaA r l)[i*3+1]? =some (.int .i64 (l.getD i (0,0)).1)/\ (QaA r l)[i*3+2]? =some (.int .i64 (l.getD i (0,0)).2):=by
  intro l;induction l with
  | nil=>intro i j;simp at j
  | cons a l ih=>
   intro i j;cases i with
   | zero=>simp [QaA]
   | succ i=>
    have:=ih i (by simpa using j);have e:QaA r (a::l)=.int .i64 r::.int .i64 a.1::.int .i64 a.2::QaA r l:=by simp [QaA]
    rw [e,show (i+1)*3+1=i*3+1+1+1+1 from by omega,show (i+1)*3+2=i*3+2+1+1+1 from by omega];simpa using this
 rw [h.cellAt _ (by omega),h.cellAt _ (by omega)];exact k l i (by omega)
theorem QmH (a:Option Addr)(n c:Nat)(R F T:Nat ->Int)(w:World)(hn:n<=1048576)(h:Qb3 w a n R F T)(hok:QcL R F T n=true):
  Calls Tryz.prog 28 #[.agg #[.slice a n c]] w fun e w'=>∃v,e=.returned (.tuple #[v,.bool true])/\ Own w' w.heap.size v (QdR (Lk R F T n))/\ Below w.heap.size w w':=by
 have Hn:=Qam.1 hok;have Kq:=Hn.2;have B0:Below w.heap.size w (w.alloc (.cells #[.slice a n c] 26)):=zO _ _;obtain⟨L,H⟩:∃L,Lk R F T n=L:=⟨_,rfl⟩;have Hg:Hid (∀r,(L r).length<=1000):=fun r=>by rw [<- H];exact Nat.le_trans (Qdc R F T n r) Kq
 have H6:Hid (∀r,Srt (L r)):=fun r=>by rw [<- H];exact(Qdd n Hn.1 r).1
 have Kh:Hid (∀(rep:Int) (w:World),Qb3 w a n R F T ->Calls Tryz.prog 59 #[.agg #[.slice a n c],.int .i64 rep] w fun e w'=>∃v,e=.returned v/\ w'.ownsRow w.heap.size 113 3 v (L rep).length (QaA rep (L rep))/\ Below w.heap.size w w'):=fun rep w h=>by rw [<- H];exact QnV a n c R F T rep w hn h
 rw [H];clear Hn H;go_enter Tryz.func28,Tryz.ntmps28;go_wp2_with fail;refine(QfT a n c R F T _ hn (h.below B0)).mono ?_;rintro e w1 ⟨rfl,b1⟩;rw [hok];have Gb:w1.cell? ⟨w.heap.size,0,none⟩=some (.slice a n c):=by rw [(Qc4 b1).1 _ _ (by simp)];simp
 have z1:w.heap.size+1<=w1.heap.size:=by have:=b1.size;simp at this;omega
 have Kb:=hid (Qab B0 b1);have HW:=hid h;clear b1 B0 hok h;go_wp2_with fail;go_loopw [4,5,6] (fun cv b' i wr=>∃(k:Nat) (u:List Int),k<=8/\ i=.int .i64 k/\ cv=.int .i64 ((KS L k).length:Nat)/\ Hid (Own wr (w.heap.size+1) b' u)/\ Hid (u=Qd2 L k)/\ Hid (Below w.heap.size w wr)/\ Hid (b'.ownBlock≠none)/\ wr.cell? ⟨w.heap.size,0,none⟩=some (.slice a n c)/\ w.heap.size+1<=wr.heap.size) (fun _ _ i _=>8 - (intOf i).toNat);case atStart=>
  refine⟨0,[],by omega,rfl,rfl,?_,hid rfl,hid (Kb.alloc (by omega) _),hid (by simp [Value.ownBlock]),?_,by simp;omega⟩
  ·have:=World.ownsRow_lit (base:=w.heap.size+1) (e:=5) (size:=1) w1 #[] 0 (by omega) (by unfold maxLen;omega) rfl;exact hid (by simpa [Own] using this)
  ·rw [Below.cell (B:=w1.heap.size) (zO _ _) (show w.heap.size<w1.heap.size by omega)];exact Gb
 case round=>
  obtain⟨k,u,q,rfl,rfl,O,Q,He,Ha,Km,K2⟩:=hrel;by_cases Gg:k<8
  ·have Ko:=Qfz L k;have Ht:=HW.below He.out;have Gx:=hid Ht;clear Ht;go_wp2_with fail;refine(Kh (k:Int) wr Gx.out).mono ?_;rintro e z ⟨v2,rfl,o,I⟩;obtain⟨l,y⟩:∃l,L (k:Int)=l:=⟨_,rfl⟩;have K0:l.length<=1000:=by rw [<- y];exact Hg _
   have Ka:Hid (∀j,j<l.length ->1<=loK l j/\ loK l j<=sF l j/\ sF l j<=sT l j/\ sT l j<=1000000000):=fun j hj=>Ql7 (by rw [<- y];exact H6 _) hj;have A:Hid (Own z (w.heap.size+1) u5 u):=O.kept I (fun k q=>(World.ownsRow.lt O.out k q).2);have H1:Hid (Below w.heap.size w z):=He.trans (I.mono (by omega));have Hh:z.cell? ⟨w.heap.size,0,none⟩=some (.slice a n c):=by rw [Below.cell I (show w.heap.size<wr.heap.size by omega)];exact Km
   have z2:=I.size;have Ku:u.length<=30000*k:=by rw [Q.out];exact Qc5 Hg.out k
   have Kk:Hid (∀g,u5.ownBlock=some g ->g<wr.heap.size):=fun g hg=>(World.ownsRow.lt O.out g hg).2;rw [y] at o;clear I O He Gx;by_cases X:l=[]
   ·subst X;have Hx:=hid (QmO y);have Hu:=hid (QgX y);clear y;rcases o.2 with ⟨rfl,_⟩|⟨g,cap,Kl,rfl,_⟩
    ·clear o;go_wp2_with fail;go_roundw;case rel=>exact⟨k+1,u,Gg,by go_num,by rw [Hx.out],A,hid (by rw [Hu.out,Q.out]),H1,Ha,Hh,by omega⟩
     case measure=>simp [intOf];omega
    ·clear o;go_wp2_with fail;go_roundw;case rel=>exact⟨k+1,u,Gg,by go_num,by rw [Hx.out],A,hid (by rw [Hu.out,Q.out]),H1,Ha,Hh,by omega⟩
     case measure=>simp [intOf];omega
   ·have Kz:0<l.length:=List.length_pos_iff.2 X;have Hx:=hid (QkT (L:=L) (k:=k) (by rw [y];exact X));have Ga:=Qf5 (L:=L) (k:=k) (by rw [y];exact X);rw [y] at Ga;have Hu:=hid Ga;rcases o.2 with ⟨_,e0⟩|⟨g,cap,Kl,rfl,Kx,_,K1,Kn,_,_⟩
    ·omega
    have HC:=hid (QnP o rfl);have Ky:g<z.heap.size:=(o.lt g rfl).2;unfold maxLen at Kn;have Ge:some g≠u5.ownBlock:=fun e=>by have:=Kk g e.symm;omega
    have Ks:some w.heap.size≠u5.ownBlock:=fun e=>by have:=(World.ownsRow.lt A.out _ e.symm).1;omega
    have l3:=Qai 9 k;have l4:=Qai 9 l.length;have Kw:((l.length:Int)==0)=false:=by simp;omega
    clear o y Ga X;go_wp2_with fail;refine(QaM k z (by omega)).mono ?_;rintro e w3 ⟨v3,rfl,t,p,Kt⟩;have V:=hid (A.kept p (fun k q=>(World.ownsRow.lt A.out k q).2));have Z:=hid t;have Hy:=hid (t.some (by omega));have Gk:Hid (Gr z w3 u5 u5):=Gr.of_below p;clear t p;go_wp2_with (at_builtin;refine QbN rfl _ _ rfl (w.heap.size+1) z.heap.size u5 v3 u (uvF 9 k) rfl V.out rfl Z.out Hy.out Ha.out ?c1 ?c2 ?_);case c1=>omega
    case c2=>omega
    intro P w4 C E H0;have Hv:=hid (Gk.trans E);have Y:=hid C;have Go:=hid H0;have z4:=E.g.size;clear C E H0 V Z Hy Gk;go_wp2_with fail;refine(QaM l.length w4 (by omega)).mono ?_;rintro e w5 ⟨v5,rfl,Gh,H8,K3⟩;have Gu:=hid (Y.kept H8 (fun k q=>(World.ownsRow.lt Y.out k q).2));have Gy:=hid Gh;have Gp:=hid (Gh.some (by omega));have Gl:Hid (Gr w4 w5 P P):=Gr.of_below H8;clear Gh H8;go_wp2_with (at_builtin;refine QbN rfl _ _ rfl (w.heap.size+1) w4.heap.size P v5 (u++uvF 9 k) (uvF 9 l.length) rfl Gu.out rfl Gy.out Gp.out Go.out ?d1 ?d2 ?_);case d1=>simp;omega
    case d2=>omega
    intro v6 w6 G8 Gc G6;have Kd:=hid (Hv.trans (Gl.trans Gc));have Kg:=hid G8;have Kf:=hid G6;have z6:=Gc.g.size;clear G8 Gc G6 Gu Gy Gp Gl Y Hv Go;go_wp2_with fail;go_loopw [5,8,9] (fun b' la i wr'=>∃(j:Nat) (s:List Int),j<=l.length/\ i=.int .i64 j/\ la=.int .i64 (Qjc l j)/\ Hid (Own wr' (w.heap.size+1) b' s)/\ Hid (s=u++uvF 9 k++uvF 9 l.length++spK l j)/\ Hid (Gr z wr' u5 b')/\ Hid (b'.ownBlock≠none)/\ z.heap.size<=wr'.heap.size) (fun _ _ i _=>l.length - (intOf i).toNat);case atStart=>exact⟨0,_,Nat.zero_le _,rfl,rfl,Kg,hid (by simp [spK]),Kd,Kf,by omega⟩
    case round=>
     obtain⟨j,s,hj,rfl,rfl,Hb,Ho,M,Hc,Kr⟩:=hrel;have Kv:s.length<=240000+20+20*j:=by
      rw [Ho.out];have:=QdZ l j;simp only [List.length_append];omega
     by_cases Hz:j<l.length
     ·obtain⟨q1,q2,q3,q4⟩:=Ka j Hz;have G4:=M.g.cell (HC j Hz).1 Ge;have G5:=M.g.cell (HC j Hz).2 Ge;have Kp:Qjc l j=loK l j - 2:=rfl;obtain⟨D,G2⟩:∃D:Int,sF l j - Qjc l j=D:=⟨_,rfl⟩;obtain⟨b,G1⟩:∃m:Nat,sF l j - loK l j=(m:Int):=⟨(sF l j - loK l j).toNat,by omega⟩;obtain⟨U,H7⟩:∃m:Nat,sT l j - sF l j=(m:Int):=⟨(sT l j - sF l j).toNat,by omega⟩;have x1:IntKind.i64.wrap (sF l j - Qjc l j)=D:=by rw [G2];exact Qau _ (by omega) (by omega)
      have x2:IntKind.i64.wrap (D - 2)=(b:Int):=by rw [show D - 2=(b:Int) by omega];exact Qau _ (by omega) (by omega)
      have x3:IntKind.i64.wrap (sT l j - sF l j)=(U:Int):=by rw [H7];exact Qau _ (by omega) (by omega)
      have Kj:Hid (spK l (j+1)=spK l j++(uvF 9 b++uvF 9 U)):=by show spK l j++_=_;rw [G1,H7];rfl
      have Ke:Hid (sT l j=Qjc l (j+1)):=by show sT l j=loK l (j+1) - 2;show sT l j=sT l j+2 - 2;omega
      have y1:b<=1000000000:=by omega
      have y2:U<=1000000000:=by omega
      have y3:=Qai 9 b;have y4:=Qai 9 U;have Hm:some g≠u5.ownBlock:=fun e=>by
       rcases M.l with h|⟨i,h,hi⟩
       ·exact Ge (e.trans h)
       ·rw [h] at e;injection e with e;omega
      clear G1 H7 G2 Kp;go_wp2_with fail;refine(QaM b wr (by omega)).mono ?_;rintro e w7 ⟨v7,rfl,Gi,H9,K4⟩;have Gv:=hid (Hb.kept H9 (fun k q=>(World.ownsRow.lt Hb.out k q).2));have Gz:=hid Gi;have Gq:=hid (Gi.some (by omega));have Gm:Hid (Gr wr w7 u5 u5):=Gr.of_below H9;clear Gi H9;go_wp2_with (at_builtin;refine QbN rfl _ _ rfl (w.heap.size+1) wr.heap.size u5 v7 s (uvF 9 b) rfl Gv.out rfl Gz.out Gq.out Hc.out ?f1 ?f2 ?_);case f1=>omega
      case f2=>omega
      intro v8 W G9 Gd G7;have N:=Gm.trans Gd;have Hi:=N.g.cell G4 Hm;have Hk:=N.g.cell G5 Hm;have Hf:some g≠v8.ownBlock:=fun e=>by
       rcases N.l with h|⟨i,h,hi⟩
       ·exact Hm (e.trans h)
       ·rw [h] at e;injection e with e;omega
      have Gn:=hid (M.trans N);have H5:=hid G9;have Gs:=hid G7;have z8:=Gd.g.size;clear G9 Gd G7 Gv Gz Gq Gm N G4 G5 x1 x2;go_wp2_with fail;refine zR (S:=fun w'=>w'.cell? ⟨g,j*3+1,none⟩=some (.int .i64 (sF l j))/\ w'.cell? ⟨g,j*3+2,none⟩=some (.int .i64 (sT l j))) ⟨Hi,Hk⟩ (fun qh=> ?_);refine tZ 0 53 ?_;refine tZ 1 54 ?_;refine tZ 2 55 ?_;refine tZ 3 56 ?_;refine tZ 4 57 ?_;refine tZ 5 58 ?_;refine tZ 6 59 ?_;refine tZ 7 60 ?_;refine tZ 8 61 ?_;refine tZ 9 62 ?_;refine tZ 10 63 ?_;refine tZ 11 64 ?_;refine cZ 12 ?_;intro K G;go_simp;refine(QaM U _ (by omega)).mono ?_;rintro e w9 ⟨v9,rfl,Gj,G3,K5⟩;have Hd:Below W.heap.size W w9:=(Below.refl _ W).drew.trans G3;have Gw:=hid (H5.kept Hd (fun k q=>(World.ownsRow.lt H5.out k q).2));have G0:=hid Gj;have Gt:=hid (Gj.some (by omega));have Hw:Hid (Gr W w9 v8 v8):=Gr.of_below Hd;have Hj:=Hw.g.cell Hi Hf;have Hl:=Hw.g.cell Hk Hf;have z9:=Hd.size;clear Gj G3 Hd;refine G.out _ _ ⟨Hj,Hl⟩ (fun qh=> ?_);clear G K;try simp only [zP]
      refine cZ 13 ?_;intro K G;rw [if_pos (by rfl)];refine QjK _ _ (by rfl) (w.heap.size+1) W.heap.size v8 v9 (s++uvF 9 b) (uvF 9 U) (by rfl) Gw.out (by rfl) G0.out Gt.out Gs.out (by simp;omega) (by omega) ?_;intro K6 K7 Hs J Hr;have Hp:=J.g.cell Hj Hf;have Hq:=J.g.cell Hl Hf;have H2:=hid (Gn.trans (Hw.trans J));have H4:=hid Hs;have H3:=hid Hr;have K8:=J.g.size;clear Hs J Hr;refine G.out _ _ ⟨Hp,Hq⟩ (fun qh=> ?_);clear G K;try simp only [zP]
      refine tZ 14 5 ?_;refine zD ?_;clear qh Hi Hk Hj Hl Gw G0 Gt Hw H5 Gs Gn;go_wp2_with fail;go_roundw;case rel=>exact⟨j+1,_,Hz,by go_num,by rw [Ke.out],H4,hid (by rw [Kj.out,Ho.out];simp),H2,H3,by omega⟩
      case measure=>simp [intOf];omega
     ·obtain rfl:j=l.length:=by omega
      go_wp2_with fail;go_roundw;case rel=>
       refine⟨k+1,s,Gg,by go_num,?_,Hb,hid ?_,hid ?_,Hc,M.g.cell Hh Ks,by omega⟩
       ·rw [Hx.out];simp
       ·rw [Hu.out,Ho.out,Q.out];simp
       ·exact H1.trans (M.below (by omega) (fun g hg=>by have:=(World.ownsRow.lt A.out g hg).1;omega))
      case measure=>simp [intOf];omega
  ·obtain rfl:k=8:=by omega
   have Ku:u.length<=30000*8:=by rw [Q.out];exact Qc5 Hg.out 8
   have Ko:=Qfz L 8;have l3:=Qai 9 (KS L 8).length;have Ki:=hid (Qfi L);go_wp2_with fail;refine(QaM (KS L 8).length wr (by omega)).mono ?_;rintro e w3 ⟨v3,rfl,t,p,Kt⟩;have V:=hid (O.kept p (fun k q=>(World.ownsRow.lt O.out k q).2));have Z:=hid t;have Hy:=hid (t.some (by omega));have Kc:=hid (He.trans (p.mono (by omega)));have Gf:Hid (∀g,v3.ownBlock=some g ->wr.heap.size<=g):=fun g hg=>(World.ownsRow.lt t g hg).1;clear t p;go_wp2_with (at_builtin;refine QbN rfl _ _ rfl wr.heap.size (w.heap.size+1) v3 u5 (uvF 9 (KS L 8).length) u rfl Z.out rfl V.out Ha.out Hy.out ?g1 ?g2 ?_);case g1=>omega
   case g2=>omega
   intro P w4 C E H0;have Hv:=hid E;have Y:=hid C;clear C E H0 V Z;go_wp2_with fail;go_ret2;refine⟨P,rfl,?_,Kc.trans (Hv.below (by omega) (fun g hg=>by have:=Gf g hg;omega))⟩;rw [Ki.out,<- Q.out];exact Y.weak (by omega)
def QoM (R F T:Nat ->Int)(n:Nat):List Int:=if QcL R F T n then QdR (Lk R F T n) else []
theorem Qk3 (R F T:Nat ->Int)(n:Nat):(QoM R F T n).length<=1000000:=by
 unfold QoM;split
 ·rename_i h;have j:=Qam.1 h;rw [Qfi];have k:=(Qai 9 (KS (Lk R F T n) 8).length).1;have m:=Qc5 (L:=Lk R F T n) (fun r=>Nat.le_trans (Qdc R F T n r) j.2) 8;simp only [List.length_append];omega
 ·simp
theorem Own.any {w:World}{B:Nat}{v:Value}{zs:List Int}(h:Own w B v zs):∃a cap,v=.slice a zs.length cap/\ Seg w a zs.length (fun i=>zs.getD i 0):=by
 by_cases j:zs=[]
 ·subst j;obtain⟨_,k⟩:=h;rcases k with ⟨rfl,_⟩|⟨g,cap,m,rfl,_⟩
  ·exact⟨none,0,rfl,.inl rfl⟩
  ·exact⟨_,cap,rfl,.inl rfl⟩
 ·obtain⟨g,cap,rfl,_,_,_,_,_,s⟩:=h.shape j;exact⟨_,cap,rfl,s⟩
theorem QiO (R F T:Nat ->Int)(r f t:Int):∀n,Qco R F T r f t n=true ->∃k,k<n/\ R k=r/\ F k<=f/\ t<=T k
 | 0,h=>by simp [Qco] at h
 | n+1,h=>by
  simp only [Qco,Bool.or_eq_true,decide_eq_true_eq] at h;rcases h with h|h
  ·obtain⟨k,j,r⟩:=QiO R F T r f t n h;exact⟨k,by omega,r⟩
  ·exact⟨n,by omega,h⟩
theorem Qbe.lvB {R F T:Nat ->Int}{n:Nat}{l:List Lf}(h:Qbe R F T n l):LvB l:=by
 obtain⟨u,v,j,y⟩:=h;have g:=(Qam.1 u).1;have m:∀i,i<l.length ->(0<=(gL l i).r/\ (gL l i).r<8)/\ (0<=(gL l i).q/\ (gL l i).q<=1000000000):=fun i hi=>by
  obtain⟨k,z,t,o,b⟩:=QiO R F T _ _ _ n (j i hi).2.1;have:=(g k z).1;simp only [QaJ,Bool.and_eq_true,decide_eq_true_eq] at this;omega
 exact⟨fun i hi=>(m i hi).1,fun i hi=>(m i hi).2,fun i hi=>(j i hi).1.2.1,v,y⟩
noncomputable def psB (R F T:Nat ->Int)(n:Nat)(l:List Lf):List Int:=QdR (Lk R F T n)++tB l 8 []
noncomputable def psZ (R F T:Nat ->Int)(n:Nat)(l:List Lf):List Int×Int:=
 if yes (Qbe R F T n l)=true then(if (psB R F T n l).length<=4000 then(psB R F T n l,0) else([],2)) else([],1)
theorem Qhu {R F T:Nat ->Int}{n:Nat}{l:List Lf}(h:¬Qbe R F T n l):psZ R F T n l=([],1):=by unfold psZ;rw [if_neg (by rw [Qaj h];simp)]
theorem Qdt {R F T:Nat ->Int}{n:Nat}{l:List Lf}(h:Qbe R F T n l)(h2:¬(psB R F T n l).length<=4000):psZ R F T n l=([],2):=by unfold psZ;rw [if_pos (Qal h),if_neg h2]
theorem Qfh {R F T:Nat ->Int}{n:Nat}{l:List Lf}(h:Qbe R F T n l)(h2:(psB R F T n l).length<=4000):psZ R F T n l=(psB R F T n l,0):=by unfold psZ;rw [if_pos (Qal h),if_pos h2]
theorem QmB (R F T:Nat ->Int)(n:Nat)(l:List Lf):(psZ R F T n l).1.length<=4000:=by
 unfold psZ;split
 ·split
  ·assumption
  ·simp
 ·simp
theorem Qbe.put_len {R F T:Nat ->Int}{n:Nat}{l:List Lf}(h:Qbe R F T n l):(QdR (Lk R F T n)).length<=1000000/\ 0<(QdR (Lk R F T n)).length:=by
 have:=Qk3 R F T n;unfold QoM at this;rw [if_pos h.1] at this;refine⟨this,?_⟩;rw [Qfi,List.length_append];have:=(Qai 9 (KS (Lk R F T n) 8).length).2;omega
theorem Qbe.tree_len {R F T:Nat ->Int}{n:Nat}{l:List Lf}(h:Qbe R F T n l):(tB l 8 []).length<=2000000:=by
 have j:=QlB h.2.2.1 8 [];have k:=Qoe l [] l.length;have m:=h.2.1;have q:(400+100*8)*uK l [] l.length<=1200*1000:=Nat.mul_le_mul (by omega) (by omega);omega
theorem Qbe.iv {R F T:Nat ->Int}{n:Nat}{l:List Lf}(h:Qbe R F T n l):Iv l [] 0 (0+l.length):=by
 refine⟨fun j hj=> ?_,by omega,by omega⟩;rw [Qff];have:=(h.2.2.1 j hj).1.1.1;exact⟨fun _=>⟨by omega,by omega⟩,fun _=>⟨List.nil_prefix,Nat.lt_of_lt_of_le Nat.zero_lt_one this⟩⟩
theorem Qf1.lat {w:World}{a:Option Addr}{l:List Lf}(h:Qf1 w a l)(h0:0<l.length):∃b off,a=some ⟨b,off,none⟩/\ LAt w b off l 0 l.length:=by
 rcases h with h|⟨b,off,e,j,k⟩
 ·omega
 ·refine⟨b,off,e,j,fun t ht=> ?_⟩;rw [Nat.zero_add];exact k t ht
theorem Qlz (w:World)(B:Nat)(hB:B<=w.heap.size):Own (w.alloc (.cells #[] 5)) B (.slice (some ⟨w.heap.size,0,none⟩) 0 0) []:=by
 have:=World.ownsRow_lit (base:=B) (e:=5) (size:=1) w #[] 0 hB (by unfold maxLen;omega) rfl;simpa [Own] using this
theorem Qks (a:Option Addr)(c:Nat)(l:List Lf)(x:Option Addr)(n d:Nat)(R F T:Nat ->Int)(w:World)(hc:l.length<=c)(hcm:c<=9223372036854775807)(hn:n<=1048576)(h:Qf1 w a l)(h':Qb3 w x n R F T)(hok:Qbe R F T n l):
  Calls Tryz.prog 12 #[.agg #[.slice a l.length c,.slice x n d]] w fun e w'=>∃v,e=.returned v/\ Own w' w.heap.size v (psB R F T n l)/\ Below w.heap.size w w':=by
 obtain⟨W,q⟩:∃W,w.alloc (.cells #[.slice a l.length c,.slice x n d] 28)=W:=⟨_,rfl⟩;have k:Below w.heap.size w W:=by rw [<- q];exact zO _ _
 have j:Bx2 W w.heap.size (.slice a l.length c) (.slice x n d):=by rw [<- q];exact Bx2.made _ _ _ _
 have H:=j.c0;have I:=j.c1;have r:=hid j;have Y:=hid (h.below k);have s:=hid (QmH x n d R F T W hn (h'.below k) hok.1);have g:=hid k;have E:Hid (∀w1,Below W.heap.size W w1 ->Calls Tryz.prog 29 #[.slice a l.length c,.int .i64 0] w1 fun e w'=>∃v,e=.returned v/\ Own w' w1.heap.size v (tB l 8 [])/\ Below w1.heap.size w1 w'):=hid (fun w1 hb1=>by
  have:=Qmx l hok.2.2.1 hok.lvB 8 [] rfl (by omega) 0 l.length c a w1 hc hcm hok.iv (fun h0=>(Y.below hb1).lat h0) (by have:=hok.tree_len;omega);exact this)
 have p:=hid (And.intro hok.put_len hok.tree_len);have G:Hid (0<(tB l 8 []).length):=hid (QlC l 7 []);have A:Hid (QdR (Lk R F T n)++tB l 8 []=psB R F T n l):=hid rfl;obtain⟨Z,Q⟩:∃Z,psB R F T n l=Z:=⟨_,rfl⟩;rw [Q] at A ⊢;clear Q h h' k j hok;go_enter Tryz.func12,Tryz.ntmps12;go_wp2_with fail;try rw [q]
 clear q;refine s.mono ?_;rintro e w1 ⟨L,rfl,z,m⟩;have u:=r.below m r.lt;have J:=u.c0;have K:=u.c1;have t:Hid (Bd w w1 L (QdR (Lk R F T n))):=hid ⟨Qab g.out m,Own.weak z g.size,Ql0 z p.1.2⟩;have M:=hid (E w1 m);clear m z u s E r H I;go_wp2_with fail;refine M.mono ?_;rintro e B ⟨X,rfl,V,O⟩;obtain⟨N,C,U,y⟩:=t.app O V G.out (by have:=p.out;omega);rw [A.out] at y;have i:=hid y;clear y O V t M J K;go_wp2_with (at_builtin;refine Qaa rfl _ _ _ _ rfl U (by rfl) (by rfl) rfl ?_;clear U);go_ret;exact⟨N,rfl,i.o,i.b⟩
theorem QfU (a:Option Addr)(c:Nat)(l:List Lf)(x:Option Addr)(n d:Nat)(R F T:Nat ->Int)(w:World)(hc:l.length<=c)(hcm:c<=9223372036854775807)(hl:l.length<=1048576)(hp:LBd l)(hn:n<=1048576)(h:Qef w a l)(s:Qf1 w a l)(h':Qb3 w x n R F T):
  Calls Tryz.prog 5 #[.agg #[.slice a l.length c,.slice x n d]] w fun e w'=>∃v zs k,e=.returned (.tuple #[v,.int .i64 k])/\ psZ R F T n l=(zs,k)/\ Own w' w.heap.size v zs/\ Below w.heap.size w w':=by
 obtain⟨W,z⟩:∃W,w.alloc (.cells #[.slice a l.length c,.slice x n d] 28)=W:=⟨_,rfl⟩;have y:Below w.heap.size w W:=by rw [<- z];exact zO _ _
 have g:Bx2 W w.heap.size (.slice a l.length c) (.slice x n d):=by rw [<- z];exact Bx2.made _ _ _ _
 have I:=g.c0;have J:=g.c1;have o:=hid g;have K:=hid (s.below y);have N:=hid (h'.below y);have u:=hid (Qbt a c l x n d R F T W hl hp hn (h.below y) (h'.below y));have M:=hid y;clear h s h' y g;by_cases j:Qbe R F T n l
 ·rw [Qal j] at u;have i:Hid (∀w1,Below W.heap.size W w1 ->Calls Tryz.prog 12 #[.agg #[.slice a l.length c,.slice x n d]] w1 fun e w'=>∃v,e=.returned v/\ Own w' w1.heap.size v (psB R F T n l)/\ Below w1.heap.size w1 w'):=hid (fun w1 hb=>Qks a c l x n d R F T w1 hc hcm hn (K.below hb) (N.below hb) j);have V:=hid (fun h=>Qfh j h);have Q:=hid (fun h=>Qdt j h);have O:Hid ((psB R F T n l).length<=1000000000):=hid (by have h1:=j.put_len;have s:=j.tree_len;unfold psB;rw [List.length_append];omega);obtain⟨Z,A⟩:∃Z,psB R F T n l=Z:=⟨_,rfl⟩;obtain⟨P,q⟩:∃P,psZ R F T n l=P:=⟨_,rfl⟩;rw [A,q] at V Q;rw [A] at i O;rw [q];clear A q j;go_enter Tryz.func5,Tryz.ntmps5;go_wp2_with fail;try rw [z]
  clear z;refine u.mono ?_;rintro e w1 ⟨rfl,m⟩;have p:=o.below m o.lt;have C:=p.c0;have D:=p.c1;have r:=hid (Qab M.out m);have Y:=hid (i w1 m);clear m p u o I J i;go_wp2_with fail;refine Y.mono ?_;rintro e w2 ⟨v2,rfl,E,G⟩;have L:=hid (Own.weak E r.size);have t:=hid (Qab r.out G);obtain⟨S,cv,rfl,_⟩:=E.any;have Ha:=O.out;clear G E Y C D;by_cases H:Z.length<=4000
  ·have b:=hid (V H);have X:decide ((4000:Int)<(Z.length:Int))=false:=by simp;omega
   have B:decide (4000<Z.length)=false:=by simp;omega
   go_wp2_with fail;go_ret2;exact⟨_,Z,0,rfl,b.out,L.out,t.out⟩
  ·have b:=hid (Q H);have X:decide ((4000:Int)<(Z.length:Int))=true:=by simp;omega
   have B:decide (4000<Z.length)=true:=by simp;omega
   go_wp2_with fail;go_ret2;exact⟨_,[],2,rfl,b.out,Qlz _ _ t.size,t.alloc t.size _⟩
 ·rw [Qaj j] at u;have U:=hid (Qhu j);obtain⟨P,q⟩:∃P,psZ R F T n l=P:=⟨_,rfl⟩;rw [q] at U;rw [q];clear q j;go_enter Tryz.func5,Tryz.ntmps5;go_wp2_with fail;try rw [z]
  clear z;refine u.mono ?_;rintro e w1 ⟨rfl,m⟩;have r:=hid (Qab M.out m);clear m u o I J;go_wp2_with fail;go_ret2;exact⟨_,[],1,rfl,U.out,Qlz _ _ r.size,r.alloc r.size _⟩
structure TJ (w:World)(B:Nat)(J:List Lf)(N:List Ky ->Option (Nat×Nat))(c:Nat):Prop where
 tre:Tre w B N (fun r=>Mk J J.length r) c
 there:∀z y,(N (z++[y])).isSome=true↔Ah J (z++[y])
 dis:Dis J J.length
theorem JF.tj {w:World}{B:Nat}{J:List Lf}{N:List Ky ->Option (Nat×Nat)}{c:Nat}{x0:Nat×Nat}(h:JF w B J [] N c x0)(hd:Dis J J.length):TJ w B J N c:=
 ⟨by simpa using h.tre,fun z y=>by
  cases z with
  | nil=>simpa using h.there y []
  | cons u r=>simpa using h.there u (r++[y]),hd⟩
end Go.Proofs.YtdeolligikjieaaGreatDoor
