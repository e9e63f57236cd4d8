import Derived.Test.YtpfmeafmepgimaaGreatFkg11
set_option linter.unusedVariables false
set_option linter.unusedSimpArgs false
set_option maxRecDepth 100000
set_option maxHeartbeats 40000000
namespace Go.Proofs.YtpfmeafmepgimaaGreat
open Go.ChangeShapes Go.WideShapes Go.ChangeAt Go.RowKit
theorem infoStr:(Tryz.prog.info? 9).map (fun i=>(i.zero,i.size,i.bytes))=some (some (.string ByteArray.empty),1,16):=by kernel_rfl
structure Bx5 (w:World)(b:Nat)(v0 v1 v2 v3 v4:Value):Prop where
 c0:w.cell? ⟨b,0,none⟩=some v0
 c1:w.cell? ⟨b,1,none⟩=some v1
 c2:w.cell? ⟨b,2,none⟩=some v2
 c3:w.cell? ⟨b,3,none⟩=some v3
 c4:w.cell? ⟨b,4,none⟩=some v4
 f:∀i,w.frozen? ⟨b,i,none⟩=false
 lt:b<w.heap.size
theorem Bx5.below {w w':World}{B b:Nat}{v0 v1 v2 v3 v4:Value}(h:Bx5 w b v0 v1 v2 v3 v4)(hb:Below B w w')(hB:b<B):Bx5 w' b v0 v1 v2 v3 v4:=
 ⟨(hb.cell (p:=⟨b,0,none⟩) hB).trans h.c0,(hb.cell (p:=⟨b,1,none⟩) hB).trans h.c1,(hb.cell (p:=⟨b,2,none⟩) hB).trans h.c2,(hb.cell (p:=⟨b,3,none⟩) hB).trans h.c3,(hb.cell (p:=⟨b,4,none⟩) hB).trans h.c4,fun i=>(hb.frozen (p:=⟨b,i,none⟩) hB).trans (h.f i),Nat.lt_of_lt_of_le h.lt hb.size⟩
theorem Bx5.setAt {w:World}{b:Nat}{v0 v1 v2 v3 v4:Value}(h:Bx5 w b v0 v1 v2 v3 v4)(q:Addr)(u:Value)(hq:q.block≠b):Bx5 (w.setCell q u) b v0 v1 v2 v3 v4:=
 ⟨by rw [World.cell?_setCell_far _ _ _ _ hq];exact h.c0,by rw [World.cell?_setCell_far _ _ _ _ hq];exact h.c1,by rw [World.cell?_setCell_far _ _ _ _ hq];exact h.c2,by rw [World.cell?_setCell_far _ _ _ _ hq];exact h.c3,by rw [World.cell?_setCell_far _ _ _ _ hq];exact h.c4,fun i=>by rw [World.frozen?_setCell];exact h.f i,by simp [World.setCell];exact h.lt⟩
theorem Bx5.set0 {w:World}{b:Nat}{v0 v1 v2 v3 v4:Value}(h:Bx5 w b v0 v1 v2 v3 v4)(u:Value):Bx5 (w.setCell ⟨b,0,none⟩ u) b u v1 v2 v3 v4:=
 ⟨World.cell?_setCell_same _ _ _ h.c0,by simp [World.cell?_setCell_other,h.c1],by simp [World.cell?_setCell_other,h.c2],by simp [World.cell?_setCell_other,h.c3],by simp [World.cell?_setCell_other,h.c4],fun i=>by rw [World.frozen?_setCell];exact h.f i,by simp [World.setCell];exact h.lt⟩
theorem Bx5.set1 {w:World}{b:Nat}{v0 v1 v2 v3 v4:Value}(h:Bx5 w b v0 v1 v2 v3 v4)(u:Value):Bx5 (w.setCell ⟨b,1,none⟩ u) b v0 u v2 v3 v4:=
 ⟨by simp [World.cell?_setCell_other,h.c0],World.cell?_setCell_same _ _ _ h.c1,by simp [World.cell?_setCell_other,h.c2],by simp [World.cell?_setCell_other,h.c3],by simp [World.cell?_setCell_other,h.c4],fun i=>by rw [World.frozen?_setCell];exact h.f i,by simp [World.setCell];exact h.lt⟩
theorem infoLeaf:(Tryz.prog.info? 65).map (fun i=>(i.zero,i.size,i.bytes))=some (some (.agg #[.slice none 0 0,.bool false,.int .i64 0,.int .i64 0,.string ByteArray.empty]),5,64):=by kernel_rfl
def LCap (w:World)(a:Option Addr)(l:List Lf):Prop:=
 l.length=0 \/∃b off,a=some ⟨b,off,none⟩/\ b<w.heap.size/\∀i,i<l.length ->∃pa pc,(w.cell? ⟨b,off+i*5,none⟩=some (.slice pa (gL l i).p.length pc)/\ (gL l i).p.length<=pc/\ pc<=9223372036854775807)/\ SSeg w pa (gL l i).p/\ w.cell? ⟨b,off+i*5+1,none⟩=some (.bool (gL l i).fl)/\ w.cell? ⟨b,off+i*5+2,none⟩=some (.int .i64 (gL l i).r)/\ w.cell? ⟨b,off+i*5+3,none⟩=some (.int .i64 (gL l i).q)/\ w.cell? ⟨b,off+i*5+4,none⟩=some (.string (gL l i).v)
theorem LCap.below {w w1:World}{a:Option Addr}{l:List Lf}(h:LCap w a l)(hb:Below w.heap.size w w1):LCap w1 a l:=by
 refine h.imp id ?_;rintro⟨b,off,e,hlt,hc⟩;refine⟨b,off,e,Nat.lt_of_lt_of_le hlt hb.size,fun i hi=> ?_⟩;obtain⟨pa,pc,⟨c0,d0⟩,s,c1,c2,c3,c4⟩:=hc i hi;have q:=fun o=>hb.cell (p:=⟨b,o,none⟩) hlt;exact⟨pa,pc,⟨(q _).trans c0,d0⟩,s.below hb,(q _).trans c1,(q _).trans c2,(q _).trans c3,(q _).trans c4⟩
theorem LCap.seg {w:World}{a:Option Addr}{l:List Lf}(h:LCap w a l):LSeg w a l:=by
 refine h.imp id ?_;rintro⟨b,off,e,hlt,hc⟩;refine⟨b,off,e,hlt,fun i hi=> ?_⟩;obtain⟨pa,pc,⟨c0,_⟩,s,c1,c2,c3,c4⟩:=hc i hi;exact⟨pa,pc,c0,s,c1,c2,c3,c4⟩
end Go.Proofs.YtpfmeafmepgimaaGreat
