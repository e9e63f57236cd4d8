import Derived.Test.YtbimcammjohaoabDoorSe
import Derived.Test.YtbimcammjohaoabDoorFrS
namespace Go.Proofs.YtbimcammjohaoabDoor
open Go.ChangeShapes Go.WideShapes Go.ChangeAt Go.RowKit
set_option linter.unusedVariables false
set_option linter.unusedSimpArgs false

theorem GtR.put {w0 w9 : World} {B E : Nat} {fv v9 pv : Value} {l : List Fx} {kd : Int} {pl : List Int} (h0 : GtR w0 B fv l) (hg : ∀ k, fv.ownBlock = some k → k < E) (hp : ∀ i, i < l.length → ∀ k, (gFx l i).2.1.ownBlock = some k → k < E) (hB : B ≤ E) (ov : Own w0 E pv pl) (gg : w0.grownBy w9 fv.ownBlock)
    (hown : w9.ownsRow B 29 2 v9 (l.length + 1) (fxCells l ++ [.int .i64 kd, pv])) (hloc : v9.ownBlock = fv.ownBlock ∨ ∃ k, v9.ownBlock = some k ∧ w0.heap.size ≤ k) : GtR w9 B v9 (l ++ [(kd, pv, pl)]) := by
  have hold : ∀ i, i < l.length → ∀ k, (gFx l i).2.1.ownBlock = some k → k < w0.heap.size := fun i hi k hk => (World.ownsRow.lt (h0.pay i hi) k hk).2
  have hnew : ∀ k, pv.ownBlock = some k → E ≤ k ∧ k < w0.heap.size := fun k hk => World.ownsRow.lt ov k hk
  have hi' : ∀ i, i < (l ++ [(kd, pv, pl)]).length → i < l.length ∨ i = l.length := fun i hi => by simp at hi; omega
  refine ⟨?_, fun i hi => ?_, fun i hi k hk e => ?_⟩
  · have e : fxCells (l ++ [(kd, pv, pl)]) = fxCells l ++ [.int .i64 kd, pv] := by simp [fxCells]
    rw [e, List.length_append]; exact hown
  · rcases hi' i hi with h1 | rfl
    · rw [gFx_left h1]
      exact (h0.pay i h1).gr gg (fun g e1 e2 => h0.far i h1 g e1 e2.symm)
    · rw [gFx_last]
      exact (own_weak ov hB).gr gg (fun g e1 e2 => by have := hnew g e1; have := hg g e2.symm; omega)
  · rcases hi' i hi with h1 | rfl
    · rw [gFx_left h1] at hk
      rcases hloc with q | ⟨j, q, hj⟩
      · exact h0.far i h1 k hk (q ▸ e)
      · rw [q] at e; injection e with e; have := hold i h1 k hk; omega
    · rw [gFx_last] at hk
      have := hnew k hk
      rcases hloc with q | ⟨j, q, hj⟩
      · have := hg k (q ▸ e); omega
      · rw [q] at e; injection e with e; omega

def DFx (x : Fx) : Prop := 1 ≤ x.1 ∧ x.1 ≤ 3 ∧ x.2.2.length ≤ 135 ∧ Byt (gz x.2.2) ∧ ∃ g cp, x.2.1 = .slice (some ⟨g, 0, none⟩) x.2.2.length cp

structure StI (w wr : World) (q j : Nat) (b : Value) (l : List Fx) : Prop where
  len : l.length = j
  gt : GtR wr (w.heap.size + 1) b l
  rd : Rd wr (w.heap.size + 1) w.heap.size
  bel : Below w.heap.size w wr
  all : ∀ x ∈ l, DFx x
  sz : w.heap.size + 1 ≤ wr.heap.size
theorem GtR.lit (w : World) (B : Nat) (hB : B ≤ w.heap.size) : GtR (w.alloc (.cells #[] 29)) B (.slice (some ⟨w.heap.size, 0, none⟩) 0 0) [] :=
  ⟨(own_litF w B hB).row, fun i hi => by simp at hi, fun i hi => by simp at hi⟩

set_option maxRecDepth 100000 in
set_option maxHeartbeats 1000000 in
theorem streamFC (a : Option Addr) (n c : Nat) (f : Nat → Int) (w : World) (hnc : n ≤ c) (hn : n ≤ 9223372036854775807) (h : Seg w a n f) (hf : Byt f) :
    Calls Tryd.prog 4 #[.slice a n c] w fun e w' => ∃ v l, e = .returned v ∧ 1 ≤ l.length ∧ l.length ≤ 4 ∧ (∀ x ∈ l, DFx x) ∧ GtR w' (w.heap.size + 1) v l ∧ Below w.heap.size w w' := by
  have HO := hid (rdOpen a n c f w hnc hn h hf)
  clear h hf
  go_enter Tryd.func4, Tryd.ntmps4
  go_wp2_with fail
  refine HO.out.mono ?_
  rintro e w1 ⟨rfl, r1, b1⟩
  have HR1 := hid r1
  have HB1 := hid b1
  have hl1 := r1.lt
  clear r1 b1 HO
  go_wp2_with fail
  refine (rdNext _ _ w1 HR1.out).mono ?_
  rintro e w2 ⟨k, hk, rfl, r2, g2⟩
  have z2 := g2.size
  have HB2 : Below w.heap.size w w2 := HB1.out.grown g2 HB1.out.size (fun q hq => by injection hq with hq; omega)
  have HI : Hid (StI w (w2.alloc (.cells #[] 29)) (1 + k % 4) 0 (.slice (some ⟨w2.heap.size, 0, none⟩) 0 0) []) := hid ⟨rfl, GtR.lit w2 _ (by omega), r2.below ((Below.refl _ w2).alloc (by omega) _), HB2.alloc HB2.size _, fun x hx => (by cases hx), by simp; omega⟩
  clear r2 g2 HR1 HB1 HB2
  obtain ⟨q, hq⟩ : ∃ q : Nat, 1 + k % 4 = q := ⟨_, rfl⟩
  have wq : IntKind.i64.wrap (1 + (k : Int) % 4) = (q : Int) := by rw [IntKind.wrap_i64]; omega
  have HQ : Hid (1 ≤ q ∧ q ≤ 4) := hid (by omega)
  rw [hq] at HI
  clear hq
  obtain ⟨j0, hj, jz0, jz1, jz2⟩ := info_parts Tryd.infoFrame
  go_wp2_with fail
  go_loopw [5, 6] (fun b i wr => ∃ (j : Nat) (l : List Fx), j ≤ q ∧ i = .int .i64 (j : Int) ∧ Hid (StI w wr q j b l)) (fun _ i _ => q - (intOf i).toNat)
  case atStart => exact ⟨0, [], Nat.zero_le _, rfl, HI⟩
  case round =>
    clear HI
    obtain ⟨j, l, hj1, rfl, hi⟩ := hrel
    have hq4 := HQ.out
    by_cases hlt : j < q
    · have dlt : decide ((j : Int) < (q : Int)) = true := by simp; omega
      have zr := hi.out.sz
      go_wp2_with fail
      refine (drawFrameC _ _ wr hi.out.rd zr).mono ?_
      rintro e w0 ⟨kd, g, cp, ps, rfl, hk1, hk3, hp5, hpb, sg, r2, g2, ow⟩
      have z0 := g2.size
      have HD : Hid (DFx (kd, .slice (some ⟨g, 0, none⟩) ps.length cp, ps)) := hid ⟨hk1, hk3, hp5, hpb, g, cp, rfl⟩
      have HOV := hid ow
      have HRD := hid r2
      have HG0 := hid (hi.out.gt.kept g2 (fun k hk => by injection hk with hk; omega))
      have HBL := hid (hi.out.bel.grown g2 (by omega) (fun k hk => by injection hk with hk; omega))
      have hgB : ∀ k, u5.ownBlock = some k → k < wr.heap.size := fun k hk => (World.ownsRow.lt hi.out.gt.row k hk).2
      have hpB : ∀ i, i < l.length → ∀ k, (gFx l i).2.1.ownBlock = some k → k < wr.heap.size := fun i hi' k hk => (World.ownsRow.lt (hi.out.gt.pay i hi') k hk).2
      have HBB := hid (And.intro hgB hpB)
      have HLN := hid hi.out.len
      have HAL := hid hi.out.all
      clear sg r2 g2 ow hgB hpB hi hpb
      have HRA := hid (World.ownsRow.alloc HG0.out.row (.cells #[.int .i64 kd, .slice (some ⟨g, 0, none⟩) ps.length cp] 29))
      have HNW := hid (cell2A w0 (.int .i64 kd) (.slice (some ⟨g, 0, none⟩) ps.length cp) 29)
      have hll := HLN.out
      go_wp2_with (at_builtin; refine wpList_app_at rfl _ _ 23 rfl (w.heap.size + 1) 29 j0 _ 2 32 Tryd.underlying23 hj jz0 jz1 jz2 rfl (by decide) _ _ _ rfl HRA.out ⟨w0.heap.size, 0, none⟩ 1 1 [.int .i64 kd, .slice (some ⟨g, 0, none⟩) ps.length cp] ?g0 rfl ?g1 ?g2 ?g3 ?g4 ?g5 ?_)
      case g0 => rfl
      case g1 => exact HNW.out
      case g2 => intro u hu; simp at hu; rcases hu with rfl | rfl <;> rfl
      case g3 => unfold maxLen; omega
      case g4 => omega
      case g5 => simp; omega
      intro v9 w9 hown9 hgr9 hloc9
      have gg : w0.grownBy w9 u5.ownBlock := (World.grownBy_alloc w0 _ _).trans hgr9
      rw [← hll] at hown9
      have hN := HG0.out.put HBB.out.1 HBB.out.2 zr HOV.out gg hown9 (hloc9.imp id (fun e => ⟨_, e, by simp⟩))
      have B9 : Below (w.heap.size + 1) w0 w9 := (Below.refl _ _).grown gg (by omega) (fun k hk => (World.ownsRow.lt HG0.out.row k hk).1)
      have HN : Hid (StI w w9 q (j + 1) v9 (l ++ [(kd, .slice (some ⟨g, 0, none⟩) ps.length cp, ps)])) := hid ⟨by simp; omega, hN, HRD.out.below B9, HBL.out.trans (B9.mono (by omega)), fun x hx => (by
        rcases List.mem_append.1 hx with h | h
        · exact HAL.out x h
        · rw [List.mem_singleton.1 h]; exact HD.out), by have := B9.size; omega⟩
      clear hown9 hgr9 hloc9 gg hN B9 HRA HNW HG0 HBB HOV HRD HBL HAL HD
      go_wp2_with fail
      go_roundw
      case rel => exact ⟨j + 1, _, hlt, by go_num, HN⟩
      case measure => simp [intOf]; omega
    · have dlt : decide ((j : Int) < (q : Int)) = false := by simp; omega
      go_wp2_with fail
      go_ret
      exact ⟨_, l, rfl, by have := hi.out.len; omega, by have := hi.out.len; omega, hi.out.all, hi.out.gt, hi.out.bel⟩
end Go.Proofs.YtbimcammjohaoabDoor
