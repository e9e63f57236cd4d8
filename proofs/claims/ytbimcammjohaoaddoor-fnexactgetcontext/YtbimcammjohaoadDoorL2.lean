import Derived.Test.YtbimcammjohaoadDoorPutI
namespace Go.Proofs.YtbimcammjohaoadDoor
open Go.ChangeShapes Go.WideShapes Go.ChangeAt Go.RowKit Go.Maps Go.Sort
set_option linter.unusedVariables false
set_option linter.unusedSimpArgs false

theorem cell_three_new (w : World) (x y z : Value) (t : TypeId) : ∀ j u, [x, y, z][j]? = some u → (w.alloc (.cells #[x, y, z] t)).cell? ((⟨w.heap.size, 0, none⟩ : Addr).add j) = some u := by
  intro j u hj
  match j, hj with
  | 0, hj => simp at hj; subst hj; simp [Addr.add]
  | 1, hj => simp at hj; subst hj; simp [Addr.add]
  | 2, hj => simp at hj; subst hj; simp [Addr.add]

def runCells (r : Int) (l : List (Int × Int)) : List Value := l.flatMap fun p => [.int .i64 r, .int .i64 p.1, .int .i64 p.2]
theorem runCells_snoc (r : Int) (l : List (Int × Int)) (p : Int × Int) : runCells r (l ++ [p]) = runCells r l ++ [.int .i64 r, .int .i64 p.1, .int .i64 p.2] := by simp [runCells]

theorem RSeg.at {w : World} {a : Option Addr} {n : Nat} {R F T : Nat → Int} (h : RSeg w a n R F T) {k : Nat} (hk : k < n) : ∃ b off, a = some ⟨b, off, none⟩ ∧ b < w.heap.size ∧ w.cell? ⟨b, off + k * 3, none⟩ = some (.int .i64 (R k)) ∧ w.cell? ⟨b, off + k * 3 + 1, none⟩ = some (.int .i64 (F k)) ∧ w.cell? ⟨b, off + k * 3 + 2, none⟩ = some (.int .i64 (T k)) := by
  rcases h with h | ⟨b, off, rfl, hb, hc⟩
  · omega
  · exact ⟨b, off, rfl, hb, hc k hk⟩

set_option maxRecDepth 100000 in
set_option maxHeartbeats 1000000 in
theorem specOf (a : Option Addr) (n c : Nat) (R F T : Nat → Int) (rep : Int) (w : World) (hn : n ≤ 1048576) (h : RSeg w a n R F T) :
    Calls Tryd.prog 41 #[.agg #[.slice a n c], .int .i64 rep] w fun e w' => ∃ v, e = .returned v ∧ w'.ownsRow w.heap.size 78 3 v (Lk R F T n rep).length (runCells rep (Lk R F T n rep)) ∧ Below w.heap.size w w' := by
  obtain ⟨i0, hi, hz0, hz1, hz2⟩ := info_parts Tryd.infoRun
  obtain ⟨L, hLL⟩ : ∃ L : Nat → List (Int × Int), (fun k => Lk R F T k rep) = L := ⟨_, rfl⟩
  have e0 : Lk R F T n rep = L n := by rw [← hLL]
  have HL0 : Hid (L 0 = []) := by show L 0 = []; rw [← hLL]; rfl
  have HLy : Hid (∀ k, R k = rep → L (k + 1) = L k ++ [(F k, T k)]) := fun k e => by
    rw [← hLL]; show upd _ _ _ _ = _; rw [← e, upd_same]
  have HLn : Hid (∀ k, R k ≠ rep → L (k + 1) = L k) := fun k e => by
    rw [← hLL]; show upd _ _ _ _ = _; rw [upd_other _ _ (fun h => e h.symm)]
  have HLl : Hid (∀ k, (L k).length ≤ k) := fun k => by rw [← hLL]; exact Lk_len R F T k rep
  rw [e0]
  clear e0 hLL
  have hbox : (w.alloc (.cells #[.slice a n c] 25)).cell? ⟨w.heap.size, 0, none⟩ = some (.slice a n c) := by simp
  go_enter Tryd.func41, Tryd.ntmps41
  go_wp2_with fail
  go_loopw [5, 6] (fun v i wr => ∃ k : Nat, k ≤ n ∧ i = .int .i64 k ∧ Hid (wr.ownsRow (w.heap.size + 1) 78 3 v (L k).length (runCells rep (L k))) ∧ Hid (Below w.heap.size w wr) ∧ wr.cell? ⟨w.heap.size, 0, none⟩ = some (.slice a n c) ∧ w.heap.size + 1 ≤ wr.heap.size) (fun _ i _ => n - (intOf i).toNat)
  case atStart =>
    refine ⟨0, Nat.zero_le _, rfl, ?_, hid (below2 _ _ _), by simp, by simp⟩
    rw [HL0.out]
    have := World.ownsRow_lit (base := w.heap.size + 1) (e := 78) (size := 3) (w.alloc (.cells #[.slice a n c] 25)) #[] 0 (by simp) (by unfold maxLen; omega) rfl
    exact hid (by simpa [runCells] using this)
  case round =>
    obtain ⟨k, hk, rfl, hown, hbel, hbx, hsz⟩ := hrel
    by_cases hlt : k < n
    · obtain ⟨b, off, rfl, hb, hc0, hc1, hc2⟩ := (h.below hbel.out).at hlt
      have hlk := HLl.out k
      by_cases he : R k = rep
      · have e1 : (R k == rep) = true := by simp [he]
        have hLk := HLy.out k he
        subst he
        have HN := hid hLk
        have hbne : some w.heap.size ≠ u5.ownBlock := fun e => by have := (hown.out.lt _ e.symm).1; omega
        clear hLk
        go_wp2_with (at_builtin; refine wpList_app_at rfl _ _ 23 rfl (w.heap.size + 1) 78 i0 _ 3 24 Tryd.underlying23 hi hz0 hz1 hz2 rfl (by decide) _ _ _ rfl (hown.out.alloc _) ⟨wr.heap.size, 0, none⟩ 1 1 [.int .i64 (R k), .int .i64 (F k), .int .i64 (T k)] rfl rfl ?c1 ?c2 ?c3 ?c4 ?c5 ?_)
        case c1 => exact cell_three_new _ _ _ _ _
        case c2 => intro u hu; simp at hu; rcases hu with rfl | rfl | rfl <;> rfl
        case c3 => unfold maxLen; omega
        case c4 => omega
        case c5 => simp; omega
        · intro v' w1 hown' hgr hloc
          have R1 : Hid (w1.ownsRow (w.heap.size + 1) 78 3 v' (L (k + 1)).length (runCells (R k) (L (k + 1)))) := by
            rw [HN.out, runCells_snoc, List.length_append]; exact hown'
          have RB : Hid (Below w.heap.size w w1) := (hbel.out.alloc (by omega) _).grown hgr (by simp; omega) (fun k hk => by have := (hown.out.lt k hk).1; omega)
          have RC : w1.cell? ⟨w.heap.size, 0, none⟩ = some (.slice (some ⟨b, off, none⟩) n c) := hgr.cell (by rw [Below.cell (B := wr.heap.size) ((Below.refl _ _).alloc (Nat.le_refl _) _) (show w.heap.size < wr.heap.size by omega)]; exact hbx) hbne
          have RZ := hgr.size
          simp at RZ
          clear hown' hgr hloc hc0 hc1 hc2 hbx
          go_wp2_with fail
          go_roundw
          case rel => exact ⟨k + 1, hlt, by go_num, R1, RB, RC, by omega⟩
          case measure => simp [intOf]; omega
      · have e1 : (R k == rep) = false := by simp [he]
        have hLk := HLn.out k he
        have HN := hid hLk
        clear hLk
        go_wp2_with fail
        go_roundw
        case rel => exact ⟨k + 1, hlt, by go_num, by rw [HN.out]; exact hown, hbel, hbx, hsz⟩
        case measure => simp [intOf]; omega
    · obtain rfl : k = n := by omega
      go_wp2_with fail
      go_ret
      refine ⟨_, rfl, ?_, hbel.out⟩
      obtain ⟨q1, q2⟩ := hown.out
      refine ⟨q1, ?_⟩
      rcases q2 with q2 | ⟨g, cap, cur, rfl, hbg, r⟩
      · exact .inl q2
      · exact .inr ⟨g, cap, cur, rfl, by omega, r⟩

set_option maxRecDepth 100000 in
theorem specPut1 (m : Nat) (w : World) (hm : m ≤ 1000000000) :
    Calls Tryd.prog 42 #[.int .i64 (m : Int)] w fun e w' => ∃ v, e = .returned v ∧ Own w' w.heap.size v (uvF 9 m) ∧ Below w.heap.size w w' ∧ w.heap.size < w'.heap.size := by
  have x3 : IntKind.u64.wrap (m : Int) = (m : Int) := wrapU _ (by omega) (by omega)
  go_enter Tryd.func42, Tryd.ntmps42
  go_wp2_with fail
  refine (specUv 9 m w (Nat.le_refl _) (show m < 128 ^ (9 + 1) by omega) (by omega)).mono ?_
  rintro e w1 ⟨v, rfl, ho, hb, hz⟩
  go_wp2_with fail
  go_ret
  exact ⟨v, rfl, ho, hb, hz⟩
end Go.Proofs.YtbimcammjohaoadDoor
