import Derived.Test.YtdfdhokbgmflfaaTri
import Derived.Test.YtdfdhokbgmflfaaShel2
import Derived.Shelf.SlIter.Collect
import Derived.Sort.MapsRangeIn
namespace Go.Proofs.Ytdfdhokbgmflfaa
open Go.ChangeShapes Go.WideShapes Go.ChangeAt Go.RowKit Go.Maps Go.Sort Go.Lib Go.Shelf
set_option linter.unusedVariables false
set_option linter.unusedSimpArgs false

set_option maxRecDepth 100000 in
set_option maxHeartbeats 1000000 in
theorem keysItK (n l Bm b nn : Nat) (f : Ky → Option (Nat × Nat)) (D0 : DataW Value) (J : List Ky → World → Prop) (hn : 1 ≤ n)
    (hY : ∀ pre x W, J pre W → pre.length < Maps.size D0 → YieldAt Fence.wide (n - 1) Try.prog l #[keyV x] W fun e W' => e = .returned (.bool true) ∧ J (pre ++ [x]) W' ∧ KeepsWalks W W')
    (W : World) (hJ : AbidesFrom W.heap.size J) (hm : W.cell? ⟨Bm, 0, none⟩ = some (.map (some b))) (hF : FM W 57 keyV nodV b nn f D0) (h0 : J [] W) :
    CallsIn Fence.wide n Try.prog 61 #[.func (.yield l) #[] #[], .pointer (some ⟨Bm, 0, none⟩)] W fun e W' => (∃ v, e = .returned v) ∧ ∃ ss, KeysF f ss ∧ J ss W' := by
  have hown := hF.own
  have HF := hid hF
  have HJ := hid hJ
  have HY := hid hY
  clear hF hJ hY
  refine callsIn_of_wp Try.func61 rfl trivial ?_ rfl
  simp only [Try.ntmps61, List.size_toArray, List.length_cons, List.length_nil, Nat.reduceAdd, Nat.reduceSub, Array.replicate_succ, Array.replicate_zero, List.push_toArray, List.append_toArray, List.nil_append, List.cons_append]
  gi_wp2_with (first
    | (gi_at_range; refine wpListIn_range_own _ rfl _ 60 rfl 57 63 keyKeyed Try.underlying60 _ b nn _ rfl hown ?_; intro w0 hrg0 hg0 hs0)
    | gi_in)
  try go_frame
  gi_loopw [3] (fun _ wr => ∃ (left : Lit → Bool) (cnt : Nat) (ss : List Ky), wr.ranges Try.prog 57 allR b W.heap.size nn D0 left cnt ∧ ss.length + cnt ≤ Maps.size D0 ∧ CollF 57 keyV f left ss ∧ J ss wr)
    (fun _ wr => wr.rangeLeft b W.heap.size)
  case atStart => exact ⟨_, _, [], hrg0, by simp, CollF.start HF.out, HJ.out [] W w0 none h0 hg0 (fun r e => by cases e)⟩
  case round =>
    obtain ⟨left, cnt, ss, hrg, hcs, hC, hJs⟩ := hrel
    have HC := hid hC
    have HCS := hid hcs
    clear hC hcs
    gi_wp2_with (first
      | (gi_at_next; refine wpListIn_next_ranges _ rfl _ rfl 57 keyKeyed allR keyV id (fun key kl hk => keyOf_key hk) (fun v _ _ => ⟨v, rfl⟩) b W.heap.size nn _ _ _ rfl hrg ?_ ?_)
      | gi_in)
    · intro hc0 hl0
      gi_wp2
      go_end0
      exact ⟨⟨_, rfl⟩, ss, HC.out.done HF.out hl0, hJs⟩
    · intro xs xk c kl yd yp w2 cnt2 hkey hlk hv hat hrg2 hlt hg2 hs2 hen
      have hJ2 : J ss w2 := HJ.out ss wr w2 (some W.heap.size) hJs hg2 (fun r e => by cases e; exact ⟨Nat.le_refl _, hrg.iter_walk⟩)
      obtain ⟨w3, hw3⟩ : ∃ w3, w2.alloc (.cells #[.string xs, .int .i64 xk] 57) = w3 := ⟨_, rfl⟩
      have hJ3 : J ss w3 := by rw [← hw3]; exact HJ.out ss w2 _ none hJ2 (World.grownBy_alloc w2 _ none) (fun r e => by cases e)
      obtain ⟨fn, tmps, assign, body, hy, hR⟩ := HY.out ss (xs, xk) w3 hJ3 (by have := HCS.out; omega)
      have K3 : Bx2 w3 w2.heap.size (.string xs) (.int .i64 xk) := by rw [← hw3]; exact Bx2.made _ _ _ _
      have hrg3 := hrg2.alloc (.cells #[.string xs, .int .i64 xk] 57)
      rw [hw3] at hrg3
      have q0 := K3.c0
      have q1 := K3.c1
      clear hs2 K3
      dsimp only [keyV] at hen hy hR ⊢
      gi_wp2
      try rw [hw3]
      refine hR.mono ?_
      rintro e W3 ⟨rfl, hJ4, hk3⟩
      gi_wp2
      have hrg4 := hrg3.of_walks hk3
      go_roundw
      case rel => exact ⟨_, cnt2, ss ++ [(xs, xk)], hrg4, by have := HCS.out; simp; omega, HC.out.step HF.out keyKeyed (fun _ _ => keyV_inj) hkey hlk hat, hJ4⟩
      case measure => rw [hrg4.left_eq, hrg.left_eq]; exact hlt
end Go.Proofs.Ytdfdhokbgmflfaa
