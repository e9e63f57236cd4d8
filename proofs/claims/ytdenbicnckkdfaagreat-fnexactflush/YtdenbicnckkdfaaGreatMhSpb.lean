import Derived.Test.YtdenbicnckkdfaaGreatMg25
namespace Go.Proofs.YtdenbicnckkdfaaGreat
open Go.ChangeShapes Go.WideShapes Go.ChangeAt Go.RowKit Go.Maps
set_option linter.unusedVariables false
set_option linter.unusedSimpArgs false

def sF (l : List (Int × Int)) (i : Nat) : Int := (l.getD i (0, 0)).1
def sT (l : List (Int × Int)) (i : Nat) : Int := (l.getD i (0, 0)).2
def loK (l : List (Int × Int)) : Nat → Int
  | 0 => 1
  | k + 1 => sT l k + 2
def spK (l : List (Int × Int)) : Nat → List Int
  | 0 => []
  | k + 1 => spK l k ++ (uvF 9 (sF l k - loK l k).toNat ++ uvF 9 (sT l k - sF l k).toNat)
def grpB (l : List (Int × Int)) : List Int := uvF 9 l.length ++ spK l l.length

theorem spK_len (l : List (Int × Int)) : ∀ k, (spK l k).length ≤ 20 * k
  | 0 => by simp [spK]
  | k + 1 => by
    have := spK_len l k
    have h1 := (uvF_len 9 (sF l k - loK l k).toNat).1
    have h2 := (uvF_len 9 (sT l k - sF l k).toNat).1
    simp only [spK, List.length_append]
    omega
theorem grpB_len (l : List (Int × Int)) : (grpB l).length ≤ 10 + 20 * l.length := by
  have h1 := (uvF_len 9 l.length).1
  have := spK_len l l.length
  simp only [grpB, List.length_append]
  omega

theorem srt_at {l : List (Int × Int)} (h : Srt l) {k : Nat} (hk : k < l.length) : 1 ≤ loK l k ∧ loK l k ≤ sF l k ∧ sF l k ≤ sT l k ∧ sT l k ≤ 1000000000 := by
  have e : l.getD k (0, 0) = l[k] := by simp [List.getD, hk]
  have h1 := h.2 _ (List.getElem_mem hk)
  rw [← e] at h1
  have h2 : loK l k ≤ sF l k ∧ 1 ≤ loK l k := by
    cases k with
    | zero => exact ⟨h1.1, Int.le_refl _⟩
    | succ k =>
      have h3 := srt_get h (show k < k + 1 by omega) hk
      have e2 : l.getD k (0, 0) = l[k] := by simp [List.getD, show k < l.length by omega]
      have h4 := h.2 _ (List.getElem_mem (show k < l.length by omega))
      rw [← e2] at h4
      show (l.getD k (0, 0)).2 + 2 ≤ (l.getD (k + 1) (0, 0)).1 ∧ 1 ≤ (l.getD k (0, 0)).2 + 2
      exact ⟨by omega, by omega⟩
  exact ⟨h2.2, h2.1, h1.2.1, h1.2.2⟩

theorem wrapU (x : Int) (h0 : 0 ≤ x) (h1 : x ≤ 1000000000) : IntKind.u64.wrap x = x := by
  unfold IntKind.wrap
  simp [IntKind.bits, IntKind.signed]
  omega

set_option maxRecDepth 100000 in
set_option maxHeartbeats 1000000 in
theorem appendSpans (B : Nat) (bv : Value) (zs0 : List Int) (a : Option Addr) (c : Nat) (l : List (Int × Int)) (w : World) (hB : B ≤ w.heap.size) (hl : zs0.length ≤ 100000000) (ho : Own w B bv zs0)
    (hs : SS w a l.length (sF l) (sT l)) (hne : ∀ x, a = some x → some x.block ≠ bv.ownBlock) (hok : Srt l) (hn : l.length ≤ 1000) :
    Calls Tryz.prog 81 #[bv, .slice a l.length c] w fun e w' => ∃ v, e = .returned v ∧ Own w' B v (zs0 ++ grpB l) ∧ Gr w w' bv v := by
  obtain ⟨n, hnn⟩ : ∃ n, l.length = n := ⟨_, rfl⟩
  have HGB : Hid (grpB l = uvF 9 n ++ spK l n) := by unfold grpB; rw [hnn]; exact rfl
  rw [hnn] at hs hn ⊢
  have HAT : Hid (∀ k, k < n → 1 ≤ loK l k ∧ loK l k ≤ sF l k ∧ sF l k ≤ sT l k ∧ sT l k ≤ 1000000000) := fun k hk => srt_at hok (by omega)
  have HU := uvF_len 9 n
  have HS := spK_len l
  clear hok hnn
  go_enter Tryz.func81, Tryz.ntmps81
  go_wp2_with fail
  refine (appendUvG B n bv zs0 w (by omega) hB (by omega) ho).mono ?_
  rintro e w1 ⟨v1, rfl, ho1, hg1, hz1⟩
  have HG1 := hid hg1
  rcases hs with h0 | ⟨b, off, rfl, hb, hc⟩
  · subst h0
    clear hg1
    go_wp2_with fail
    refine wp_loop_rounds 1 ?_; rw [rounds_succ]; go_wp2_with fail
    go_ret
    exact ⟨v1, rfl, by rw [HGB.out]; simpa [spK] using ho1, HG1.out⟩
  have hne1 := hne _ rfl
  have hc1 : Hid (∀ i, i < n → w.cell? ⟨b, off + i * 2, none⟩ = some (.int .i64 (sF l i)) ∧ w.cell? ⟨b, off + i * 2 + 1, none⟩ = some (.int .i64 (sT l i))) := hc
  have HO1 := hid ho1
  clear hg1 hc ho1 hne ho
  go_wp2_with fail
  go_loopw [0, 5, 15] (fun b' lo i wr => ∃ (k : Nat) (zs : List Int), k ≤ n ∧ i = .int .i64 k ∧ lo = .int .i64 (loK l k) ∧ Own wr B b' zs ∧ Hid (zs = zs0 ++ uvF 9 n ++ spK l k) ∧ Hid (Gr w wr bv b') ∧ w.heap.size ≤ wr.heap.size ∧ zs.length ≤ 100000000 + 10 + 20 * k) (fun _ _ i _ => n - (intOf i).toNat)
  case atStart => exact ⟨0, _, Nat.zero_le _, rfl, rfl, HO1.out, hid (by simp [spK]), HG1, by omega, by simp; omega⟩
  case round =>
    obtain ⟨k, zs, hk, rfl, rfl, hown, hzs, hgr, hsz, hlen⟩ := hrel
    by_cases hlt : k < n
    · have hck : wr.cell? ⟨b, off + k * 2, none⟩ = some (.int .i64 (sF l k)) := hgr.out.g.cell (hc1.out k hlt).1 hne1
      have hck1 : wr.cell? ⟨b, off + k * 2 + 1, none⟩ = some (.int .i64 (sT l k)) := hgr.out.g.cell (hc1.out k hlt).2 hne1
      obtain ⟨q1, q2, q3, q4⟩ := HAT.out k hlt
      obtain ⟨W1, hW1⟩ : ∃ W1, wr.alloc (.cells #[.int .i64 (sF l k), .int .i64 (sT l k)] 164) = W1 := ⟨_, rfl⟩
      have zW : W1.heap.size = wr.heap.size + 1 := by rw [← hW1]; simp
      have r0 : W1.cell? ⟨wr.heap.size, 0, none⟩ = some (.int .i64 (sF l k)) := by rw [← hW1]; simp
      have r1 : W1.cell? ⟨wr.heap.size, 1, none⟩ = some (.int .i64 (sT l k)) := by rw [← hW1]; simp
      have OW : Own W1 B u0 zs := by rw [← hW1]; exact World.ownsRow.alloc hown _
      have GW : Hid (Gr w W1 bv u0) := by rw [← hW1]; exact hgr.out.alloc _
      have hnb : some wr.heap.size ≠ u0.ownBlock := fun e => by have := (World.ownsRow.lt hown _ e.symm).2; omega
      obtain ⟨m1, e1⟩ : ∃ m : Nat, sF l k - loK l k = (m : Int) := ⟨(sF l k - loK l k).toNat, by omega⟩
      obtain ⟨m2, e2⟩ : ∃ m : Nat, sT l k - sF l k = (m : Int) := ⟨(sT l k - sF l k).toNat, by omega⟩
      have x1 : IntKind.i64.wrap (sF l k - loK l k) = (m1 : Int) := by rw [e1]; exact wrapIn _ (by omega) (by omega)
      have x2 : IntKind.i64.wrap (sT l k - sF l k) = (m2 : Int) := by rw [e2]; exact wrapIn _ (by omega) (by omega)
      have x3 : IntKind.u64.wrap (m1 : Int) = (m1 : Int) := wrapU _ (by omega) (by omega)
      have x4 : IntKind.u64.wrap (m2 : Int) = (m2 : Int) := wrapU _ (by omega) (by omega)
      have HSP : Hid (spK l (k + 1) = spK l k ++ (uvF 9 m1 ++ uvF 9 m2)) := by show spK l k ++ _ = _; rw [e1, e2]; rfl
      have y1 : m1 ≤ 1000000000 := by omega
      have y2 : m2 ≤ 1000000000 := by omega
      clear e1 e2
      have x5 : IntKind.i64.wrap (sT l k + 2) = sT l k + 2 := wrapIn _ (by omega) (by omega)
      have HOW := hid OW
      clear OW hown
      go_wp2_with fail
      try rw [hW1]
      refine (appendUvG B m1 u0 zs W1 (by omega) (by omega) (by omega) HOW.out).mono ?_
      rintro e w2 ⟨v2, rfl, ho2, hg2, hz2⟩
      have s0 := hg2.g.cell r0 hnb
      have s1 := hg2.g.cell r1 hnb
      have l2 := (uvF_len 9 m1).1
      have l3 := (uvF_len 9 m2).1
      have hnb2 : some wr.heap.size ≠ v2.ownBlock := fun e => by
        rcases hg2.l with h | ⟨j, h, hj⟩
        · exact hnb (e.trans h)
        · rw [h] at e; injection e with e; omega
      have HG2 := hid (GW.out.trans hg2)
      have HO2 := hid ho2
      clear hW1 hck hck1 r0 r1 hg2 ho2 GW HOW
      go_wp2_with fail
      refine (appendUvG B m2 v2 _ w2 (by omega) (by omega) (by simp; omega) HO2.out).mono ?_
      rintro e w3 ⟨v3, rfl, ho3, hg3, hz3⟩
      have t0 := hg3.g.cell s0 hnb2
      have t1 := hg3.g.cell s1 hnb2
      have HG3 := hid (HG2.out.trans hg3)
      have HO3 := hid ho3
      clear s0 s1 hg3 ho3 HG2 HO2
      go_wp2_with fail
      go_roundw
      case rel => exact ⟨k + 1, _, hlt, by go_num, rfl, HO3.out, hid (by rw [HSP.out, hzs.out]; simp), HG3, by omega, by simp; omega⟩
      case measure => simp [intOf]; omega
    · obtain rfl : k = n := by omega
      have HO := hid hown
      clear hown
      go_wp2_with fail
      go_ret
      refine ⟨u0, rfl, ?_, hgr.out⟩
      rw [HGB.out, ← List.append_assoc, ← hzs.out]
      exact HO.out
end Go.Proofs.YtdenbicnckkdfaaGreat
