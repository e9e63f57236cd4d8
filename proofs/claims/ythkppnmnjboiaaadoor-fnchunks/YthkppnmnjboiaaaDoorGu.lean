import Derived.Test.YthkppnmnjboiaaaDoorWv
import Derived.Test.YthkppnmnjboiaaaDoorByt
import Derived.Deep.RegionHeld3
import Derived.OwnWalk
namespace Go.Proofs.YthkppnmnjboiaaaDoor
open Go.ChangeShapes Go.WideShapes Go.ChangeAt Go.RowKit
set_option linter.unusedVariables false
set_option linter.unusedSimpArgs false

theorem keepS {wr w1 w2 : World} (h1 : Below wr.heap.size wr w1) (b2 : Below w1.heap.size w1 w2) : Below wr.heap.size wr w2 := h1.trans (b2.mono h1.size)

theorem take1 {P : Program} {ops : Array Oper} {Q : Exit → Act → World → Prop} {md : Region.Mode} {S : World → Prop} {i : Nat} {d : Option Tmp} {v : Value} {fuel : Nat} {listed : Array Bool} {a : Act} {w : World}
    (hd : ops[i]?.map (fun o => o.dst) = some d) (hs : Region.noSelect ops = true) (hf : Region.free md ops listed i = true) (hr : (Region.ready md ops listed).contains i = true)
    (hQ : ∀ c a w, Q (.panic c) (a.put d v) w → Q (.panic c) a w) (hy : ∀ o, ops[i]? = some o → YieldsIf P ops S o v a) (hS : S w)
    (h : wpAnyH P md ops Q S fuel (listed.setIfInBounds i true) (a.put d v) w) : wpAnyH P md ops Q S (fuel + 1) listed a w := by
  obtain ⟨o, ho, rfl⟩ := Option.map_eq_some_iff.1 hd
  exact wpAnyH_take ho hs hf hr hQ (hy o ho) hS h

theorem call1 {P : Program} {ops : Array Oper} {Q : Exit → Act → World → Prop} {md : Region.Mode} {S : World → Prop} {i : Nat} {d : Option Tmp} {fuel : Nat} {listed : Array Bool} {a : Act} {w : World}
    (hd : ops[i]?.map (fun o => o.dst) = some d) (hr : Region.ready md ops listed = [i])
    (h : ∀ o, ops[i]? = some o → o.dst = d → ∀ K' : Act → World → Prop, Shut (∀ a w, S w → (S w → wpAnyH P md ops Q S fuel (listed.setIfInBounds i true) a w) → K' a w) → if Region.wanted o (yielded ops a.tmps) = true then Oper.wp P o a w K' Q else K' (a.put o.dst undef) w) :
    wpAnyH P md ops Q S (fuel + 1) listed a w := by
  obtain ⟨o, ho, hod⟩ := Option.map_eq_some_iff.1 hd
  exact wpAnyH_ready hr (by simp) (AllReadyH.cons ho (h o ho hod) AllReadyH.nil)

theorem wrapIn (x : Int) (h0 : -9223372036854775808 ≤ x) (h1 : x ≤ 9223372036854775807) : IntKind.i64.wrap x = x := by
  rw [IntKind.wrap_i64]; omega

def sumF (f : Nat → Int) (p : Nat) : Nat → Nat
  | 0 => 0
  | k + 1 => sumF f p k + (f (p + k) % 128).toNat * 128 ^ k
def Cnt (f : Nat → Int) (n p m : Nat) : Prop := m ≤ 9 ∧ (∀ k, k < m → p + k < n ∧ 128 ≤ f (p + k)) ∧ (p + m < n → m < 9 → f (p + m) < 128)
theorem cnt_ex (f : Nat → Int) (n p : Nat) : ∃ m, Cnt f n p m := by
  have key : ∀ d m, m + d = 9 → (∀ k, k < m → p + k < n ∧ 128 ≤ f (p + k)) → ∃ m', Cnt f n p m' := by
    intro d
    induction d with
    | zero => intro m hm h; exact ⟨m, by omega, h, fun _ h9 => by omega⟩
    | succ d ih =>
      intro m hm h
      by_cases hc : p + m < n ∧ 128 ≤ f (p + m)
      · exact ih (m + 1) (by omega) (fun k hk => by
          by_cases h1 : k = m
          · subst h1; exact hc
          · exact h k (by omega))
      · exact ⟨m, by omega, h, fun h1 _ => by omega⟩
  exact key 9 0 rfl (fun k hk => by omega)
def guC (f : Nat → Int) (n p m : Nat) : Nat := if n ≤ p + m then 1 else if m = 9 ∧ 1 < f (p + m) then 2 else if 0 < m ∧ f (p + m) = 0 then 3 else 0
def guV (f : Nat → Int) (n p m : Nat) : Nat := if guC f n p m = 0 then sumF f p (m + 1) else 0
def guA (f : Nat → Int) (n p m : Nat) : Nat := if guC f n p m = 0 then p + m + 1 else p
theorem sumF_lt {f : Nat → Int} (hf : Byt f) (p : Nat) : ∀ k, sumF f p k < 128 ^ k
  | 0 => by simp [sumF]
  | k + 1 => by
    have h1 := sumF_lt hf p k
    have h2 : (f (p + k) % 128).toNat ≤ 127 := by have := hf (p + k); omega
    have h3 : (f (p + k) % 128).toNat * 128 ^ k ≤ 127 * 128 ^ k := Nat.mul_le_mul_right _ h2
    show sumF f p k + _ < _
    rw [Nat.pow_succ]; omega
theorem pow9 {k : Nat} (h : k ≤ 9) : 128 ^ k ≤ 9223372036854775808 := by
  have := Nat.pow_le_pow_right (n := 128) (by omega) h
  simpa using this

theorem sumF_64 {f : Nat → Int} (hf : Byt f) (p m : Nat) (hm : m ≤ 9) (h9 : m = 9 → f (p + m) ≤ 1) : ∀ k, k ≤ m + 1 → sumF f p k < 18446744073709551616 := by
  intro k hk
  by_cases h : k ≤ 9
  · have := sumF_lt hf p k; have := pow9 h; omega
  · obtain rfl : k = 10 := by omega
    obtain rfl : m = 9 := by omega
    have h1 := sumF_lt hf p 9
    have h2 := h9 rfl
    have h3 := hf (p + 9)
    have h4 : (f (p + 9) % 128).toNat ≤ 1 := by omega
    have h5 := pow9 (k := 9) (by omega)
    show sumF f p 9 + (f (p + 9) % 128).toNat * 128 ^ 9 < _
    have h6 : (f (p + 9) % 128).toNat * 128 ^ 9 ≤ 1 * 128 ^ 9 := Nat.mul_le_mul_right _ h4
    omega

set_option maxHeartbeats 400000 in
theorem l1Power (k : Nat) (w : World) (hk : k ≤ 9) :
    Calls Tryd.prog 35 #[.int .i64 (k : Int)] w fun e w' => e = .returned (.int .u64 ((128 ^ k : Nat) : Int)) ∧ w' = w := by
  go_enter Tryd.func35, Tryd.ntmps35
  go_wp2_with fail
  go_loop [3, 4] (fun v i => ∃ (j x : Nat), j ≤ k ∧ Hid (x = 128 ^ j) ∧ i = .int .i64 (j : Int) ∧ v = .int .u64 (x : Int)) (fun _ i => k - (intOf i).toNat)
  case atStart => exact ⟨0, 1, Nat.zero_le _, hid (by simp), rfl, rfl⟩
  case round =>
    obtain ⟨j, x, hj, hx, rfl, rfl⟩ := hrel
    by_cases hlt : j < k
    · have hx8 : x ≤ 72057594037927936 := by
        have := Nat.pow_le_pow_right (n := 128) (by omega) (show j ≤ 8 by omega)
        have e := hx.out
        simp at this; omega
      go_wp2_with fail
      go_round
      case rel => exact ⟨j + 1, x * 128, hlt, hid (by have := hx.out; rw [Nat.pow_succ, this]), by go_num, by go_num⟩
      case measure => simp [intOf]; omega
    · obtain rfl : j = k := by omega
      go_wp2_with fail
      go_ret
      exact ⟨ret_int (by rw [hx.out]; simp), rfl⟩

theorem retG {a b c a' b' c' : Int} (h1 : a = a') (h2 : b = b') (h3 : c = c') : Ending.returned (.tuple #[.int .u64 a, .int .i64 b, .int .i64 c]) = .returned (.tuple #[.int .u64 a', .int .i64 b', .int .i64 c']) := by rw [h1, h2, h3]

set_option maxRecDepth 100000 in
set_option maxHeartbeats 800000 in
theorem specGuOut (a : Option Addr) (n c : Nat) (x : Int) (w : World) (hn : n ≤ 4194304) (hx : x < 0 ∨ (n : Int) < x) :
    Calls Tryd.prog 31 #[.slice a n c, .int .i64 x] w fun e w' => e = .returned (.tuple #[.int .u64 0, .int .i64 x, .int .i64 1]) ∧ Below w.heap.size w w' := by
  by_cases h0 : x < 0
  · go_enter Tryd.func31, Tryd.ntmps31
    go_wp2_with fail
    go_ret3
    exact ⟨rfl, Below.refl _ _⟩
  · have h1 : (n : Int) < x := by omega
    go_enter Tryd.func31, Tryd.ntmps31
    go_wp2_with fail
    go_ret3
    exact ⟨rfl, Below.refl _ _⟩

set_option maxRecDepth 100000 in
set_option maxHeartbeats 2000000 in
theorem specGu (a : Option Addr) (n c p m : Nat) (f : Nat → Int) (w : World) (hn : n ≤ 4194304) (hf : Byt f) (h : Seg w a n f) (hp : p ≤ n) (hm : Cnt f n p m) :
    Calls Tryd.prog 31 #[.slice a n c, .int .i64 (p : Int)] w fun e w' => e = .returned (.tuple #[.int .u64 (guV f n p m : Int), .int .i64 (guA f n p m : Int), .int .i64 (guC f n p m : Int)]) ∧ Below w.heap.size w w' := by
  by_cases hpn : p = n
  · subst hpn
    have hm0 : m = 0 := by
      rcases Nat.eq_zero_or_pos m with h0 | h0
      · exact h0
      · have := (hm.2.1 0 h0).1; omega
    subst hm0
    have HC : Hid (guC f p p 0 = 1) := by show _ = _; unfold guC; rw [if_pos (by omega)]
    have HV : Hid (guV f p p 0 = 0 ∧ guA f p p 0 = p) := by show _ ∧ _; unfold guV guA; rw [HC.out]; simp
    clear h hf hm
    go_enter Tryd.func31, Tryd.ntmps31
    go_wp2_with fail
    refine wp_loop_rounds 1 ?_; rw [rounds_succ]; go_wp2_with fail
    go_ret3
    exact ⟨retG (by rw [HV.out.1]; rfl) (by rw [HV.out.2]) (by rw [HC.out]; rfl), Below.refl _ _⟩
  rcases h with h | ⟨b, off, rfl, hb, hc⟩
  · omega
  have HCn := hid hm
  have hm9 := hm.1
  clear hm
  go_enter Tryd.func31, Tryd.ntmps31
  go_wp2_with fail
  go_loop [7] (fun i => ∃ k : Nat, k ≤ m ∧ i = .int .i64 (k : Int)) (fun i => m - (intOf i).toNat)
  case atStart => exact ⟨0, Nat.zero_le _, rfl⟩
  case round =>
    obtain ⟨k, hk, rfl⟩ := hrel
    by_cases hlt : k < m
    · have hqn : p + k < n := (HCn.out.2.1 k hlt).1
      have hck : w.cell? ⟨b, off + (p + k), none⟩ = some (.int .u8 (f (p + k))) := hc (p + k) hqn
      have hfq : 128 ≤ f (p + k) := (HCn.out.2.1 k hlt).2
      have hk9 : k < 9 := by omega
      go_wp2_with fail
      go_round
      case rel => exact ⟨k + 1, hlt, by go_num⟩
      case measure => simp [intOf]; omega
    · obtain rfl : k = m := by omega
      by_cases hqn : p + k < n
      · obtain ⟨z, hz⟩ : ∃ z : Nat, f (p + k) = (z : Int) := ⟨(f (p + k)).toNat, by have := (hf (p + k)).1; omega⟩
        have hz8 : z < 256 := by have := (hf (p + k)).2; omega
        have hck : w.cell? ⟨b, off + (p + k), none⟩ = some (.int .u8 (z : Int)) := by rw [hc (p + k) hqn, hz]
        have hst : k < 9 → z < 128 := fun h9 => by have := HCn.out.2.2 hqn h9; omega
        have HZ := hid hz
        have HCC := hid hc
        clear hz hc
        have C2 : 9 ≤ k → 1 < z → Hid (guC f n p k = 2) := fun h9 h1 => by show _ = _; unfold guC; rw [if_neg (by omega), if_pos ⟨by omega, by rw [HZ.out]; omega⟩]
        have C3 : (9 ≤ k → z ≤ 1) → 0 < k → z = 0 → Hid (guC f n p k = 3) := fun h9 h1 h0 => by show _ = _; unfold guC; rw [if_neg (by omega), if_neg (by rw [HZ.out]; omega), if_pos ⟨h1, by rw [HZ.out]; omega⟩]
        have C0 : (9 ≤ k → z ≤ 1) → (0 < k → z ≠ 0) → Hid (guC f n p k = 0) := fun h9 h1 => by show _ = _; unfold guC; rw [if_neg (by omega), if_neg (by rw [HZ.out]; omega), if_neg (by rw [HZ.out]; omega)]
        have V1 : guC f n p k ≠ 0 → Hid (guV f n p k = 0 ∧ guA f n p k = p) := fun hne => by show _ ∧ _; unfold guV guA; rw [if_neg hne, if_neg hne]; exact ⟨rfl, rfl⟩
        have V0 : guC f n p k = 0 → Hid (guV f n p k = sumF f p (k + 1) ∧ guA f n p k = p + k + 1) := fun hne => by show _ ∧ _; unfold guV guA; rw [if_pos hne, if_pos hne]; exact ⟨rfl, rfl⟩
        have S64 : (9 ≤ k → z ≤ 1) → Hid (∀ j, j ≤ k + 1 → sumF f p j < 18446744073709551616) := fun h9 => sumF_64 hf p k (by omega) (fun h => by rw [HZ.out]; have := h9 (by omega); omega)
        by_cases h9 : k < 9
        · have hz7 := hst h9
          by_cases h0 : 0 < k
          · by_cases hz0 : z = 0
            · have hz0' : z ≤ 0 := by omega
              have HC := C3 (by omega) h0 hz0
              have HV := V1 (by rw [HC.out]; omega)
              clear hz0 C2 C3 C0 V1 V0 S64 hst
              go_wp2_with fail
              go_ret3
              exact ⟨retG (by rw [HV.out.1]; rfl) (by rw [HV.out.2]) (by rw [HC.out]; rfl), Below.refl _ _⟩
            · have hz0' : 0 < z := by omega
              have HC := C0 (by omega) (fun _ => hz0)
              have HV := V0 HC.out
              have H64 := S64 (by omega)
              clear hz0 C2 C3 C0 V1 V0 S64 hst
              go_wp2_with fail
              go_loopw [9, 10] (fun v i wr => ∃ (j x : Nat), j ≤ k + 1 ∧ Hid (x = sumF f p j) ∧ i = .int .i64 (j : Int) ∧ v = .int .u64 (x : Int) ∧ Hid (Below w.heap.size w wr)) (fun _ i _ => k + 1 - (intOf i).toNat)
              case atStart => exact ⟨0, 0, Nat.zero_le _, hid rfl, rfl, rfl, hid (Below.refl _ _)⟩
              case round =>
                obtain ⟨j, x, hj, hx, rfl, rfl, hbel⟩ := hrel
                by_cases hjk : j ≤ k
                · have hjn : p + j < n := by omega
                  obtain ⟨y, hy⟩ : ∃ y : Nat, f (p + j) = (y : Int) := ⟨(f (p + j)).toNat, by have := (hf (p + j)).1; omega⟩
                  have hy8 : y < 256 := by have := (hf (p + j)).2; omega
                  have hcj : wr.cell? ⟨b, off + (p + j), none⟩ = some (.int .u8 (y : Int)) := by rw [hbel.out.cell (p := ⟨b, _, none⟩) hb, HCC.out (p + j) hjn, hy]
                  have hbr := Nat.lt_of_lt_of_le hb hbel.out.size
                  obtain ⟨t, ht⟩ : ∃ t : Nat, t = 128 ^ j := ⟨_, rfl⟩
                  have hs1 : sumF f p (j + 1) = x + y % 128 * t := by
                    show sumF f p j + _ = _
                    rw [hx.out, ht, hy]; congr 2
                  have hs2 := H64.out (j + 1) (by omega)
                  rw [hs1] at hs2
                  have hyt : y % 128 * t < 18446744073709551616 := by omega
                  have HT := hid ht
                  have hj9 : j ≤ 9 := by omega
                  obtain ⟨q, hq⟩ : ∃ q : Nat, q = p + j := ⟨_, rfl⟩
                  have hwq : IntKind.i64.wrap ((p : Int) + (j : Int)) = (q : Int) := by rw [wrapIn _ (by omega) (by omega)]; omega
                  have hq0 : (0 : Int) ≤ (q : Int) := Int.natCast_nonneg _
                  have hqn1 : (q : Int) < (n : Int) := by omega
                  rw [← hq] at hcj
                  obtain ⟨r, hr⟩ : ∃ r : Nat, r = y % 128 * t := ⟨_, rfl⟩
                  obtain ⟨v1, hv1⟩ : ∃ v1 : Nat, v1 = x + r := ⟨_, rfl⟩
                  have hadd : IntKind.u64.wrap ((x : Int) + (r : Int)) = (v1 : Int) := by rw [IntKind.wrap_u64]; omega
                  obtain ⟨u, hu⟩ : ∃ u : Nat, u = y % 128 := ⟨_, rfl⟩
                  have hmod : IntKind.u64.wrap ((y : Int).tmod 128) = (u : Int) := by rw [Int.tmod_eq_emod_of_nonneg (by omega), IntKind.wrap_u64]; omega
                  have hmul : IntKind.u64.wrap ((u : Int) * (t : Int)) = (r : Int) := by
                    have e : ((u * t : Nat) : Int) = (u : Int) * (t : Int) := by push_cast; rfl
                    rw [hu, ← hr] at e
                    rw [IntKind.wrap_u64, hu, ← e]; omega
                  rw [← hr, ← hv1] at hs1
                  have HS := hid hs1
                  clear hy hs1 ht hq hr hyt hs2 hv1 hu
                  go_wp2_with fail
                  refine wp_region_held_drew (S := fun w' => Below wr.heap.size wr w' ∧ w'.cell? ⟨b, off + q, none⟩ = some (.int .u8 (y : Int))) (by kernel_rfl) ⟨(Below.refl _ _).drew, hcj⟩ (fun hHeld => ?_)
                  refine take1 (i := 0) (d := some 73) (v := ?_) (by kernel_rfl) (by kernel_rfl) (by kernel_rfl) (by kernel_rfl) (fun _ _ _ h => h) ?_ hHeld ?_
                  rotate_left
                  · (intro o ho; simp only [List.getElem?_toArray, List.getElem?_cons_succ, List.getElem?_cons_zero, Option.some.injEq] at ho; subst ho; refine Or.inl ⟨by rfl, ?_⟩; intro w hSw; (try dsimp only at hSw); go_simp; try with_reducible rfl)
                  try simp only [Act.put, List.setIfInBounds_toArray, List.set_cons_zero, List.set_cons_succ]
                  refine take1 (i := 1) (d := some 74) (v := ?_) (by kernel_rfl) (by kernel_rfl) (by kernel_rfl) (by kernel_rfl) (fun _ _ _ h => h) ?_ hHeld ?_
                  rotate_left
                  · (intro o ho; simp only [List.getElem?_toArray, List.getElem?_cons_succ, List.getElem?_cons_zero, Option.some.injEq] at ho; subst ho; refine Or.inl ⟨by rfl, ?_⟩; intro w hSw; (try dsimp only at hSw); go_simp; try with_reducible rfl)
                  try simp only [Act.put, List.setIfInBounds_toArray, List.set_cons_zero, List.set_cons_succ]
                  refine take1 (i := 2) (d := some 75) (v := ?_) (by kernel_rfl) (by kernel_rfl) (by kernel_rfl) (by kernel_rfl) (fun _ _ _ h => h) ?_ hHeld ?_
                  rotate_left
                  · (intro o ho; simp only [List.getElem?_toArray, List.getElem?_cons_succ, List.getElem?_cons_zero, Option.some.injEq] at ho; subst ho; refine Or.inl ⟨by rfl, ?_⟩; intro w hSw; (try dsimp only at hSw); go_simp; try with_reducible rfl)
                  try simp only [Act.put, List.setIfInBounds_toArray, List.set_cons_zero, List.set_cons_succ]
                  refine take1 (i := 3) (d := some 76) (v := ?_) (by kernel_rfl) (by kernel_rfl) (by kernel_rfl) (by kernel_rfl) (fun _ _ _ h => h) ?_ hHeld ?_
                  rotate_left
                  · (intro o ho; simp only [List.getElem?_toArray, List.getElem?_cons_succ, List.getElem?_cons_zero, Option.some.injEq] at ho; subst ho; refine Or.inl ⟨by rfl, ?_⟩; intro w hSw; (try dsimp only at hSw); go_simp; try with_reducible rfl)
                  try simp only [Act.put, List.setIfInBounds_toArray, List.set_cons_zero, List.set_cons_succ]
                  refine take1 (i := 4) (d := some 77) (v := ?_) (by kernel_rfl) (by kernel_rfl) (by kernel_rfl) (by kernel_rfl) (fun _ _ _ h => h) ?_ hHeld ?_
                  rotate_left
                  · (intro o ho; simp only [List.getElem?_toArray, List.getElem?_cons_succ, List.getElem?_cons_zero, Option.some.injEq] at ho; subst ho; refine Or.inl ⟨by rfl, ?_⟩; intro w hSw; (try dsimp only at hSw); go_simp; try with_reducible rfl)
                  try simp only [Act.put, List.setIfInBounds_toArray, List.set_cons_zero, List.set_cons_succ]
                  refine take1 (i := 5) (d := some 78) (v := ?_) (by kernel_rfl) (by kernel_rfl) (by kernel_rfl) (by kernel_rfl) (fun _ _ _ h => h) ?_ hHeld ?_
                  rotate_left
                  · (intro o ho; simp only [List.getElem?_toArray, List.getElem?_cons_succ, List.getElem?_cons_zero, Option.some.injEq] at ho; subst ho; refine Or.inl ⟨by rfl, ?_⟩; intro w hSw; (try dsimp only at hSw); go_simp; try with_reducible rfl)
                  try simp only [Act.put, List.setIfInBounds_toArray, List.set_cons_zero, List.set_cons_succ]
                  refine take1 (i := 6) (d := some 79) (v := ?_) (by kernel_rfl) (by kernel_rfl) (by kernel_rfl) (by kernel_rfl) (fun _ _ _ h => h) ?_ hHeld ?_
                  rotate_left
                  · (intro o ho; simp only [List.getElem?_toArray, List.getElem?_cons_succ, List.getElem?_cons_zero, Option.some.injEq] at ho; subst ho; refine Or.inl ⟨by rfl, ?_⟩; intro w hSw; (try dsimp only at hSw); go_simp; try with_reducible rfl)
                  try simp only [Act.put, List.setIfInBounds_toArray, List.set_cons_zero, List.set_cons_succ]
                  refine take1 (i := 7) (d := some 80) (v := ?_) (by kernel_rfl) (by kernel_rfl) (by kernel_rfl) (by kernel_rfl) (fun _ _ _ h => h) ?_ hHeld ?_
                  rotate_left
                  · (intro o ho; simp only [List.getElem?_toArray, List.getElem?_cons_succ, List.getElem?_cons_zero, Option.some.injEq] at ho; subst ho; refine Or.inl ⟨by rfl, ?_⟩; intro w hSw; (try dsimp only at hSw); go_simp; try with_reducible rfl)
                  try simp only [Act.put, List.setIfInBounds_toArray, List.set_cons_zero, List.set_cons_succ]
                  refine take1 (i := 8) (d := some 81) (v := ?_) (by kernel_rfl) (by kernel_rfl) (by kernel_rfl) (by kernel_rfl) (fun _ _ _ h => h) ?_ hHeld ?_
                  rotate_left
                  · (intro o ho; simp only [List.getElem?_toArray, List.getElem?_cons_succ, List.getElem?_cons_zero, Option.some.injEq] at ho; subst ho; refine Or.inl ⟨by rfl, ?_⟩; intro w hSw; (try dsimp only at hSw); go_simp; try with_reducible rfl)
                  try simp only [Act.put, List.setIfInBounds_toArray, List.set_cons_zero, List.set_cons_succ]
                  refine take1 (i := 9) (d := some 82) (v := ?_) (by kernel_rfl) (by kernel_rfl) (by kernel_rfl) (by kernel_rfl) (fun _ _ _ h => h) ?_ hHeld ?_
                  rotate_left
                  · (intro o ho; simp only [List.getElem?_toArray, List.getElem?_cons_succ, List.getElem?_cons_zero, Option.some.injEq] at ho; subst ho; refine Or.inl ⟨by rfl, ?_⟩; intro w hSw; (try dsimp only at hSw); go_simp; try with_reducible rfl)
                  try simp only [Act.put, List.setIfInBounds_toArray, List.set_cons_zero, List.set_cons_succ]
                  refine call1 (i := 10) (d := some 83) (by kernel_rfl) (by kernel_rfl) ?_
                  intro o ho hod K hK; simp only [List.getElem?_toArray, List.getElem?_cons_succ, List.getElem?_cons_zero, Option.some.injEq] at ho; subst ho
                  go_simp
                  refine (l1Power j _ hj9).mono ?_
                  rintro e w2 ⟨rfl, rfl⟩
                  rw [← HT.out]
                  refine hK.out _ _ ⟨hHeld.1, hHeld.2⟩ (fun hHeld => ?_)
                  clear hK K
                  try simp only [Act.put, List.setIfInBounds_toArray, List.set_cons_zero, List.set_cons_succ]
                  refine take1 (i := 11) (d := some 84) (v := ?_) (by kernel_rfl) (by kernel_rfl) (by kernel_rfl) (by kernel_rfl) (fun _ _ _ h => h) ?_ hHeld ?_
                  rotate_left
                  · (intro o ho; simp only [List.getElem?_toArray, List.getElem?_cons_succ, List.getElem?_cons_zero, Option.some.injEq] at ho; subst ho; refine Or.inl ⟨by rfl, ?_⟩; intro w hSw; (try dsimp only at hSw); go_simp; try with_reducible rfl)
                  try simp only [Act.put, List.setIfInBounds_toArray, List.set_cons_zero, List.set_cons_succ]
                  refine take1 (i := 12) (d := some 85) (v := ?_) (by kernel_rfl) (by kernel_rfl) (by kernel_rfl) (by kernel_rfl) (fun _ _ _ h => h) ?_ hHeld ?_
                  rotate_left
                  · (intro o ho; simp only [List.getElem?_toArray, List.getElem?_cons_succ, List.getElem?_cons_zero, Option.some.injEq] at ho; subst ho; refine Or.inl ⟨by rfl, ?_⟩; intro w hSw; (try dsimp only at hSw); go_simp; try with_reducible rfl)
                  try simp only [Act.put, List.setIfInBounds_toArray, List.set_cons_zero, List.set_cons_succ]
                  refine take1 (i := 13) (d := some 9) (v := ?_) (by kernel_rfl) (by kernel_rfl) (by kernel_rfl) (by kernel_rfl) (fun _ _ _ h => h) ?_ hHeld ?_
                  rotate_left
                  · (intro o ho; simp only [List.getElem?_toArray, List.getElem?_cons_succ, List.getElem?_cons_zero, Option.some.injEq] at ho; subst ho; refine Or.inl ⟨by rfl, ?_⟩; intro w hSw; (try dsimp only at hSw); go_simp; try with_reducible rfl)
                  try simp only [Act.put, List.setIfInBounds_toArray, List.set_cons_zero, List.set_cons_succ]
                  refine wpAnyH_done (by kernel_rfl) ?_ _
                  have HB2 := hid hHeld.1
                  clear hHeld
                  go_wp2_with fail
                  go_roundw
                  case rel => exact ⟨j + 1, v1, by omega, hid (HS.out.symm), by go_num, by first | rfl | (simp only [hmod, hmul, hadd]), hid (hbel.out.trans (HB2.out.mono hbel.out.size))⟩
                  case measure => simp [intOf]; omega
                · obtain rfl : j = k + 1 := by omega
                  go_wp2_with fail
                  go_ret3
                  exact ⟨retG (by rw [HV.out.1, hx.out]) (by rw [HV.out.2]; simp <;> omega) (by rw [HC.out]; rfl), hbel.out⟩
          · have h0' : k ≤ 0 := by omega
            have HC := C0 (by omega) (by omega)
            have HV := V0 HC.out
            have H64 := S64 (by omega)
            clear C2 C3 C0 V1 V0 S64 hst
            go_wp2_with fail
            go_loopw [9, 10] (fun v i wr => ∃ (j x : Nat), j ≤ k + 1 ∧ Hid (x = sumF f p j) ∧ i = .int .i64 (j : Int) ∧ v = .int .u64 (x : Int) ∧ Hid (Below w.heap.size w wr)) (fun _ i _ => k + 1 - (intOf i).toNat)
            case atStart => exact ⟨0, 0, Nat.zero_le _, hid rfl, rfl, rfl, hid (Below.refl _ _)⟩
            case round =>
              obtain ⟨j, x, hj, hx, rfl, rfl, hbel⟩ := hrel
              by_cases hjk : j ≤ k
              · have hjn : p + j < n := by omega
                obtain ⟨y, hy⟩ : ∃ y : Nat, f (p + j) = (y : Int) := ⟨(f (p + j)).toNat, by have := (hf (p + j)).1; omega⟩
                have hy8 : y < 256 := by have := (hf (p + j)).2; omega
                have hcj : wr.cell? ⟨b, off + (p + j), none⟩ = some (.int .u8 (y : Int)) := by rw [hbel.out.cell (p := ⟨b, _, none⟩) hb, HCC.out (p + j) hjn, hy]
                have hbr := Nat.lt_of_lt_of_le hb hbel.out.size
                obtain ⟨t, ht⟩ : ∃ t : Nat, t = 128 ^ j := ⟨_, rfl⟩
                have hs1 : sumF f p (j + 1) = x + y % 128 * t := by
                  show sumF f p j + _ = _
                  rw [hx.out, ht, hy]; congr 2
                have hs2 := H64.out (j + 1) (by omega)
                rw [hs1] at hs2
                have hyt : y % 128 * t < 18446744073709551616 := by omega
                have HT := hid ht
                have hj9 : j ≤ 9 := by omega
                obtain ⟨q, hq⟩ : ∃ q : Nat, q = p + j := ⟨_, rfl⟩
                have hwq : IntKind.i64.wrap ((p : Int) + (j : Int)) = (q : Int) := by rw [wrapIn _ (by omega) (by omega)]; omega
                have hq0 : (0 : Int) ≤ (q : Int) := Int.natCast_nonneg _
                have hqn1 : (q : Int) < (n : Int) := by omega
                rw [← hq] at hcj
                obtain ⟨r, hr⟩ : ∃ r : Nat, r = y % 128 * t := ⟨_, rfl⟩
                obtain ⟨v1, hv1⟩ : ∃ v1 : Nat, v1 = x + r := ⟨_, rfl⟩
                have hadd : IntKind.u64.wrap ((x : Int) + (r : Int)) = (v1 : Int) := by rw [IntKind.wrap_u64]; omega
                obtain ⟨u, hu⟩ : ∃ u : Nat, u = y % 128 := ⟨_, rfl⟩
                have hmod : IntKind.u64.wrap ((y : Int).tmod 128) = (u : Int) := by rw [Int.tmod_eq_emod_of_nonneg (by omega), IntKind.wrap_u64]; omega
                have hmul : IntKind.u64.wrap ((u : Int) * (t : Int)) = (r : Int) := by
                  have e : ((u * t : Nat) : Int) = (u : Int) * (t : Int) := by push_cast; rfl
                  rw [hu, ← hr] at e
                  rw [IntKind.wrap_u64, hu, ← e]; omega
                rw [← hr, ← hv1] at hs1
                have HS := hid hs1
                clear hy hs1 ht hq hr hyt hs2 hv1 hu
                go_wp2_with fail
                refine wp_region_held_drew (S := fun w' => Below wr.heap.size wr w' ∧ w'.cell? ⟨b, off + q, none⟩ = some (.int .u8 (y : Int))) (by kernel_rfl) ⟨(Below.refl _ _).drew, hcj⟩ (fun hHeld => ?_)
                refine take1 (i := 0) (d := some 73) (v := ?_) (by kernel_rfl) (by kernel_rfl) (by kernel_rfl) (by kernel_rfl) (fun _ _ _ h => h) ?_ hHeld ?_
                rotate_left
                · (intro o ho; simp only [List.getElem?_toArray, List.getElem?_cons_succ, List.getElem?_cons_zero, Option.some.injEq] at ho; subst ho; refine Or.inl ⟨by rfl, ?_⟩; intro w hSw; (try dsimp only at hSw); go_simp; try with_reducible rfl)
                try simp only [Act.put, List.setIfInBounds_toArray, List.set_cons_zero, List.set_cons_succ]
                refine take1 (i := 1) (d := some 74) (v := ?_) (by kernel_rfl) (by kernel_rfl) (by kernel_rfl) (by kernel_rfl) (fun _ _ _ h => h) ?_ hHeld ?_
                rotate_left
                · (intro o ho; simp only [List.getElem?_toArray, List.getElem?_cons_succ, List.getElem?_cons_zero, Option.some.injEq] at ho; subst ho; refine Or.inl ⟨by rfl, ?_⟩; intro w hSw; (try dsimp only at hSw); go_simp; try with_reducible rfl)
                try simp only [Act.put, List.setIfInBounds_toArray, List.set_cons_zero, List.set_cons_succ]
                refine take1 (i := 2) (d := some 75) (v := ?_) (by kernel_rfl) (by kernel_rfl) (by kernel_rfl) (by kernel_rfl) (fun _ _ _ h => h) ?_ hHeld ?_
                rotate_left
                · (intro o ho; simp only [List.getElem?_toArray, List.getElem?_cons_succ, List.getElem?_cons_zero, Option.some.injEq] at ho; subst ho; refine Or.inl ⟨by rfl, ?_⟩; intro w hSw; (try dsimp only at hSw); go_simp; try with_reducible rfl)
                try simp only [Act.put, List.setIfInBounds_toArray, List.set_cons_zero, List.set_cons_succ]
                refine take1 (i := 3) (d := some 76) (v := ?_) (by kernel_rfl) (by kernel_rfl) (by kernel_rfl) (by kernel_rfl) (fun _ _ _ h => h) ?_ hHeld ?_
                rotate_left
                · (intro o ho; simp only [List.getElem?_toArray, List.getElem?_cons_succ, List.getElem?_cons_zero, Option.some.injEq] at ho; subst ho; refine Or.inl ⟨by rfl, ?_⟩; intro w hSw; (try dsimp only at hSw); go_simp; try with_reducible rfl)
                try simp only [Act.put, List.setIfInBounds_toArray, List.set_cons_zero, List.set_cons_succ]
                refine take1 (i := 4) (d := some 77) (v := ?_) (by kernel_rfl) (by kernel_rfl) (by kernel_rfl) (by kernel_rfl) (fun _ _ _ h => h) ?_ hHeld ?_
                rotate_left
                · (intro o ho; simp only [List.getElem?_toArray, List.getElem?_cons_succ, List.getElem?_cons_zero, Option.some.injEq] at ho; subst ho; refine Or.inl ⟨by rfl, ?_⟩; intro w hSw; (try dsimp only at hSw); go_simp; try with_reducible rfl)
                try simp only [Act.put, List.setIfInBounds_toArray, List.set_cons_zero, List.set_cons_succ]
                refine take1 (i := 5) (d := some 78) (v := ?_) (by kernel_rfl) (by kernel_rfl) (by kernel_rfl) (by kernel_rfl) (fun _ _ _ h => h) ?_ hHeld ?_
                rotate_left
                · (intro o ho; simp only [List.getElem?_toArray, List.getElem?_cons_succ, List.getElem?_cons_zero, Option.some.injEq] at ho; subst ho; refine Or.inl ⟨by rfl, ?_⟩; intro w hSw; (try dsimp only at hSw); go_simp; try with_reducible rfl)
                try simp only [Act.put, List.setIfInBounds_toArray, List.set_cons_zero, List.set_cons_succ]
                refine take1 (i := 6) (d := some 79) (v := ?_) (by kernel_rfl) (by kernel_rfl) (by kernel_rfl) (by kernel_rfl) (fun _ _ _ h => h) ?_ hHeld ?_
                rotate_left
                · (intro o ho; simp only [List.getElem?_toArray, List.getElem?_cons_succ, List.getElem?_cons_zero, Option.some.injEq] at ho; subst ho; refine Or.inl ⟨by rfl, ?_⟩; intro w hSw; (try dsimp only at hSw); go_simp; try with_reducible rfl)
                try simp only [Act.put, List.setIfInBounds_toArray, List.set_cons_zero, List.set_cons_succ]
                refine take1 (i := 7) (d := some 80) (v := ?_) (by kernel_rfl) (by kernel_rfl) (by kernel_rfl) (by kernel_rfl) (fun _ _ _ h => h) ?_ hHeld ?_
                rotate_left
                · (intro o ho; simp only [List.getElem?_toArray, List.getElem?_cons_succ, List.getElem?_cons_zero, Option.some.injEq] at ho; subst ho; refine Or.inl ⟨by rfl, ?_⟩; intro w hSw; (try dsimp only at hSw); go_simp; try with_reducible rfl)
                try simp only [Act.put, List.setIfInBounds_toArray, List.set_cons_zero, List.set_cons_succ]
                refine take1 (i := 8) (d := some 81) (v := ?_) (by kernel_rfl) (by kernel_rfl) (by kernel_rfl) (by kernel_rfl) (fun _ _ _ h => h) ?_ hHeld ?_
                rotate_left
                · (intro o ho; simp only [List.getElem?_toArray, List.getElem?_cons_succ, List.getElem?_cons_zero, Option.some.injEq] at ho; subst ho; refine Or.inl ⟨by rfl, ?_⟩; intro w hSw; (try dsimp only at hSw); go_simp; try with_reducible rfl)
                try simp only [Act.put, List.setIfInBounds_toArray, List.set_cons_zero, List.set_cons_succ]
                refine take1 (i := 9) (d := some 82) (v := ?_) (by kernel_rfl) (by kernel_rfl) (by kernel_rfl) (by kernel_rfl) (fun _ _ _ h => h) ?_ hHeld ?_
                rotate_left
                · (intro o ho; simp only [List.getElem?_toArray, List.getElem?_cons_succ, List.getElem?_cons_zero, Option.some.injEq] at ho; subst ho; refine Or.inl ⟨by rfl, ?_⟩; intro w hSw; (try dsimp only at hSw); go_simp; try with_reducible rfl)
                try simp only [Act.put, List.setIfInBounds_toArray, List.set_cons_zero, List.set_cons_succ]
                refine call1 (i := 10) (d := some 83) (by kernel_rfl) (by kernel_rfl) ?_
                intro o ho hod K hK; simp only [List.getElem?_toArray, List.getElem?_cons_succ, List.getElem?_cons_zero, Option.some.injEq] at ho; subst ho
                go_simp
                refine (l1Power j _ hj9).mono ?_
                rintro e w2 ⟨rfl, rfl⟩
                rw [← HT.out]
                refine hK.out _ _ ⟨hHeld.1, hHeld.2⟩ (fun hHeld => ?_)
                clear hK K
                try simp only [Act.put, List.setIfInBounds_toArray, List.set_cons_zero, List.set_cons_succ]
                refine take1 (i := 11) (d := some 84) (v := ?_) (by kernel_rfl) (by kernel_rfl) (by kernel_rfl) (by kernel_rfl) (fun _ _ _ h => h) ?_ hHeld ?_
                rotate_left
                · (intro o ho; simp only [List.getElem?_toArray, List.getElem?_cons_succ, List.getElem?_cons_zero, Option.some.injEq] at ho; subst ho; refine Or.inl ⟨by rfl, ?_⟩; intro w hSw; (try dsimp only at hSw); go_simp; try with_reducible rfl)
                try simp only [Act.put, List.setIfInBounds_toArray, List.set_cons_zero, List.set_cons_succ]
                refine take1 (i := 12) (d := some 85) (v := ?_) (by kernel_rfl) (by kernel_rfl) (by kernel_rfl) (by kernel_rfl) (fun _ _ _ h => h) ?_ hHeld ?_
                rotate_left
                · (intro o ho; simp only [List.getElem?_toArray, List.getElem?_cons_succ, List.getElem?_cons_zero, Option.some.injEq] at ho; subst ho; refine Or.inl ⟨by rfl, ?_⟩; intro w hSw; (try dsimp only at hSw); go_simp; try with_reducible rfl)
                try simp only [Act.put, List.setIfInBounds_toArray, List.set_cons_zero, List.set_cons_succ]
                refine take1 (i := 13) (d := some 9) (v := ?_) (by kernel_rfl) (by kernel_rfl) (by kernel_rfl) (by kernel_rfl) (fun _ _ _ h => h) ?_ hHeld ?_
                rotate_left
                · (intro o ho; simp only [List.getElem?_toArray, List.getElem?_cons_succ, List.getElem?_cons_zero, Option.some.injEq] at ho; subst ho; refine Or.inl ⟨by rfl, ?_⟩; intro w hSw; (try dsimp only at hSw); go_simp; try with_reducible rfl)
                try simp only [Act.put, List.setIfInBounds_toArray, List.set_cons_zero, List.set_cons_succ]
                refine wpAnyH_done (by kernel_rfl) ?_ _
                have HB2 := hid hHeld.1
                clear hHeld
                go_wp2_with fail
                go_roundw
                case rel => exact ⟨j + 1, v1, by omega, hid (HS.out.symm), by go_num, by first | rfl | (simp only [hmod, hmul, hadd]), hid (hbel.out.trans (HB2.out.mono hbel.out.size))⟩
                case measure => simp [intOf]; omega
              · obtain rfl : j = k + 1 := by omega
                go_wp2_with fail
                go_ret3
                exact ⟨retG (by rw [HV.out.1, hx.out]) (by rw [HV.out.2]; simp <;> omega) (by rw [HC.out]; rfl), hbel.out⟩
        · have h9' : 9 ≤ k := by omega
          by_cases hz1 : 1 < z
          · skip
            have HC := C2 h9' hz1
            have HV := V1 (by rw [HC.out]; omega)
            clear C2 C3 C0 V1 V0 S64 hst
            go_wp2_with fail
            go_ret3
            exact ⟨retG (by rw [HV.out.1]; rfl) (by rw [HV.out.2]) (by rw [HC.out]; rfl), Below.refl _ _⟩
          · by_cases hz0 : z = 0
            · have hz0' : z ≤ 0 := by omega
              have HC := C3 (by omega) (by omega) hz0
              have HV := V1 (by rw [HC.out]; omega)
              clear hz0 C2 C3 C0 V1 V0 S64 hst
              go_wp2_with fail
              go_ret3
              exact ⟨retG (by rw [HV.out.1]; rfl) (by rw [HV.out.2]) (by rw [HC.out]; rfl), Below.refl _ _⟩
            · have hz0' : 0 < z := by omega
              have HC := C0 (by omega) (fun _ => hz0)
              have HV := V0 HC.out
              have H64 := S64 (by omega)
              clear hz0 C2 C3 C0 V1 V0 S64 hst
              go_wp2_with fail
              go_loopw [9, 10] (fun v i wr => ∃ (j x : Nat), j ≤ k + 1 ∧ Hid (x = sumF f p j) ∧ i = .int .i64 (j : Int) ∧ v = .int .u64 (x : Int) ∧ Hid (Below w.heap.size w wr)) (fun _ i _ => k + 1 - (intOf i).toNat)
              case atStart => exact ⟨0, 0, Nat.zero_le _, hid rfl, rfl, rfl, hid (Below.refl _ _)⟩
              case round =>
                obtain ⟨j, x, hj, hx, rfl, rfl, hbel⟩ := hrel
                by_cases hjk : j ≤ k
                · have hjn : p + j < n := by omega
                  obtain ⟨y, hy⟩ : ∃ y : Nat, f (p + j) = (y : Int) := ⟨(f (p + j)).toNat, by have := (hf (p + j)).1; omega⟩
                  have hy8 : y < 256 := by have := (hf (p + j)).2; omega
                  have hcj : wr.cell? ⟨b, off + (p + j), none⟩ = some (.int .u8 (y : Int)) := by rw [hbel.out.cell (p := ⟨b, _, none⟩) hb, HCC.out (p + j) hjn, hy]
                  have hbr := Nat.lt_of_lt_of_le hb hbel.out.size
                  obtain ⟨t, ht⟩ : ∃ t : Nat, t = 128 ^ j := ⟨_, rfl⟩
                  have hs1 : sumF f p (j + 1) = x + y % 128 * t := by
                    show sumF f p j + _ = _
                    rw [hx.out, ht, hy]; congr 2
                  have hs2 := H64.out (j + 1) (by omega)
                  rw [hs1] at hs2
                  have hyt : y % 128 * t < 18446744073709551616 := by omega
                  have HT := hid ht
                  have hj9 : j ≤ 9 := by omega
                  obtain ⟨q, hq⟩ : ∃ q : Nat, q = p + j := ⟨_, rfl⟩
                  have hwq : IntKind.i64.wrap ((p : Int) + (j : Int)) = (q : Int) := by rw [wrapIn _ (by omega) (by omega)]; omega
                  have hq0 : (0 : Int) ≤ (q : Int) := Int.natCast_nonneg _
                  have hqn1 : (q : Int) < (n : Int) := by omega
                  rw [← hq] at hcj
                  obtain ⟨r, hr⟩ : ∃ r : Nat, r = y % 128 * t := ⟨_, rfl⟩
                  obtain ⟨v1, hv1⟩ : ∃ v1 : Nat, v1 = x + r := ⟨_, rfl⟩
                  have hadd : IntKind.u64.wrap ((x : Int) + (r : Int)) = (v1 : Int) := by rw [IntKind.wrap_u64]; omega
                  obtain ⟨u, hu⟩ : ∃ u : Nat, u = y % 128 := ⟨_, rfl⟩
                  have hmod : IntKind.u64.wrap ((y : Int).tmod 128) = (u : Int) := by rw [Int.tmod_eq_emod_of_nonneg (by omega), IntKind.wrap_u64]; omega
                  have hmul : IntKind.u64.wrap ((u : Int) * (t : Int)) = (r : Int) := by
                    have e : ((u * t : Nat) : Int) = (u : Int) * (t : Int) := by push_cast; rfl
                    rw [hu, ← hr] at e
                    rw [IntKind.wrap_u64, hu, ← e]; omega
                  rw [← hr, ← hv1] at hs1
                  have HS := hid hs1
                  clear hy hs1 ht hq hr hyt hs2 hv1 hu
                  go_wp2_with fail
                  refine wp_region_held_drew (S := fun w' => Below wr.heap.size wr w' ∧ w'.cell? ⟨b, off + q, none⟩ = some (.int .u8 (y : Int))) (by kernel_rfl) ⟨(Below.refl _ _).drew, hcj⟩ (fun hHeld => ?_)
                  refine take1 (i := 0) (d := some 73) (v := ?_) (by kernel_rfl) (by kernel_rfl) (by kernel_rfl) (by kernel_rfl) (fun _ _ _ h => h) ?_ hHeld ?_
                  rotate_left
                  · (intro o ho; simp only [List.getElem?_toArray, List.getElem?_cons_succ, List.getElem?_cons_zero, Option.some.injEq] at ho; subst ho; refine Or.inl ⟨by rfl, ?_⟩; intro w hSw; (try dsimp only at hSw); go_simp; try with_reducible rfl)
                  try simp only [Act.put, List.setIfInBounds_toArray, List.set_cons_zero, List.set_cons_succ]
                  refine take1 (i := 1) (d := some 74) (v := ?_) (by kernel_rfl) (by kernel_rfl) (by kernel_rfl) (by kernel_rfl) (fun _ _ _ h => h) ?_ hHeld ?_
                  rotate_left
                  · (intro o ho; simp only [List.getElem?_toArray, List.getElem?_cons_succ, List.getElem?_cons_zero, Option.some.injEq] at ho; subst ho; refine Or.inl ⟨by rfl, ?_⟩; intro w hSw; (try dsimp only at hSw); go_simp; try with_reducible rfl)
                  try simp only [Act.put, List.setIfInBounds_toArray, List.set_cons_zero, List.set_cons_succ]
                  refine take1 (i := 2) (d := some 75) (v := ?_) (by kernel_rfl) (by kernel_rfl) (by kernel_rfl) (by kernel_rfl) (fun _ _ _ h => h) ?_ hHeld ?_
                  rotate_left
                  · (intro o ho; simp only [List.getElem?_toArray, List.getElem?_cons_succ, List.getElem?_cons_zero, Option.some.injEq] at ho; subst ho; refine Or.inl ⟨by rfl, ?_⟩; intro w hSw; (try dsimp only at hSw); go_simp; try with_reducible rfl)
                  try simp only [Act.put, List.setIfInBounds_toArray, List.set_cons_zero, List.set_cons_succ]
                  refine take1 (i := 3) (d := some 76) (v := ?_) (by kernel_rfl) (by kernel_rfl) (by kernel_rfl) (by kernel_rfl) (fun _ _ _ h => h) ?_ hHeld ?_
                  rotate_left
                  · (intro o ho; simp only [List.getElem?_toArray, List.getElem?_cons_succ, List.getElem?_cons_zero, Option.some.injEq] at ho; subst ho; refine Or.inl ⟨by rfl, ?_⟩; intro w hSw; (try dsimp only at hSw); go_simp; try with_reducible rfl)
                  try simp only [Act.put, List.setIfInBounds_toArray, List.set_cons_zero, List.set_cons_succ]
                  refine take1 (i := 4) (d := some 77) (v := ?_) (by kernel_rfl) (by kernel_rfl) (by kernel_rfl) (by kernel_rfl) (fun _ _ _ h => h) ?_ hHeld ?_
                  rotate_left
                  · (intro o ho; simp only [List.getElem?_toArray, List.getElem?_cons_succ, List.getElem?_cons_zero, Option.some.injEq] at ho; subst ho; refine Or.inl ⟨by rfl, ?_⟩; intro w hSw; (try dsimp only at hSw); go_simp; try with_reducible rfl)
                  try simp only [Act.put, List.setIfInBounds_toArray, List.set_cons_zero, List.set_cons_succ]
                  refine take1 (i := 5) (d := some 78) (v := ?_) (by kernel_rfl) (by kernel_rfl) (by kernel_rfl) (by kernel_rfl) (fun _ _ _ h => h) ?_ hHeld ?_
                  rotate_left
                  · (intro o ho; simp only [List.getElem?_toArray, List.getElem?_cons_succ, List.getElem?_cons_zero, Option.some.injEq] at ho; subst ho; refine Or.inl ⟨by rfl, ?_⟩; intro w hSw; (try dsimp only at hSw); go_simp; try with_reducible rfl)
                  try simp only [Act.put, List.setIfInBounds_toArray, List.set_cons_zero, List.set_cons_succ]
                  refine take1 (i := 6) (d := some 79) (v := ?_) (by kernel_rfl) (by kernel_rfl) (by kernel_rfl) (by kernel_rfl) (fun _ _ _ h => h) ?_ hHeld ?_
                  rotate_left
                  · (intro o ho; simp only [List.getElem?_toArray, List.getElem?_cons_succ, List.getElem?_cons_zero, Option.some.injEq] at ho; subst ho; refine Or.inl ⟨by rfl, ?_⟩; intro w hSw; (try dsimp only at hSw); go_simp; try with_reducible rfl)
                  try simp only [Act.put, List.setIfInBounds_toArray, List.set_cons_zero, List.set_cons_succ]
                  refine take1 (i := 7) (d := some 80) (v := ?_) (by kernel_rfl) (by kernel_rfl) (by kernel_rfl) (by kernel_rfl) (fun _ _ _ h => h) ?_ hHeld ?_
                  rotate_left
                  · (intro o ho; simp only [List.getElem?_toArray, List.getElem?_cons_succ, List.getElem?_cons_zero, Option.some.injEq] at ho; subst ho; refine Or.inl ⟨by rfl, ?_⟩; intro w hSw; (try dsimp only at hSw); go_simp; try with_reducible rfl)
                  try simp only [Act.put, List.setIfInBounds_toArray, List.set_cons_zero, List.set_cons_succ]
                  refine take1 (i := 8) (d := some 81) (v := ?_) (by kernel_rfl) (by kernel_rfl) (by kernel_rfl) (by kernel_rfl) (fun _ _ _ h => h) ?_ hHeld ?_
                  rotate_left
                  · (intro o ho; simp only [List.getElem?_toArray, List.getElem?_cons_succ, List.getElem?_cons_zero, Option.some.injEq] at ho; subst ho; refine Or.inl ⟨by rfl, ?_⟩; intro w hSw; (try dsimp only at hSw); go_simp; try with_reducible rfl)
                  try simp only [Act.put, List.setIfInBounds_toArray, List.set_cons_zero, List.set_cons_succ]
                  refine take1 (i := 9) (d := some 82) (v := ?_) (by kernel_rfl) (by kernel_rfl) (by kernel_rfl) (by kernel_rfl) (fun _ _ _ h => h) ?_ hHeld ?_
                  rotate_left
                  · (intro o ho; simp only [List.getElem?_toArray, List.getElem?_cons_succ, List.getElem?_cons_zero, Option.some.injEq] at ho; subst ho; refine Or.inl ⟨by rfl, ?_⟩; intro w hSw; (try dsimp only at hSw); go_simp; try with_reducible rfl)
                  try simp only [Act.put, List.setIfInBounds_toArray, List.set_cons_zero, List.set_cons_succ]
                  refine call1 (i := 10) (d := some 83) (by kernel_rfl) (by kernel_rfl) ?_
                  intro o ho hod K hK; simp only [List.getElem?_toArray, List.getElem?_cons_succ, List.getElem?_cons_zero, Option.some.injEq] at ho; subst ho
                  go_simp
                  refine (l1Power j _ hj9).mono ?_
                  rintro e w2 ⟨rfl, rfl⟩
                  rw [← HT.out]
                  refine hK.out _ _ ⟨hHeld.1, hHeld.2⟩ (fun hHeld => ?_)
                  clear hK K
                  try simp only [Act.put, List.setIfInBounds_toArray, List.set_cons_zero, List.set_cons_succ]
                  refine take1 (i := 11) (d := some 84) (v := ?_) (by kernel_rfl) (by kernel_rfl) (by kernel_rfl) (by kernel_rfl) (fun _ _ _ h => h) ?_ hHeld ?_
                  rotate_left
                  · (intro o ho; simp only [List.getElem?_toArray, List.getElem?_cons_succ, List.getElem?_cons_zero, Option.some.injEq] at ho; subst ho; refine Or.inl ⟨by rfl, ?_⟩; intro w hSw; (try dsimp only at hSw); go_simp; try with_reducible rfl)
                  try simp only [Act.put, List.setIfInBounds_toArray, List.set_cons_zero, List.set_cons_succ]
                  refine take1 (i := 12) (d := some 85) (v := ?_) (by kernel_rfl) (by kernel_rfl) (by kernel_rfl) (by kernel_rfl) (fun _ _ _ h => h) ?_ hHeld ?_
                  rotate_left
                  · (intro o ho; simp only [List.getElem?_toArray, List.getElem?_cons_succ, List.getElem?_cons_zero, Option.some.injEq] at ho; subst ho; refine Or.inl ⟨by rfl, ?_⟩; intro w hSw; (try dsimp only at hSw); go_simp; try with_reducible rfl)
                  try simp only [Act.put, List.setIfInBounds_toArray, List.set_cons_zero, List.set_cons_succ]
                  refine take1 (i := 13) (d := some 9) (v := ?_) (by kernel_rfl) (by kernel_rfl) (by kernel_rfl) (by kernel_rfl) (fun _ _ _ h => h) ?_ hHeld ?_
                  rotate_left
                  · (intro o ho; simp only [List.getElem?_toArray, List.getElem?_cons_succ, List.getElem?_cons_zero, Option.some.injEq] at ho; subst ho; refine Or.inl ⟨by rfl, ?_⟩; intro w hSw; (try dsimp only at hSw); go_simp; try with_reducible rfl)
                  try simp only [Act.put, List.setIfInBounds_toArray, List.set_cons_zero, List.set_cons_succ]
                  refine wpAnyH_done (by kernel_rfl) ?_ _
                  have HB2 := hid hHeld.1
                  clear hHeld
                  go_wp2_with fail
                  go_roundw
                  case rel => exact ⟨j + 1, v1, by omega, hid (HS.out.symm), by go_num, by first | rfl | (simp only [hmod, hmul, hadd]), hid (hbel.out.trans (HB2.out.mono hbel.out.size))⟩
                  case measure => simp [intOf]; omega
                · obtain rfl : j = k + 1 := by omega
                  go_wp2_with fail
                  go_ret3
                  exact ⟨retG (by rw [HV.out.1, hx.out]) (by rw [HV.out.2]; simp <;> omega) (by rw [HC.out]; rfl), hbel.out⟩
      · have HC : Hid (guC f n p k = 1) := by show _ = _; unfold guC; rw [if_pos (by omega)]
        have HV : Hid (guV f n p k = 0 ∧ guA f n p k = p) := by show _ ∧ _; unfold guV guA; rw [HC.out]; simp
        go_wp2_with fail
        go_ret3
        exact ⟨retG (by rw [HV.out.1]; rfl) (by rw [HV.out.2]) (by rw [HC.out]; rfl), Below.refl _ _⟩
end Go.Proofs.YthkppnmnjboiaaaDoor
