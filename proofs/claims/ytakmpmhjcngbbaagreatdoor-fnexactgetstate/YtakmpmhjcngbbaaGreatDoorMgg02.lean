import Derived.Test.YtakmpmhjcngbbaaGreatDoorMgg01
import Derived.Laws.BitsAllLaws
import Derived.Deep.RegionHeld3
import Derived.OwnWalk
import Derived.Test.YtakmpmhjcngbbaaGreatDoorRows
import Derived.WalkKit
import Derived.LaidEql
import Derived.Stop.Asserts
import Derived.RowKitTokens
import Derived.Stop.LaidTwo
set_option linter.unusedVariables false
set_option linter.unusedSimpArgs false
set_option maxRecDepth 100000
set_option maxHeartbeats 40000000
namespace Go.Proofs.YtakmpmhjcngbbaaGreatDoor
open Go.ChangeShapes Go.WideShapes Go.ChangeAt Go.RowKit
def uvF : Nat → Nat → List Int
  | 0, v => [(v : Int)]
  | k + 1, v => if v < 128 then [(v : Int)] else ((128 + v % 128 : Nat) : Int) :: uvF k (v / 128)
def Own (w : World) (B : Nat) (v : Value) (zs : List Int) : Prop := w.ownsRow B 5 1 v zs.length (zs.map (Value.int .u8))
theorem uvF_lt (k v : Nat) (h : v < 128) : uvF k v = [(v : Int)] := by
  cases k <;> simp [uvF, h]
theorem uvF_ge (k v : Nat) (h : ¬ v < 128) : uvF (k + 1) v = ((128 + v % 128 : Nat) : Int) :: uvF k (v / 128) := by
  simp [uvF, h]
theorem uvF_len (k : Nat) : ∀ v, (uvF k v).length ≤ k + 1 ∧ 0 < (uvF k v).length := by
  induction k with
  | zero => intro v; simp [uvF]
  | succ k ih =>
    intro v
    by_cases h : v < 128
    · rw [uvF_lt _ _ h]; simp
    · rw [uvF_ge _ _ h]; have := ih (v / 128); simp; omega
theorem uvF_byte (k : Nat) : ∀ v, v < 128 ^ (k + 1) → ∀ z ∈ uvF k v, 0 ≤ z ∧ z < 256 := by
  induction k with
  | zero => intro v h z hz; simp [uvF] at hz; subst hz; simp at h; omega
  | succ k ih =>
    intro v h z hz
    by_cases hv : v < 128
    · rw [uvF_lt _ _ hv] at hz; simp at hz; subst hz; omega
    · rw [uvF_ge _ _ hv] at hz
      rcases List.mem_cons.1 hz with hz | hz
      · subst hz; omega
      · exact ih (v / 128) (by rw [Nat.pow_succ] at h; omega) z hz
theorem own_one (w : World) (B : Nat) (z : Int) (hB : B ≤ w.heap.size) : Own (w.alloc (.cells #[.int .u8 z] 5)) B (.slice (some ⟨w.heap.size, 0, none⟩) 1 1) [z] := by
  have := World.ownsRow_lit (base := B) (e := 5) (size := 1) w #[.int .u8 z] 1 hB (by unfold maxLen; omega) rfl
  exact this
theorem Own.kept {w w1 : World} {B C : Nat} {v : Value} {zs : List Int} (h : Own w B v zs) (hb : Below C w w1) (hc : ∀ k, v.ownBlock = some k → k < C) : Own w1 B v zs := by
  obtain ⟨h1, h2⟩ := h
  refine ⟨h1, ?_⟩
  rcases h2 with h2 | ⟨g, cap, cur, rfl, hbg, hg, r⟩
  · exact .inl h2
  · exact .inr ⟨g, cap, cur, rfl, hbg, by rw [hb.block g (hc g rfl)]; exact hg, r⟩
theorem Own.weak {w : World} {B C : Nat} {v : Value} {zs : List Int} (h : Own w B v zs) (hc : C ≤ B) : Own w C v zs := by
  obtain ⟨h1, h2⟩ := h
  refine ⟨h1, ?_⟩
  rcases h2 with h2 | ⟨g, cap, cur, rfl, hbg, r⟩
  · exact .inl h2
  · exact .inr ⟨g, cap, cur, rfl, Nat.le_trans hc hbg, r⟩
theorem Own.shape {w : World} {B : Nat} {v : Value} {zs : List Int} (h : Own w B v zs) (hz : zs ≠ []) :
    ∃ g cap, v = .slice (some ⟨g, 0, none⟩) zs.length cap ∧ B ≤ g ∧ g < w.heap.size ∧ zs.length ≤ cap ∧ cap ≤ maxLen ∧
      (∀ j u, (zs.map (Value.int .u8))[j]? = some u → w.cell? ((⟨g, 0, none⟩ : Addr).add j) = some u) ∧ Seg w (some ⟨g, 0, none⟩) zs.length (fun i => zs.getD i 0) := by
  have h' := h
  obtain ⟨h1, h2⟩ := h
  rcases h2 with ⟨_, h2⟩ | ⟨g, cap, cur, rfl, hbg, hg, hn, hm, r⟩
  · exact absurd (List.eq_nil_of_length_eq_zero h2) hz
  · have hlt := (h'.lt g rfl).2
    refine ⟨g, cap, rfl, hbg, hlt, hn, hm, h'.cells rfl, .inr ⟨g, 0, rfl, hlt, fun i hi => ?_⟩⟩
    rw [Nat.zero_add, World.ownsRow.cellAt h' i (by omega)]
    simp [hi, List.getD]
theorem specUv (k : Nat) : ∀ (m : Nat) (w : World), k ≤ 9 → Hid (m < 128 ^ (k + 1)) → m < 18446744073709551616 →
    Calls Tryz.prog 82 #[.int .u64 (m : Int)] w fun e w' => ∃ v, e = .returned v ∧ Own w' w.heap.size v (uvF k m) ∧ Below w.heap.size w w' ∧ w.heap.size < w'.heap.size := by
  obtain ⟨i0, hi, hz0, hz1, hz2⟩ := info_parts Tryz.infoByte
  have small : ∀ (k m : Nat) (w : World), m < 128 → Calls Tryz.prog 82 #[.int .u64 (m : Int)] w fun e w' => ∃ v, e = .returned v ∧ Own w' w.heap.size v (uvF k m) ∧ Below w.heap.size w w' ∧ w.heap.size < w'.heap.size := by
    intro k m w hm
    have HE : Hid (uvF k m = [(m : Int)]) := uvF_lt k m hm
    go_enter Tryz.func82, Tryz.ntmps82
    go_wp2_with fail
    go_ret
    refine ⟨_, rfl, ?_, (Below.refl _ _).alloc (Nat.le_refl _) _, by simp⟩
    rw [HE.out]
    exact own_one w _ _ (Nat.le_refl _)
  induction k with
  | zero => intro m w _ hm _; exact small 0 m w (by have := hm.out; omega)
  | succ k ih =>
    intro m w hk hmk hm
    by_cases hlt : m < 128
    · exact small (k + 1) m w hlt
    · have HE : Hid (uvF (k + 1) m = ((128 + m % 128 : Nat) : Int) :: uvF k (m / 128)) := uvF_ge k m hlt
      have HL := uvF_len k (m / 128)
      have HK : Hid (m / 128 < 128 ^ (k + 1)) := by
        have := hmk.out
        rw [Nat.pow_succ] at this
        show _ < _
        omega
      have IH := ih (m / 128) (w.alloc (.cells #[.int .u8 (128 + (m : Int) % 128)] 5)) (by omega) HK (by omega)
      have HI := hid IH
      clear IH ih small hmk
      go_enter Tryz.func82, Tryz.ntmps82
      go_wp2_with fail
      rw [show ((m : Int) / 128) = ((m / 128 : Nat) : Int) from by omega]
      refine HI.out.mono ?_
      rintro e w1 ⟨v, rfl, ho, hb, hz⟩
      obtain ⟨g, cap, rfl, hg1, hg2, _, _, hcs, _⟩ := ho.shape (by intro e; rw [e] at HL; simp at HL)
      have hd : w1.ownsRow w.heap.size 5 1 (.slice (some ⟨w.heap.size, 0, none⟩) 1 1) 1 [.int .u8 (128 + (m : Int) % 128)] :=
        (own_one w w.heap.size (128 + (m : Int) % 128) (Nat.le_refl _)).kept hb (fun k hk => by simp [Value.ownBlock] at hk; simp; omega)
      have hzs : w.heap.size + 1 < w1.heap.size := by have := hz; simp at this; exact this
      have hone : ∀ u ∈ (uvF k (m / 128)).map (Value.int .u8), u.oneCell' = true := ints_oneCell .u8 _
      have HN := hid hcs
      clear hcs HI ho
      go_wp2_with (at_builtin; refine wpList_append_own _ rfl _ _ 22 rfl w.heap.size 5 i0 (.int .u8 0) 1 1 Tryz.underlying22 hi hz0 hz1 hz2 rfl (by decide) _ _ _ rfl hd ⟨g, 0, none⟩ (uvF k (m / 128)).length cap ((uvF k (m / 128)).map (Value.int .u8)) rfl (by simp) HN.out hone ?c3 ?c4 ?c5 ?_)
      case c3 => unfold maxLen; omega
      case c4 => omega
      case c5 => omega
      · intro v' w2 hown' hgr _
        have R : Own w2 w.heap.size v' (uvF (k + 1) m) := by
          rw [HE.out]
          unfold Own
          rw [List.length_cons, List.map_cons, Nat.add_comm]
          exact hown'
        have RB : Below w.heap.size w w2 := ((((Below.refl _ _).alloc (Nat.le_refl _) _).trans (hb.mono (by simp)))).grown hgr (by omega) (fun k hk => by simp [Value.ownBlock] at hk; omega)
        have RZ := hgr.size
        clear hown' hgr hd HN hone
        go_wp2_with fail
        go_ret
        exact ⟨v', rfl, R, RB, by omega⟩
def mk8 (k0 : Nat) (i : Nat) : Int := ((k0 + i : Nat) : Int) % 256
theorem markB (B g n cap : Nat) (k0 : Nat) (ys : List Value) (w : World) (hk0 : k0 ≤ 1000000000000) (hn1 : n ≤ 1000000000) (ho : w.ownsRow B 5 1 (.slice (some ⟨g, 0, none⟩) n cap) n ys) :
    Calls Tryz.prog 9 #[.slice (some ⟨g, 0, none⟩) n cap, .int .i64 (k0 : Int)] w fun e w' => e = .returned (.int .i64 ((k0 + n : Nat) : Int)) ∧ Below B w w' ∧ w'.heap.size = w.heap.size ∧ Seg w' (some ⟨g, 0, none⟩) n (mk8 k0) ∧ (∀ b, b ≠ g → w'.heap[b]? = w.heap[b]?) := by
  go_enter Tryz.func9, Tryz.ntmps9
  go_wp2_with fail
  go_loopw [1, 5] (fun k i wr => ∃ j : Nat, j ≤ n ∧ i = .int .i64 (j : Int) ∧ k = .int .i64 ((k0 + j : Nat) : Int) ∧ Below B w wr ∧ wr.heap.size = w.heap.size ∧ (∀ b, b ≠ g → wr.heap[b]? = w.heap[b]?) ∧ ∃ xs : List Value, wr.ownsRow B 5 1 (.slice (some ⟨g, 0, none⟩) n cap) n xs ∧ ∀ t, t < j → xs[t]? = some (.int .u8 (mk8 k0 t))) (fun _ i _ => n - (intOf i).toNat)
  case atStart => exact ⟨0, Nat.zero_le _, rfl, rfl, Below.refl _ _, rfl, fun _ _ => rfl, _, ho, fun t ht => by omega⟩
  case round =>
    clear ho
    obtain ⟨j, hj, rfl, rfl, hbel, hsz, hoth, xs, hown, hxs⟩ := hrel
    by_cases hlt : j < n
    · have hfz := hown.frozenAt j
      obtain ⟨u, hu⟩ : ∃ u, wr.cell? ⟨g, j, none⟩ = some u := by
        rw [hown.cellAt j (by omega)]
        have := hown.1
        exact ⟨_, List.getElem?_eq_getElem (by omega)⟩
      have R := (hown.stored j (.int .u8 (((k0 : Int) + (j : Int)) % 256))).1
      have RX : ∀ t, t < j + 1 → (xs.set j (.int .u8 (((k0 : Int) + (j : Int)) % 256)))[t]? = some (.int .u8 (mk8 k0 t)) := by
        intro t ht
        by_cases htj : j = t
        · subst htj
          have := hown.1
          rw [List.getElem?_set_self (by omega)]
          unfold mk8; simp
        · rw [List.getElem?_set_ne htj]; exact hxs t (by omega)
      have RB := hbel.setCell (p := ⟨g, j, none⟩) (hown.lt g rfl).1 (.int .u8 (((k0 : Int) + (j : Int)) % 256))
      have RS : (wr.setCell ⟨g, j, none⟩ (.int .u8 (((k0 : Int) + (j : Int)) % 256))).heap.size = w.heap.size := by rw [← hsz]; simp [World.setCell]
      have RO : Hid (∀ b, b ≠ g → (wr.setCell ⟨g, j, none⟩ (.int .u8 (((k0 : Int) + (j : Int)) % 256))).heap[b]? = w.heap[b]?) := fun b hb => (Below.heap_setCell _ _ _ _ hb).trans (hoth b hb)
      have HR := hid (And.intro R (And.intro RX (And.intro RB RS)))
      clear R RX RB RS hown hxs hoth
      go_wp2_with fail
      go_roundw
      case rel => exact ⟨j + 1, hlt, by go_num, by go_num, HR.out.2.2.1, HR.out.2.2.2, RO.out, _, HR.out.1, HR.out.2.1⟩
      case measure => simp [intOf]; omega
    · obtain rfl : j = n := by omega
      have hsg : Seg wr (some ⟨g, 0, none⟩) j (mk8 k0) := .inr ⟨g, 0, rfl, (hown.lt g rfl).2, fun i hi => by rw [Nat.zero_add, hown.cellAt i (by omega)]; exact hxs i hi⟩
      have HR := hid (And.intro hsg hoth)
      clear hown hxs hsg hoth
      go_wp2_with fail
      go_ret
      exact ⟨rfl, hbel, hsz, HR.out.1, HR.out.2⟩
def sumF (f : Nat → Int) (p : Nat) : Nat → Nat
  | 0 => 0
  | k + 1 => sumF f p k + (f (p + k) % 128).toNat * 128 ^ k
def Cnt (f : Nat → Int) (n p m : Nat) : Prop := m ≤ 9 ∧ (∀ k, k < m → p + k < n ∧ 128 ≤ f (p + k)) ∧ (p + m < n → m < 9 → f (p + m) < 128)
theorem cnt_ex (f : Nat → Int) (n p : Nat) : ∃ m, Cnt f n p m := by
  have key : ∀ d m, m + d = 9 → (∀ k, k < m → p + k < n ∧ 128 ≤ f (p + k)) → ∃ m', Cnt f n p m' := by
    intro d
    induction d with
    | zero => intro m hm h; exact ⟨m, by omega, h, fun _ h9 => by omega⟩
    | succ d ih =>
      intro m hm h
      by_cases hc : p + m < n ∧ 128 ≤ f (p + m)
      · exact ih (m + 1) (by omega) (fun k hk => by
          by_cases h1 : k = m
          · subst h1; exact hc
          · exact h k (by omega))
      · exact ⟨m, by omega, h, fun h1 _ => by omega⟩
  exact key 9 0 rfl (fun k hk => by omega)
def guC (f : Nat → Int) (n p m : Nat) : Nat := if n ≤ p + m then 1 else if m = 9 ∧ 1 < f (p + m) then 2 else if 0 < m ∧ f (p + m) = 0 then 3 else 0
def guV (f : Nat → Int) (n p m : Nat) : Nat := if guC f n p m = 0 then sumF f p (m + 1) else 0
def guA (f : Nat → Int) (n p m : Nat) : Nat := if guC f n p m = 0 then p + m + 1 else p
theorem sumF_lt {f : Nat → Int} (hf : Byt f) (p : Nat) : ∀ k, sumF f p k < 128 ^ k
  | 0 => by simp [sumF]
  | k + 1 => by
    have h1 := sumF_lt hf p k
    have h2 : (f (p + k) % 128).toNat ≤ 127 := by have := hf (p + k); omega
    have h3 : (f (p + k) % 128).toNat * 128 ^ k ≤ 127 * 128 ^ k := Nat.mul_le_mul_right _ h2
    show sumF f p k + _ < _
    rw [Nat.pow_succ]; omega
theorem pow9 {k : Nat} (h : k ≤ 9) : 128 ^ k ≤ 9223372036854775808 := by
  have := Nat.pow_le_pow_right (n := 128) (by omega) h
  simpa using this
theorem sumF_64 {f : Nat → Int} (hf : Byt f) (p m : Nat) (hm : m ≤ 9) (h9 : m = 9 → f (p + m) ≤ 1) : ∀ k, k ≤ m + 1 → sumF f p k < 18446744073709551616 := by
  intro k hk
  by_cases h : k ≤ 9
  · have := sumF_lt hf p k; have := pow9 h; omega
  · obtain rfl : k = 10 := by omega
    obtain rfl : m = 9 := by omega
    have h1 := sumF_lt hf p 9
    have h2 := h9 rfl
    have h3 := hf (p + 9)
    have h4 : (f (p + 9) % 128).toNat ≤ 1 := by omega
    have h5 := pow9 (k := 9) (by omega)
    show sumF f p 9 + (f (p + 9) % 128).toNat * 128 ^ 9 < _
    have h6 : (f (p + 9) % 128).toNat * 128 ^ 9 ≤ 1 * 128 ^ 9 := Nat.mul_le_mul_right _ h4
    omega
theorem l1Power (k : Nat) (w : World) (hk : k ≤ 9) :
    Calls Tryz.prog 60 #[.int .i64 (k : Int)] w fun e w' => e = .returned (.int .u64 ((128 ^ k : Nat) : Int)) ∧ w' = w := by
  go_enter Tryz.func60, Tryz.ntmps60
  go_wp2_with fail
  go_loop [3, 4] (fun v i => ∃ (j x : Nat), j ≤ k ∧ Hid (x = 128 ^ j) ∧ i = .int .i64 (j : Int) ∧ v = .int .u64 (x : Int)) (fun _ i => k - (intOf i).toNat)
  case atStart => exact ⟨0, 1, Nat.zero_le _, hid (by simp), rfl, rfl⟩
  case round =>
    obtain ⟨j, x, hj, hx, rfl, rfl⟩ := hrel
    by_cases hlt : j < k
    · have hx8 : x ≤ 72057594037927936 := by
        have := Nat.pow_le_pow_right (n := 128) (by omega) (show j ≤ 8 by omega)
        have e := hx.out
        simp at this; omega
      go_wp2_with fail
      go_round
      case rel => exact ⟨j + 1, x * 128, hlt, hid (by have := hx.out; rw [Nat.pow_succ, this]), by go_num, by go_num⟩
      case measure => simp [intOf]; omega
    · obtain rfl : j = k := by omega
      go_wp2_with fail
      go_ret
      exact ⟨ret_int (by rw [hx.out]; simp), rfl⟩
theorem retG {a b c a' b' c' : Int} (h1 : a = a') (h2 : b = b') (h3 : c = c') : Ending.returned (.tuple #[.int .u64 a, .int .i64 b, .int .i64 c]) = .returned (.tuple #[.int .u64 a', .int .i64 b', .int .i64 c']) := by rw [h1, h2, h3]
theorem specGuOut (a : Option Addr) (n c : Nat) (x : Int) (w : World) (hn : n ≤ 1048576) (hx : x < 0 ∨ (n : Int) < x) :
    Calls Tryz.prog 40 #[.slice a n c, .int .i64 x] w fun e w' => e = .returned (.tuple #[.int .u64 0, .int .i64 x, .int .i64 1]) ∧ Below w.heap.size w w' := by
  by_cases h0 : x < 0
  · go_enter Tryz.func40, Tryz.ntmps40
    go_wp2_with fail
    go_ret3
    exact ⟨rfl, Below.refl _ _⟩
  · have h1 : (n : Int) < x := by omega
    go_enter Tryz.func40, Tryz.ntmps40
    go_wp2_with fail
    go_ret3
    exact ⟨rfl, Below.refl _ _⟩
theorem specGu (a : Option Addr) (n c p m : Nat) (f : Nat → Int) (w : World) (hn : n ≤ 1048576) (hf : Byt f) (h : Seg w a n f) (hp : p ≤ n) (hm : Cnt f n p m) :
    Calls Tryz.prog 40 #[.slice a n c, .int .i64 (p : Int)] w fun e w' => e = .returned (.tuple #[.int .u64 (guV f n p m : Int), .int .i64 (guA f n p m : Int), .int .i64 (guC f n p m : Int)]) ∧ Below w.heap.size w w' := by
  by_cases hpn : p = n
  · subst hpn
    have hm0 : m = 0 := by
      rcases Nat.eq_zero_or_pos m with h0 | h0
      · exact h0
      · have := (hm.2.1 0 h0).1; omega
    subst hm0
    have HC : Hid (guC f p p 0 = 1) := by show _ = _; unfold guC; rw [if_pos (by omega)]
    have HV : Hid (guV f p p 0 = 0 ∧ guA f p p 0 = p) := by show _ ∧ _; unfold guV guA; rw [HC.out]; simp
    clear h hf hm
    go_enter Tryz.func40, Tryz.ntmps40
    go_wp2_with fail
    refine wp_loop_rounds 1 ?_; rw [rounds_succ]; go_wp2_with fail
    go_ret3
    exact ⟨retG (by rw [HV.out.1]; rfl) (by rw [HV.out.2]) (by rw [HC.out]; rfl), Below.refl _ _⟩
  rcases h with h | ⟨b, off, rfl, hb, hc⟩
  · omega
  have HCn := hid hm
  have hm9 := hm.1
  clear hm
  go_enter Tryz.func40, Tryz.ntmps40
  go_wp2_with fail
  go_loop [7] (fun i => ∃ k : Nat, k ≤ m ∧ i = .int .i64 (k : Int)) (fun i => m - (intOf i).toNat)
  case atStart => exact ⟨0, Nat.zero_le _, rfl⟩
  case round =>
    obtain ⟨k, hk, rfl⟩ := hrel
    by_cases hlt : k < m
    · have hqn : p + k < n := (HCn.out.2.1 k hlt).1
      have hck : w.cell? ⟨b, off + (p + k), none⟩ = some (.int .u8 (f (p + k))) := hc (p + k) hqn
      have hfq : 128 ≤ f (p + k) := (HCn.out.2.1 k hlt).2
      have hk9 : k < 9 := by omega
      go_wp2_with fail
      go_round
      case rel => exact ⟨k + 1, hlt, by go_num⟩
      case measure => simp [intOf]; omega
    · obtain rfl : k = m := by omega
      by_cases hqn : p + k < n
      · obtain ⟨z, hz⟩ : ∃ z : Nat, f (p + k) = (z : Int) := ⟨(f (p + k)).toNat, by have := (hf (p + k)).1; omega⟩
        have hz8 : z < 256 := by have := (hf (p + k)).2; omega
        have hck : w.cell? ⟨b, off + (p + k), none⟩ = some (.int .u8 (z : Int)) := by rw [hc (p + k) hqn, hz]
        have hst : k < 9 → z < 128 := fun h9 => by have := HCn.out.2.2 hqn h9; omega
        have HZ := hid hz
        have HCC := hid hc
        clear hz hc
        have C2 : 9 ≤ k → 1 < z → Hid (guC f n p k = 2) := fun h9 h1 => by show _ = _; unfold guC; rw [if_neg (by omega), if_pos ⟨by omega, by rw [HZ.out]; omega⟩]
        have C3 : (9 ≤ k → z ≤ 1) → 0 < k → z = 0 → Hid (guC f n p k = 3) := fun h9 h1 h0 => by show _ = _; unfold guC; rw [if_neg (by omega), if_neg (by rw [HZ.out]; omega), if_pos ⟨h1, by rw [HZ.out]; omega⟩]
        have C0 : (9 ≤ k → z ≤ 1) → (0 < k → z ≠ 0) → Hid (guC f n p k = 0) := fun h9 h1 => by show _ = _; unfold guC; rw [if_neg (by omega), if_neg (by rw [HZ.out]; omega), if_neg (by rw [HZ.out]; omega)]
        have V1 : guC f n p k ≠ 0 → Hid (guV f n p k = 0 ∧ guA f n p k = p) := fun hne => by show _ ∧ _; unfold guV guA; rw [if_neg hne, if_neg hne]; exact ⟨rfl, rfl⟩
        have V0 : guC f n p k = 0 → Hid (guV f n p k = sumF f p (k + 1) ∧ guA f n p k = p + k + 1) := fun hne => by show _ ∧ _; unfold guV guA; rw [if_pos hne, if_pos hne]; exact ⟨rfl, rfl⟩
        have S64 : (9 ≤ k → z ≤ 1) → Hid (∀ j, j ≤ k + 1 → sumF f p j < 18446744073709551616) := fun h9 => sumF_64 hf p k (by omega) (fun h => by rw [HZ.out]; have := h9 (by omega); omega)
        by_cases h9 : k < 9
        · have hz7 := hst h9
          by_cases h0 : 0 < k
          · by_cases hz0 : z = 0
            · have hz0' : z ≤ 0 := by omega
              have HC := C3 (by omega) h0 hz0
              have HV := V1 (by rw [HC.out]; omega)
              clear hz0 C2 C3 C0 V1 V0 S64 hst
              go_wp2_with fail
              go_ret3
              exact ⟨retG (by rw [HV.out.1]; rfl) (by rw [HV.out.2]) (by rw [HC.out]; rfl), Below.refl _ _⟩
            · have hz0' : 0 < z := by omega
              have HC := C0 (by omega) (fun _ => hz0)
              have HV := V0 HC.out
              have H64 := S64 (by omega)
              clear hz0 C2 C3 C0 V1 V0 S64 hst
              go_wp2_with fail
              go_loopw [9, 10] (fun v i wr => ∃ (j x : Nat), j ≤ k + 1 ∧ Hid (x = sumF f p j) ∧ i = .int .i64 (j : Int) ∧ v = .int .u64 (x : Int) ∧ Hid (Below w.heap.size w wr)) (fun _ i _ => k + 1 - (intOf i).toNat)
              case atStart => exact ⟨0, 0, Nat.zero_le _, hid rfl, rfl, rfl, hid (Below.refl _ _)⟩
              case round =>
                obtain ⟨j, x, hj, hx, rfl, rfl, hbel⟩ := hrel
                by_cases hjk : j ≤ k
                · have hjn : p + j < n := by omega
                  obtain ⟨y, hy⟩ : ∃ y : Nat, f (p + j) = (y : Int) := ⟨(f (p + j)).toNat, by have := (hf (p + j)).1; omega⟩
                  have hy8 : y < 256 := by have := (hf (p + j)).2; omega
                  have hcj : wr.cell? ⟨b, off + (p + j), none⟩ = some (.int .u8 (y : Int)) := by rw [hbel.out.cell (p := ⟨b, _, none⟩) hb, HCC.out (p + j) hjn, hy]
                  have hbr := Nat.lt_of_lt_of_le hb hbel.out.size
                  obtain ⟨t, ht⟩ : ∃ t : Nat, t = 128 ^ j := ⟨_, rfl⟩
                  have hs1 : sumF f p (j + 1) = x + y % 128 * t := by
                    show sumF f p j + _ = _
                    rw [hx.out, ht, hy]; congr 2
                  have hs2 := H64.out (j + 1) (by omega)
                  rw [hs1] at hs2
                  have hyt : y % 128 * t < 18446744073709551616 := by omega
                  have HT := hid ht
                  have hj9 : j ≤ 9 := by omega
                  obtain ⟨q, hq⟩ : ∃ q : Nat, q = p + j := ⟨_, rfl⟩
                  have hwq : IntKind.i64.wrap ((p : Int) + (j : Int)) = (q : Int) := by rw [wrapIn _ (by omega) (by omega)]; omega
                  have hq0 : (0 : Int) ≤ (q : Int) := Int.natCast_nonneg _
                  have hqn1 : (q : Int) < (n : Int) := by omega
                  rw [← hq] at hcj
                  obtain ⟨r, hr⟩ : ∃ r : Nat, r = y % 128 * t := ⟨_, rfl⟩
                  obtain ⟨v1, hv1⟩ : ∃ v1 : Nat, v1 = x + r := ⟨_, rfl⟩
                  have hadd : IntKind.u64.wrap ((x : Int) + (r : Int)) = (v1 : Int) := by rw [IntKind.wrap_u64]; omega
                  obtain ⟨u, hu⟩ : ∃ u : Nat, u = y % 128 := ⟨_, rfl⟩
                  have hmod : IntKind.u64.wrap ((y : Int).tmod 128) = (u : Int) := by rw [Int.tmod_eq_emod_of_nonneg (by omega), IntKind.wrap_u64]; omega
                  have hmul : IntKind.u64.wrap ((u : Int) * (t : Int)) = (r : Int) := by
                    have e : ((u * t : Nat) : Int) = (u : Int) * (t : Int) := by push_cast; rfl
                    rw [hu, ← hr] at e
                    rw [IntKind.wrap_u64, hu, ← e]; omega
                  rw [← hr, ← hv1] at hs1
                  have HS := hid hs1
                  clear hy hs1 ht hq hr hyt hs2 hv1 hu
                  go_wp2_with fail
                  refine wp_region_held_drew (S := fun w' => Below wr.heap.size wr w' ∧ w'.cell? ⟨b, off + q, none⟩ = some (.int .u8 (y : Int))) (by kernel_rfl) ⟨(Below.refl _ _).drew, hcj⟩ (fun hHeld => ?_)
                  refine tk 0 73 ?_ (by kernel_rfl) (fun _ _ _ h => h) ?_ hHeld (tk 1 74 ?_ (by kernel_rfl) (fun _ _ _ h => h) ?_ hHeld (tk 2 75 ?_ (by kernel_rfl) (fun _ _ _ h => h) ?_ hHeld (tk 3 76 ?_ (by kernel_rfl) (fun _ _ _ h => h) ?_ hHeld ?_)))
                  iterate 4 (rotate_left; focus (intro o ho; simp only [gZa, gZb, gZc, gZd] at ho; subst ho; refine Or.inl ⟨by rfl, ?_⟩; intro w hSw; (try dsimp only at hSw); (try simp only [Act.put, sZa, sZb, sZc]); go_simp; try with_reducible rfl))
                  try simp only [Act.put, sZa, sZb, sZc]
                  refine tk 4 77 ?_ (by kernel_rfl) (fun _ _ _ h => h) ?_ hHeld (tk 5 78 ?_ (by kernel_rfl) (fun _ _ _ h => h) ?_ hHeld (tk 6 79 ?_ (by kernel_rfl) (fun _ _ _ h => h) ?_ hHeld (tk 7 80 ?_ (by kernel_rfl) (fun _ _ _ h => h) ?_ hHeld ?_)))
                  iterate 4 (rotate_left; focus (intro o ho; simp only [gZa, gZb, gZc, gZd] at ho; subst ho; refine Or.inl ⟨by rfl, ?_⟩; intro w hSw; (try dsimp only at hSw); (try simp only [Act.put, sZa, sZb, sZc]); go_simp; try with_reducible rfl))
                  try simp only [Act.put, sZa, sZb, sZc]
                  refine tk 8 81 ?_ (by kernel_rfl) (fun _ _ _ h => h) ?_ hHeld (tk 9 82 ?_ (by kernel_rfl) (fun _ _ _ h => h) ?_ hHeld ?_)
                  iterate 2 (rotate_left; focus (intro o ho; simp only [gZa, gZb, gZc, gZd] at ho; subst ho; refine Or.inl ⟨by rfl, ?_⟩; intro w hSw; (try dsimp only at hSw); (try simp only [Act.put, sZa, sZb, sZc]); go_simp; try with_reducible rfl))
                  try simp only [Act.put, sZa, sZb, sZc]
                  refine call1 (i := 10) (d := some 83) (by kernel_rfl) (by kernel_rfl) ?_
                  intro o ho hod K hK; simp only [gZa, gZb, gZc, gZd] at ho; subst ho
                  go_simp
                  refine (l1Power j _ hj9).mono ?_
                  rintro e w2 ⟨rfl, rfl⟩
                  rw [← HT.out]
                  refine hK.out _ _ ⟨hHeld.1, hHeld.2⟩ (fun hHeld => ?_)
                  clear hK K
                  try simp only [Act.put, sZa, sZb, sZc]
                  refine tk 11 84 ?_ (by kernel_rfl) (fun _ _ _ h => h) ?_ hHeld (tk 12 85 ?_ (by kernel_rfl) (fun _ _ _ h => h) ?_ hHeld (tk 13 9 ?_ (by kernel_rfl) (fun _ _ _ h => h) ?_ hHeld ?_))
                  iterate 3 (rotate_left; focus (intro o ho; simp only [gZa, gZb, gZc, gZd] at ho; subst ho; refine Or.inl ⟨by rfl, ?_⟩; intro w hSw; (try dsimp only at hSw); (try simp only [Act.put, sZa, sZb, sZc]); go_simp; try with_reducible rfl))
                  try simp only [Act.put, sZa, sZb, sZc]
                  refine wpAnyH_done (by kernel_rfl) ?_ _
                  have HB2 := hid hHeld.1
                  clear hHeld
                  go_wp2_with fail
                  go_roundw
                  case rel => exact ⟨j + 1, v1, by omega, hid (HS.out.symm), by go_num, by first | rfl | (simp only [hmod, hmul, hadd]), hid (hbel.out.trans (HB2.out.mono hbel.out.size))⟩
                  case measure => simp [intOf]; omega
                · obtain rfl : j = k + 1 := by omega
                  go_wp2_with fail
                  go_ret3
                  exact ⟨retG (by rw [HV.out.1, hx.out]) (by rw [HV.out.2]; simp <;> omega) (by rw [HC.out]; rfl), hbel.out⟩
          · have h0' : k ≤ 0 := by omega
            have HC := C0 (by omega) (by omega)
            have HV := V0 HC.out
            have H64 := S64 (by omega)
            clear C2 C3 C0 V1 V0 S64 hst
            go_wp2_with fail
            go_loopw [9, 10] (fun v i wr => ∃ (j x : Nat), j ≤ k + 1 ∧ Hid (x = sumF f p j) ∧ i = .int .i64 (j : Int) ∧ v = .int .u64 (x : Int) ∧ Hid (Below w.heap.size w wr)) (fun _ i _ => k + 1 - (intOf i).toNat)
            case atStart => exact ⟨0, 0, Nat.zero_le _, hid rfl, rfl, rfl, hid (Below.refl _ _)⟩
            case round =>
              obtain ⟨j, x, hj, hx, rfl, rfl, hbel⟩ := hrel
              by_cases hjk : j ≤ k
              · have hjn : p + j < n := by omega
                obtain ⟨y, hy⟩ : ∃ y : Nat, f (p + j) = (y : Int) := ⟨(f (p + j)).toNat, by have := (hf (p + j)).1; omega⟩
                have hy8 : y < 256 := by have := (hf (p + j)).2; omega
                have hcj : wr.cell? ⟨b, off + (p + j), none⟩ = some (.int .u8 (y : Int)) := by rw [hbel.out.cell (p := ⟨b, _, none⟩) hb, HCC.out (p + j) hjn, hy]
                have hbr := Nat.lt_of_lt_of_le hb hbel.out.size
                obtain ⟨t, ht⟩ : ∃ t : Nat, t = 128 ^ j := ⟨_, rfl⟩
                have hs1 : sumF f p (j + 1) = x + y % 128 * t := by
                  show sumF f p j + _ = _
                  rw [hx.out, ht, hy]; congr 2
                have hs2 := H64.out (j + 1) (by omega)
                rw [hs1] at hs2
                have hyt : y % 128 * t < 18446744073709551616 := by omega
                have HT := hid ht
                have hj9 : j ≤ 9 := by omega
                obtain ⟨q, hq⟩ : ∃ q : Nat, q = p + j := ⟨_, rfl⟩
                have hwq : IntKind.i64.wrap ((p : Int) + (j : Int)) = (q : Int) := by rw [wrapIn _ (by omega) (by omega)]; omega
                have hq0 : (0 : Int) ≤ (q : Int) := Int.natCast_nonneg _
                have hqn1 : (q : Int) < (n : Int) := by omega
                rw [← hq] at hcj
                obtain ⟨r, hr⟩ : ∃ r : Nat, r = y % 128 * t := ⟨_, rfl⟩
                obtain ⟨v1, hv1⟩ : ∃ v1 : Nat, v1 = x + r := ⟨_, rfl⟩
                have hadd : IntKind.u64.wrap ((x : Int) + (r : Int)) = (v1 : Int) := by rw [IntKind.wrap_u64]; omega
                obtain ⟨u, hu⟩ : ∃ u : Nat, u = y % 128 := ⟨_, rfl⟩
                have hmod : IntKind.u64.wrap ((y : Int).tmod 128) = (u : Int) := by rw [Int.tmod_eq_emod_of_nonneg (by omega), IntKind.wrap_u64]; omega
                have hmul : IntKind.u64.wrap ((u : Int) * (t : Int)) = (r : Int) := by
                  have e : ((u * t : Nat) : Int) = (u : Int) * (t : Int) := by push_cast; rfl
                  rw [hu, ← hr] at e
                  rw [IntKind.wrap_u64, hu, ← e]; omega
                rw [← hr, ← hv1] at hs1
                have HS := hid hs1
                clear hy hs1 ht hq hr hyt hs2 hv1 hu
                go_wp2_with fail
                refine wp_region_held_drew (S := fun w' => Below wr.heap.size wr w' ∧ w'.cell? ⟨b, off + q, none⟩ = some (.int .u8 (y : Int))) (by kernel_rfl) ⟨(Below.refl _ _).drew, hcj⟩ (fun hHeld => ?_)
                refine tk 0 73 ?_ (by kernel_rfl) (fun _ _ _ h => h) ?_ hHeld (tk 1 74 ?_ (by kernel_rfl) (fun _ _ _ h => h) ?_ hHeld (tk 2 75 ?_ (by kernel_rfl) (fun _ _ _ h => h) ?_ hHeld (tk 3 76 ?_ (by kernel_rfl) (fun _ _ _ h => h) ?_ hHeld ?_)))
                iterate 4 (rotate_left; focus (intro o ho; simp only [gZa, gZb, gZc, gZd] at ho; subst ho; refine Or.inl ⟨by rfl, ?_⟩; intro w hSw; (try dsimp only at hSw); (try simp only [Act.put, sZa, sZb, sZc]); go_simp; try with_reducible rfl))
                try simp only [Act.put, sZa, sZb, sZc]
                refine tk 4 77 ?_ (by kernel_rfl) (fun _ _ _ h => h) ?_ hHeld (tk 5 78 ?_ (by kernel_rfl) (fun _ _ _ h => h) ?_ hHeld (tk 6 79 ?_ (by kernel_rfl) (fun _ _ _ h => h) ?_ hHeld (tk 7 80 ?_ (by kernel_rfl) (fun _ _ _ h => h) ?_ hHeld ?_)))
                iterate 4 (rotate_left; focus (intro o ho; simp only [gZa, gZb, gZc, gZd] at ho; subst ho; refine Or.inl ⟨by rfl, ?_⟩; intro w hSw; (try dsimp only at hSw); (try simp only [Act.put, sZa, sZb, sZc]); go_simp; try with_reducible rfl))
                try simp only [Act.put, sZa, sZb, sZc]
                refine tk 8 81 ?_ (by kernel_rfl) (fun _ _ _ h => h) ?_ hHeld (tk 9 82 ?_ (by kernel_rfl) (fun _ _ _ h => h) ?_ hHeld ?_)
                iterate 2 (rotate_left; focus (intro o ho; simp only [gZa, gZb, gZc, gZd] at ho; subst ho; refine Or.inl ⟨by rfl, ?_⟩; intro w hSw; (try dsimp only at hSw); (try simp only [Act.put, sZa, sZb, sZc]); go_simp; try with_reducible rfl))
                try simp only [Act.put, sZa, sZb, sZc]
                refine call1 (i := 10) (d := some 83) (by kernel_rfl) (by kernel_rfl) ?_
                intro o ho hod K hK; simp only [gZa, gZb, gZc, gZd] at ho; subst ho
                go_simp
                refine (l1Power j _ hj9).mono ?_
                rintro e w2 ⟨rfl, rfl⟩
                rw [← HT.out]
                refine hK.out _ _ ⟨hHeld.1, hHeld.2⟩ (fun hHeld => ?_)
                clear hK K
                try simp only [Act.put, sZa, sZb, sZc]
                refine tk 11 84 ?_ (by kernel_rfl) (fun _ _ _ h => h) ?_ hHeld (tk 12 85 ?_ (by kernel_rfl) (fun _ _ _ h => h) ?_ hHeld (tk 13 9 ?_ (by kernel_rfl) (fun _ _ _ h => h) ?_ hHeld ?_))
                iterate 3 (rotate_left; focus (intro o ho; simp only [gZa, gZb, gZc, gZd] at ho; subst ho; refine Or.inl ⟨by rfl, ?_⟩; intro w hSw; (try dsimp only at hSw); (try simp only [Act.put, sZa, sZb, sZc]); go_simp; try with_reducible rfl))
                try simp only [Act.put, sZa, sZb, sZc]
                refine wpAnyH_done (by kernel_rfl) ?_ _
                have HB2 := hid hHeld.1
                clear hHeld
                go_wp2_with fail
                go_roundw
                case rel => exact ⟨j + 1, v1, by omega, hid (HS.out.symm), by go_num, by first | rfl | (simp only [hmod, hmul, hadd]), hid (hbel.out.trans (HB2.out.mono hbel.out.size))⟩
                case measure => simp [intOf]; omega
              · obtain rfl : j = k + 1 := by omega
                go_wp2_with fail
                go_ret3
                exact ⟨retG (by rw [HV.out.1, hx.out]) (by rw [HV.out.2]; simp <;> omega) (by rw [HC.out]; rfl), hbel.out⟩
        · have h9' : 9 ≤ k := by omega
          by_cases hz1 : 1 < z
          · skip
            have HC := C2 h9' hz1
            have HV := V1 (by rw [HC.out]; omega)
            clear C2 C3 C0 V1 V0 S64 hst
            go_wp2_with fail
            go_ret3
            exact ⟨retG (by rw [HV.out.1]; rfl) (by rw [HV.out.2]) (by rw [HC.out]; rfl), Below.refl _ _⟩
          · by_cases hz0 : z = 0
            · have hz0' : z ≤ 0 := by omega
              have HC := C3 (by omega) (by omega) hz0
              have HV := V1 (by rw [HC.out]; omega)
              clear hz0 C2 C3 C0 V1 V0 S64 hst
              go_wp2_with fail
              go_ret3
              exact ⟨retG (by rw [HV.out.1]; rfl) (by rw [HV.out.2]) (by rw [HC.out]; rfl), Below.refl _ _⟩
            · have hz0' : 0 < z := by omega
              have HC := C0 (by omega) (fun _ => hz0)
              have HV := V0 HC.out
              have H64 := S64 (by omega)
              clear hz0 C2 C3 C0 V1 V0 S64 hst
              go_wp2_with fail
              go_loopw [9, 10] (fun v i wr => ∃ (j x : Nat), j ≤ k + 1 ∧ Hid (x = sumF f p j) ∧ i = .int .i64 (j : Int) ∧ v = .int .u64 (x : Int) ∧ Hid (Below w.heap.size w wr)) (fun _ i _ => k + 1 - (intOf i).toNat)
              case atStart => exact ⟨0, 0, Nat.zero_le _, hid rfl, rfl, rfl, hid (Below.refl _ _)⟩
              case round =>
                obtain ⟨j, x, hj, hx, rfl, rfl, hbel⟩ := hrel
                by_cases hjk : j ≤ k
                · have hjn : p + j < n := by omega
                  obtain ⟨y, hy⟩ : ∃ y : Nat, f (p + j) = (y : Int) := ⟨(f (p + j)).toNat, by have := (hf (p + j)).1; omega⟩
                  have hy8 : y < 256 := by have := (hf (p + j)).2; omega
                  have hcj : wr.cell? ⟨b, off + (p + j), none⟩ = some (.int .u8 (y : Int)) := by rw [hbel.out.cell (p := ⟨b, _, none⟩) hb, HCC.out (p + j) hjn, hy]
                  have hbr := Nat.lt_of_lt_of_le hb hbel.out.size
                  obtain ⟨t, ht⟩ : ∃ t : Nat, t = 128 ^ j := ⟨_, rfl⟩
                  have hs1 : sumF f p (j + 1) = x + y % 128 * t := by
                    show sumF f p j + _ = _
                    rw [hx.out, ht, hy]; congr 2
                  have hs2 := H64.out (j + 1) (by omega)
                  rw [hs1] at hs2
                  have hyt : y % 128 * t < 18446744073709551616 := by omega
                  have HT := hid ht
                  have hj9 : j ≤ 9 := by omega
                  obtain ⟨q, hq⟩ : ∃ q : Nat, q = p + j := ⟨_, rfl⟩
                  have hwq : IntKind.i64.wrap ((p : Int) + (j : Int)) = (q : Int) := by rw [wrapIn _ (by omega) (by omega)]; omega
                  have hq0 : (0 : Int) ≤ (q : Int) := Int.natCast_nonneg _
                  have hqn1 : (q : Int) < (n : Int) := by omega
                  rw [← hq] at hcj
                  obtain ⟨r, hr⟩ : ∃ r : Nat, r = y % 128 * t := ⟨_, rfl⟩
                  obtain ⟨v1, hv1⟩ : ∃ v1 : Nat, v1 = x + r := ⟨_, rfl⟩
                  have hadd : IntKind.u64.wrap ((x : Int) + (r : Int)) = (v1 : Int) := by rw [IntKind.wrap_u64]; omega
                  obtain ⟨u, hu⟩ : ∃ u : Nat, u = y % 128 := ⟨_, rfl⟩
                  have hmod : IntKind.u64.wrap ((y : Int).tmod 128) = (u : Int) := by rw [Int.tmod_eq_emod_of_nonneg (by omega), IntKind.wrap_u64]; omega
                  have hmul : IntKind.u64.wrap ((u : Int) * (t : Int)) = (r : Int) := by
                    have e : ((u * t : Nat) : Int) = (u : Int) * (t : Int) := by push_cast; rfl
                    rw [hu, ← hr] at e
                    rw [IntKind.wrap_u64, hu, ← e]; omega
                  rw [← hr, ← hv1] at hs1
                  have HS := hid hs1
                  clear hy hs1 ht hq hr hyt hs2 hv1 hu
                  go_wp2_with fail
                  refine wp_region_held_drew (S := fun w' => Below wr.heap.size wr w' ∧ w'.cell? ⟨b, off + q, none⟩ = some (.int .u8 (y : Int))) (by kernel_rfl) ⟨(Below.refl _ _).drew, hcj⟩ (fun hHeld => ?_)
                  refine tk 0 73 ?_ (by kernel_rfl) (fun _ _ _ h => h) ?_ hHeld (tk 1 74 ?_ (by kernel_rfl) (fun _ _ _ h => h) ?_ hHeld (tk 2 75 ?_ (by kernel_rfl) (fun _ _ _ h => h) ?_ hHeld (tk 3 76 ?_ (by kernel_rfl) (fun _ _ _ h => h) ?_ hHeld ?_)))
                  iterate 4 (rotate_left; focus (intro o ho; simp only [gZa, gZb, gZc, gZd] at ho; subst ho; refine Or.inl ⟨by rfl, ?_⟩; intro w hSw; (try dsimp only at hSw); (try simp only [Act.put, sZa, sZb, sZc]); go_simp; try with_reducible rfl))
                  try simp only [Act.put, sZa, sZb, sZc]
                  refine tk 4 77 ?_ (by kernel_rfl) (fun _ _ _ h => h) ?_ hHeld (tk 5 78 ?_ (by kernel_rfl) (fun _ _ _ h => h) ?_ hHeld (tk 6 79 ?_ (by kernel_rfl) (fun _ _ _ h => h) ?_ hHeld (tk 7 80 ?_ (by kernel_rfl) (fun _ _ _ h => h) ?_ hHeld ?_)))
                  iterate 4 (rotate_left; focus (intro o ho; simp only [gZa, gZb, gZc, gZd] at ho; subst ho; refine Or.inl ⟨by rfl, ?_⟩; intro w hSw; (try dsimp only at hSw); (try simp only [Act.put, sZa, sZb, sZc]); go_simp; try with_reducible rfl))
                  try simp only [Act.put, sZa, sZb, sZc]
                  refine tk 8 81 ?_ (by kernel_rfl) (fun _ _ _ h => h) ?_ hHeld (tk 9 82 ?_ (by kernel_rfl) (fun _ _ _ h => h) ?_ hHeld ?_)
                  iterate 2 (rotate_left; focus (intro o ho; simp only [gZa, gZb, gZc, gZd] at ho; subst ho; refine Or.inl ⟨by rfl, ?_⟩; intro w hSw; (try dsimp only at hSw); (try simp only [Act.put, sZa, sZb, sZc]); go_simp; try with_reducible rfl))
                  try simp only [Act.put, sZa, sZb, sZc]
                  refine call1 (i := 10) (d := some 83) (by kernel_rfl) (by kernel_rfl) ?_
                  intro o ho hod K hK; simp only [gZa, gZb, gZc, gZd] at ho; subst ho
                  go_simp
                  refine (l1Power j _ hj9).mono ?_
                  rintro e w2 ⟨rfl, rfl⟩
                  rw [← HT.out]
                  refine hK.out _ _ ⟨hHeld.1, hHeld.2⟩ (fun hHeld => ?_)
                  clear hK K
                  try simp only [Act.put, sZa, sZb, sZc]
                  refine tk 11 84 ?_ (by kernel_rfl) (fun _ _ _ h => h) ?_ hHeld (tk 12 85 ?_ (by kernel_rfl) (fun _ _ _ h => h) ?_ hHeld (tk 13 9 ?_ (by kernel_rfl) (fun _ _ _ h => h) ?_ hHeld ?_))
                  iterate 3 (rotate_left; focus (intro o ho; simp only [gZa, gZb, gZc, gZd] at ho; subst ho; refine Or.inl ⟨by rfl, ?_⟩; intro w hSw; (try dsimp only at hSw); (try simp only [Act.put, sZa, sZb, sZc]); go_simp; try with_reducible rfl))
                  try simp only [Act.put, sZa, sZb, sZc]
                  refine wpAnyH_done (by kernel_rfl) ?_ _
                  have HB2 := hid hHeld.1
                  clear hHeld
                  go_wp2_with fail
                  go_roundw
                  case rel => exact ⟨j + 1, v1, by omega, hid (HS.out.symm), by go_num, by first | rfl | (simp only [hmod, hmul, hadd]), hid (hbel.out.trans (HB2.out.mono hbel.out.size))⟩
                  case measure => simp [intOf]; omega
                · obtain rfl : j = k + 1 := by omega
                  go_wp2_with fail
                  go_ret3
                  exact ⟨retG (by rw [HV.out.1, hx.out]) (by rw [HV.out.2]; simp <;> omega) (by rw [HC.out]; rfl), hbel.out⟩
      · have HC : Hid (guC f n p k = 1) := by show _ = _; unfold guC; rw [if_pos (by omega)]
        have HV : Hid (guV f n p k = 0 ∧ guA f n p k = p) := by show _ ∧ _; unfold guV guA; rw [HC.out]; simp
        go_wp2_with fail
        go_ret3
        exact ⟨retG (by rw [HV.out.1]; rfl) (by rw [HV.out.2]) (by rw [HC.out]; rfl), Below.refl _ _⟩
end Go.Proofs.YtakmpmhjcngbbaaGreatDoor
namespace Go.Proofs.YtakmpmhjcngbbaaGreatDoor
open Go.RowKit Go.Extern.Stop Go.Stop Go.Extern
end Go.Proofs.YtakmpmhjcngbbaaGreatDoor
