import Derived.Test.YtdenbicnckkdfaaGreatMg23
import Derived.Test.YtdenbicnckkdfaaGreatMg05
import Derived.Maps.AppendAt
namespace Go.Proofs.YtdenbicnckkdfaaGreat
open Go.ChangeShapes Go.WideShapes Go.ChangeAt Go.RowKit
set_option linter.unusedVariables false

theorem Own.kept {w w1 : World} {B C : Nat} {v : Value} {zs : List Int} (h : Own w B v zs) (hb : Below C w w1) (hc : ∀ k, v.ownBlock = some k → k < C) : Own w1 B v zs := by
  obtain ⟨h1, h2⟩ := h
  refine ⟨h1, ?_⟩
  rcases h2 with h2 | ⟨g, cap, cur, rfl, hbg, hg, r⟩
  · exact .inl h2
  · exact .inr ⟨g, cap, cur, rfl, hbg, by rw [hb.block g (hc g rfl)]; exact hg, r⟩

theorem Seg.kept {w w1 : World} {B : Nat} {a : Option Addr} {n : Nat} {f : Nat → Int} (h : Seg w a n f) (hb : Below B w w1) (hB : B ≤ w.heap.size) (hc : ∀ x, a = some x → x.block < B) : Seg w1 a n f := by
  rcases h with h | ⟨b, off, rfl, hlt, hcell⟩
  · exact .inl h
  · exact .inr ⟨b, off, rfl, Nat.lt_of_lt_of_le hlt hb.size, fun i hi => (hb.cell (p := ⟨b, off + i, none⟩) (show b < B from hc ⟨b, off, none⟩ rfl)).trans (hcell i hi)⟩

theorem Own.weak {w : World} {B C : Nat} {v : Value} {zs : List Int} (h : Own w B v zs) (hc : C ≤ B) : Own w C v zs := by
  obtain ⟨h1, h2⟩ := h
  refine ⟨h1, ?_⟩
  rcases h2 with h2 | ⟨g, cap, cur, rfl, hbg, r⟩
  · exact .inl h2
  · exact .inr ⟨g, cap, cur, rfl, Nat.le_trans hc hbg, r⟩

theorem Own.shape {w : World} {B : Nat} {v : Value} {zs : List Int} (h : Own w B v zs) (hz : zs ≠ []) :
    ∃ g cap, v = .slice (some ⟨g, 0, none⟩) zs.length cap ∧ B ≤ g ∧ g < w.heap.size ∧ zs.length ≤ cap ∧ cap ≤ maxLen ∧
      (∀ j u, (zs.map (Value.int .u8))[j]? = some u → w.cell? ((⟨g, 0, none⟩ : Addr).add j) = some u) ∧ Seg w (some ⟨g, 0, none⟩) zs.length (fun i => zs.getD i 0) := by
  have h' := h
  obtain ⟨h1, h2⟩ := h
  rcases h2 with ⟨_, h2⟩ | ⟨g, cap, cur, rfl, hbg, hg, hn, hm, r⟩
  · exact absurd (List.eq_nil_of_length_eq_zero h2) hz
  · have hlt := (h'.lt g rfl).2
    refine ⟨g, cap, rfl, hbg, hlt, hn, hm, h'.cells rfl, .inr ⟨g, 0, rfl, hlt, fun i hi => ?_⟩⟩
    rw [Nat.zero_add, World.ownsRow.cellAt h' i (by omega)]
    simp [hi, List.getD]

theorem bytesOf {zs : List Int} (h : ∀ z ∈ zs, 0 ≤ z ∧ z < 256) : Byt (fun i => zs.getD i 0) := by
  intro i
  by_cases hi : i < zs.length
  · have := h (zs.getD i 0) (by simp [List.getD, hi])
    exact this
  · simp [List.getD, hi]

set_option maxRecDepth 100000 in
set_option maxHeartbeats 800000 in
theorem specUv (k : Nat) : ∀ (m : Nat) (w : World), k ≤ 9 → Hid (m < 128 ^ (k + 1)) → m < 18446744073709551616 →
    Calls Tryz.prog 118 #[.int .u64 (m : Int)] w fun e w' => ∃ v, e = .returned v ∧ Own w' w.heap.size v (uvF k m) ∧ Below w.heap.size w w' ∧ w.heap.size < w'.heap.size := by
  obtain ⟨i0, hi, hz0, hz1, hz2⟩ := info_parts Tryz.infoByte
  have small : ∀ (k m : Nat) (w : World), m < 128 → Calls Tryz.prog 118 #[.int .u64 (m : Int)] w fun e w' => ∃ v, e = .returned v ∧ Own w' w.heap.size v (uvF k m) ∧ Below w.heap.size w w' ∧ w.heap.size < w'.heap.size := by
    intro k m w hm
    have HE : Hid (uvF k m = [(m : Int)]) := uvF_lt k m hm
    go_enter Tryz.func118, Tryz.ntmps118
    go_wp2_with fail
    go_ret
    refine ⟨_, rfl, ?_, (Below.refl _ _).alloc (Nat.le_refl _) _, by simp⟩
    rw [HE.out]
    exact own_one w _ _ (Nat.le_refl _)
  induction k with
  | zero => intro m w _ hm _; exact small 0 m w (by have := hm.out; omega)
  | succ k ih =>
    intro m w hk hmk hm
    by_cases hlt : m < 128
    · exact small (k + 1) m w hlt
    · have HE : Hid (uvF (k + 1) m = ((128 + m % 128 : Nat) : Int) :: uvF k (m / 128)) := uvF_ge k m hlt
      have HL := uvF_len k (m / 128)
      have HK : Hid (m / 128 < 128 ^ (k + 1)) := by
        have := hmk.out
        rw [Nat.pow_succ] at this
        show _ < _
        omega
      have IH := ih (m / 128) (w.alloc (.cells #[.int .u8 (128 + (m : Int) % 128)] 5)) (by omega) HK (by omega)
      have HI := hid IH
      clear IH ih small hmk
      go_enter Tryz.func118, Tryz.ntmps118
      go_wp2_with fail
      rw [show ((m : Int) / 128) = ((m / 128 : Nat) : Int) from by omega]
      refine HI.out.mono ?_
      rintro e w1 ⟨v, rfl, ho, hb, hz⟩
      obtain ⟨g, cap, rfl, hg1, hg2, _, _, hcs, _⟩ := ho.shape (by intro e; rw [e] at HL; simp at HL)
      have hd : w1.ownsRow w.heap.size 5 1 (.slice (some ⟨w.heap.size, 0, none⟩) 1 1) 1 [.int .u8 (128 + (m : Int) % 128)] :=
        (own_one w w.heap.size (128 + (m : Int) % 128) (Nat.le_refl _)).kept hb (fun k hk => by simp [Value.ownBlock] at hk; simp; omega)
      have hzs : w.heap.size + 1 < w1.heap.size := by have := hz; simp at this; exact this
      have hone : ∀ u ∈ (uvF k (m / 128)).map (Value.int .u8), u.oneCell' = true := ints_oneCell .u8 _
      have HN := hid hcs
      clear hcs HI ho
      go_wp2_with (at_builtin; refine wpList_append_own _ rfl _ _ 39 rfl w.heap.size 5 i0 (.int .u8 0) 1 1 Tryz.underlying39 hi hz0 hz1 hz2 rfl (by decide) _ _ _ rfl hd ⟨g, 0, none⟩ (uvF k (m / 128)).length cap ((uvF k (m / 128)).map (Value.int .u8)) rfl (by simp) HN.out hone ?c3 ?c4 ?c5 ?_)
      case c3 => unfold maxLen; omega
      case c4 => omega
      case c5 => omega
      · intro v' w2 hown' hgr _
        have R : Own w2 w.heap.size v' (uvF (k + 1) m) := by
          rw [HE.out]
          unfold Own
          rw [List.length_cons, List.map_cons, Nat.add_comm]
          exact hown'
        have RB : Below w.heap.size w w2 := ((((Below.refl _ _).alloc (Nat.le_refl _) _).trans (hb.mono (by simp)))).grown hgr (by omega) (fun k hk => by simp [Value.ownBlock] at hk; omega)
        have RZ := hgr.size
        clear hown' hgr hd HN hone
        go_wp2_with fail
        go_ret
        exact ⟨v', rfl, R, RB, by omega⟩

def mk8 (k0 : Nat) (i : Nat) : Int := ((k0 + i : Nat) : Int) % 256

set_option maxRecDepth 100000 in
set_option maxHeartbeats 400000 in
theorem markB (B g n cap : Nat) (k0 : Nat) (ys : List Value) (w : World) (hk0 : k0 ≤ 1000000000000) (hn1 : n ≤ 1000000000) (ho : w.ownsRow B 5 1 (.slice (some ⟨g, 0, none⟩) n cap) n ys) :
    Calls Tryz.prog 28 #[.slice (some ⟨g, 0, none⟩) n cap, .int .i64 (k0 : Int)] w fun e w' => e = .returned (.int .i64 ((k0 + n : Nat) : Int)) ∧ Below B w w' ∧ w'.heap.size = w.heap.size ∧ Seg w' (some ⟨g, 0, none⟩) n (mk8 k0) ∧ (∀ b, b ≠ g → w'.heap[b]? = w.heap[b]?) := by
  go_enter Tryz.func28, Tryz.ntmps28
  go_wp2_with fail
  go_loopw [1, 5] (fun k i wr => ∃ j : Nat, j ≤ n ∧ i = .int .i64 (j : Int) ∧ k = .int .i64 ((k0 + j : Nat) : Int) ∧ Below B w wr ∧ wr.heap.size = w.heap.size ∧ (∀ b, b ≠ g → wr.heap[b]? = w.heap[b]?) ∧ ∃ xs : List Value, wr.ownsRow B 5 1 (.slice (some ⟨g, 0, none⟩) n cap) n xs ∧ ∀ t, t < j → xs[t]? = some (.int .u8 (mk8 k0 t))) (fun _ i _ => n - (intOf i).toNat)
  case atStart => exact ⟨0, Nat.zero_le _, rfl, rfl, Below.refl _ _, rfl, fun _ _ => rfl, _, ho, fun t ht => by omega⟩
  case round =>
    clear ho
    obtain ⟨j, hj, rfl, rfl, hbel, hsz, hoth, xs, hown, hxs⟩ := hrel
    by_cases hlt : j < n
    · have hfz := hown.frozenAt j
      obtain ⟨u, hu⟩ : ∃ u, wr.cell? ⟨g, j, none⟩ = some u := by
        rw [hown.cellAt j (by omega)]
        have := hown.1
        exact ⟨_, List.getElem?_eq_getElem (by omega)⟩
      have R := (hown.stored j (.int .u8 (((k0 : Int) + (j : Int)) % 256))).1
      have RX : ∀ t, t < j + 1 → (xs.set j (.int .u8 (((k0 : Int) + (j : Int)) % 256)))[t]? = some (.int .u8 (mk8 k0 t)) := by
        intro t ht
        by_cases htj : j = t
        · subst htj
          have := hown.1
          rw [List.getElem?_set_self (by omega)]
          unfold mk8; simp
        · rw [List.getElem?_set_ne htj]; exact hxs t (by omega)
      have RB := hbel.setCell (p := ⟨g, j, none⟩) (hown.lt g rfl).1 (.int .u8 (((k0 : Int) + (j : Int)) % 256))
      have RS : (wr.setCell ⟨g, j, none⟩ (.int .u8 (((k0 : Int) + (j : Int)) % 256))).heap.size = w.heap.size := by rw [← hsz]; simp [World.setCell]
      have RO : Hid (∀ b, b ≠ g → (wr.setCell ⟨g, j, none⟩ (.int .u8 (((k0 : Int) + (j : Int)) % 256))).heap[b]? = w.heap[b]?) := fun b hb => (Below.heap_setCell _ _ _ _ hb).trans (hoth b hb)
      have HR := hid (And.intro R (And.intro RX (And.intro RB RS)))
      clear R RX RB RS hown hxs hoth
      go_wp2_with fail
      go_roundw
      case rel => exact ⟨j + 1, hlt, by go_num, by go_num, HR.out.2.2.1, HR.out.2.2.2, RO.out, _, HR.out.1, HR.out.2.1⟩
      case measure => simp [intOf]; omega
    · obtain rfl : j = n := by omega
      have hsg : Seg wr (some ⟨g, 0, none⟩) j (mk8 k0) := .inr ⟨g, 0, rfl, (hown.lt g rfl).2, fun i hi => by rw [Nat.zero_add, hown.cellAt i (by omega)]; exact hxs i hi⟩
      have HR := hid (And.intro hsg hoth)
      clear hown hxs hsg hoth
      go_wp2_with fail
      go_ret
      exact ⟨rfl, hbel, hsz, HR.out.1, HR.out.2⟩

set_option maxRecDepth 100000 in
set_option maxHeartbeats 400000 in
theorem heldB (a : Option Addr) (n cap k0 : Nat) (w : World) (hk0 : k0 ≤ 1000000000000) (hn1 : n ≤ 1000000000) (h : Seg w a n (mk8 k0)) :
    Calls Tryz.prog 30 #[.slice a n cap, .int .i64 (k0 : Int)] w fun e w' => e = .returned (.int .i64 ((k0 + n : Nat) : Int)) ∧ w' = w := by
  rcases h with h | ⟨b, off, rfl, hb, hc⟩
  · subst h
    go_enter Tryz.func30, Tryz.ntmps30
    go_wp2
    refine wp_loop_rounds 1 ?_; rw [rounds_succ]; go_wp2
    go_ret
    exact ⟨rfl, rfl⟩
  · go_enter Tryz.func30, Tryz.ntmps30
    go_wp2
    go_loop [1, 5] (fun k i => ∃ j : Nat, j ≤ n ∧ i = .int .i64 (j : Int) ∧ k = .int .i64 ((k0 + j : Nat) : Int)) (fun _ i => n - (intOf i).toNat)
    case atStart => exact ⟨0, Nat.zero_le _, rfl, rfl⟩
    case round =>
      obtain ⟨j, hj, rfl, rfl⟩ := hrel
      by_cases hlt : j < n
      · have hck : w.cell? ⟨b, off + j, none⟩ = some (.int .u8 (((k0 : Int) + (j : Int)) % 256)) := by rw [hc j hlt]; unfold mk8; simp
        clear hc
        go_wp2
        go_round
        case rel => exact ⟨j + 1, hlt, by go_num, by go_num⟩
        case measure => simp [intOf]; omega
      · obtain rfl : j = n := by omega
        go_wp2
        go_ret
        exact ⟨rfl, rfl⟩
end Go.Proofs.YtdenbicnckkdfaaGreat

namespace Go.Proofs.YtdenbicnckkdfaaGreat
open Go.ChangeShapes Go.WideShapes Go.ChangeAt Go.RowKit
set_option linter.unusedVariables false
set_option linter.unusedSimpArgs false

theorem wpList_app_at {P : Program} {w : World} {ops : Array Oper} {rest : List Oper} {o : Oper} {a : Act} {Q : Exit → Act → World → Prop} (hgd : o.guard = none) (s x : Operand) (t : TypeId)
    (ho : o.op = .call { callee := .builtin .append, args := #[s, x], argTypes := #[t, t] })
    (base : Nat) (e : TypeId) (i : TypeInfo) (z : Value) (size bytes : Nat) (ht : P.underlying t = some (.slice e)) (hi : P.info? e = some i) (hz : i.zero = some z)
    (hsize : i.size = size) (hby : i.bytes = bytes) (hzs : z.cells.size = size) (hsz : 0 < size)
    (v : Value) (n : Nat) (xs : List Value) (hs : a.eval s = v) (hown : w.ownsRow base e size v n xs)
    (ad : Addr) (m c : Nat) (news : List Value) (hx : a.eval x = .slice (some ad) m c) (hl : news.length = m * size) (hnews : ∀ j u, news[j]? = some u → w.cell? (ad.add j) = some u) (h1 : ∀ u ∈ news, u.oneCell' = true)
    (h63 : n + m ≤ maxLen) (hbytes : (n + m) * bytes ≤ 140737488355328) (hbase : base ≤ w.heap.size)
    (h : ∀ v' w', w'.ownsRow base e size v' (n + m) (xs ++ news) → w.grownBy w' v.ownBlock → (v'.ownBlock = v.ownBlock ∨ v'.ownBlock = some w.heap.size) → wpList P ops Q rest (a.put o.dst v') w') : wpList P ops Q (o :: rest) a w :=
  wpList_plain hgd fun _ hK => wp_app_at s x t ho base e i z size bytes ht hi hz hsize hby hzs hsz v n xs hs hown ad m c news hx hl hnews h1 h63 hbytes hbase fun v' w' h2 h3 h4 => hK _ _ (h v' w' h2 h3 h4)

structure Gr (w w' : World) (b0 b : Value) : Prop where
  g : w.grownBy w' b0.ownBlock
  l : b.ownBlock = b0.ownBlock ∨ ∃ k, b.ownBlock = some k ∧ w.heap.size ≤ k

theorem Gr.refl (w : World) (b : Value) : Gr w w b b := ⟨⟨rfl, rfl, rfl, Nat.le_refl _, fun _ _ _ => rfl⟩, .inl rfl⟩
theorem Gr.trans {w w1 w2 : World} {b0 b1 b2 : Value} (h1 : Gr w w1 b0 b1) (h2 : Gr w1 w2 b1 b2) : Gr w w2 b0 b2 := by
  refine ⟨h1.g.andThen h2.g (fun j hj => ?_), ?_⟩
  · rcases h1.l with e | ⟨k, e, hk⟩
    · exact .inr (e ▸ hj)
    · rw [e] at hj; injection hj with hj; exact .inl (by omega)
  · rcases h2.l with e | ⟨k, e, hk⟩
    · rw [e]; exact h1.l
    · exact .inr ⟨k, e, Nat.le_trans h1.g.size hk⟩
theorem Gr.alloc {w w1 : World} {b0 b : Value} (h : Gr w w1 b0 b) (o : Obj) : Gr w (w1.alloc o) b0 b :=
  h.trans ⟨World.grownBy_alloc w1 o _, .inl rfl⟩
theorem Gr.app {w w1 : World} {b b' : Value} (h : w.grownBy w1 b.ownBlock) (hl : b'.ownBlock = b.ownBlock ∨ b'.ownBlock = some w.heap.size) : Gr w w1 b b' :=
  ⟨h, hl.imp id (fun e => ⟨_, e, Nat.le_refl _⟩)⟩
theorem Gr.below {w w1 : World} {b b' : Value} {B : Nat} (h : Gr w w1 b b') (hB : B ≤ w.heap.size) (hb : ∀ k, b.ownBlock = some k → B ≤ k) : Below B w w1 :=
  (Below.refl B w).grown h.g hB hb
theorem Gr.of_below {w w1 : World} {b : Value} (h : Below w.heap.size w w1) : Gr w w1 b b :=
  ⟨⟨h.os, h.tape, h.output, h.size, fun k hk _ => h.block k hk⟩, .inl rfl⟩

end Go.Proofs.YtdenbicnckkdfaaGreat
