import Derived.Test.YtbimcammjohaoadGreatDoorMg10
import Derived.Test.YtbimcammjohaoadGreatDoorMg04
import Derived.Maps.AppendAt
import Derived.Test.YtbimcammjohaoadGreatDoorMg05
import Derived.Maps.Range
namespace Go.Proofs.YtbimcammjohaoadGreatDoor
open Go.ChangeShapes Go.WideShapes Go.ChangeAt Go.RowKit
set_option linter.unusedVariables false
set_option linter.unusedSimpArgs false

theorem wpList_app_at {P : Program} {w : World} {ops : Array Oper} {rest : List Oper} {o : Oper} {a : Act} {Q : Exit → Act → World → Prop} (hgd : o.guard = none) (s x : Operand) (t : TypeId)
    (ho : o.op = .call { callee := .builtin .append, args := #[s, x], argTypes := #[t, t] })
    (base : Nat) (e : TypeId) (i : TypeInfo) (z : Value) (size bytes : Nat) (ht : P.underlying t = some (.slice e)) (hi : P.info? e = some i) (hz : i.zero = some z)
    (hsize : i.size = size) (hby : i.bytes = bytes) (hzs : z.cells.size = size) (hsz : 0 < size)
    (v : Value) (n : Nat) (xs : List Value) (hs : a.eval s = v) (hown : w.ownsRow base e size v n xs)
    (ad : Addr) (m c : Nat) (news : List Value) (hx : a.eval x = .slice (some ad) m c) (hl : news.length = m * size) (hnews : ∀ j u, news[j]? = some u → w.cell? (ad.add j) = some u) (h1 : ∀ u ∈ news, u.oneCell' = true)
    (h63 : n + m ≤ maxLen) (hbytes : (n + m) * bytes ≤ 140737488355328) (hbase : base ≤ w.heap.size)
    (h : ∀ v' w', w'.ownsRow base e size v' (n + m) (xs ++ news) → w.grownBy w' v.ownBlock → (v'.ownBlock = v.ownBlock ∨ v'.ownBlock = some w.heap.size) → wpList P ops Q rest (a.put o.dst v') w') : wpList P ops Q (o :: rest) a w :=
  wpList_plain hgd fun _ hK => wp_app_at s x t ho base e i z size bytes ht hi hz hsize hby hzs hsz v n xs hs hown ad m c news hx hl hnews h1 h63 hbytes hbase fun v' w' h2 h3 h4 => hK _ _ (h v' w' h2 h3 h4)

structure Gr (w w' : World) (b0 b : Value) : Prop where
  g : w.grownBy w' b0.ownBlock
  l : b.ownBlock = b0.ownBlock ∨ ∃ k, b.ownBlock = some k ∧ w.heap.size ≤ k

theorem Gr.refl (w : World) (b : Value) : Gr w w b b := ⟨⟨rfl, rfl, rfl, Nat.le_refl _, fun _ _ _ => rfl⟩, .inl rfl⟩
theorem Gr.trans {w w1 w2 : World} {b0 b1 b2 : Value} (h1 : Gr w w1 b0 b1) (h2 : Gr w1 w2 b1 b2) : Gr w w2 b0 b2 := by
  refine ⟨h1.g.andThen h2.g (fun j hj => ?_), ?_⟩
  · rcases h1.l with e | ⟨k, e, hk⟩
    · exact .inr (e ▸ hj)
    · rw [e] at hj; injection hj with hj; exact .inl (by omega)
  · rcases h2.l with e | ⟨k, e, hk⟩
    · rw [e]; exact h1.l
    · exact .inr ⟨k, e, Nat.le_trans h1.g.size hk⟩
theorem Gr.alloc {w w1 : World} {b0 b : Value} (h : Gr w w1 b0 b) (o : Obj) : Gr w (w1.alloc o) b0 b :=
  h.trans ⟨World.grownBy_alloc w1 o _, .inl rfl⟩
theorem Gr.app {w w1 : World} {b b' : Value} (h : w.grownBy w1 b.ownBlock) (hl : b'.ownBlock = b.ownBlock ∨ b'.ownBlock = some w.heap.size) : Gr w w1 b b' :=
  ⟨h, hl.imp id (fun e => ⟨_, e, Nat.le_refl _⟩)⟩
theorem Gr.below {w w1 : World} {b b' : Value} {B : Nat} (h : Gr w w1 b b') (hB : B ≤ w.heap.size) (hb : ∀ k, b.ownBlock = some k → B ≤ k) : Below B w w1 :=
  (Below.refl B w).grown h.g hB hb
theorem Gr.of_below {w w1 : World} {b : Value} (h : Below w.heap.size w w1) : Gr w w1 b b :=
  ⟨⟨h.os, h.tape, h.output, h.size, fun k hk _ => h.block k hk⟩, .inl rfl⟩

end Go.Proofs.YtbimcammjohaoadGreatDoor

namespace Go.Proofs.YtbimcammjohaoadGreatDoor
open Go.ChangeShapes Go.WideShapes Go.ChangeAt Go.RowKit Go.Maps
set_option linter.unusedVariables false
set_option linter.unusedSimpArgs false

set_option maxRecDepth 100000 in
set_option maxHeartbeats 800000 in
theorem appendUvG (B m0 : Nat) (bv : Value) (zs0 : List Int) (w : World) (hm : m0 < 18446744073709551616) (hB : B ≤ w.heap.size) (hl : zs0.length ≤ 1000000000000) (ho : Own w B bv zs0) :
    Calls Tryz.prog 40 #[bv, .int .u64 (m0 : Int)] w fun e w' => ∃ v, e = .returned v ∧ Own w' B v (zs0 ++ uvF 9 m0) ∧ Gr w w' bv v ∧ w.heap.size < w'.heap.size := by
  obtain ⟨i0, hi, hz0, hz1, hz2⟩ := info_parts Tryz.infoByte
  go_enter Tryz.func40, Tryz.ntmps40
  go_wp2_with fail
  go_loopw [0, 1] (fun b v wr => ∃ (k m : Nat) (zs : List Int), k ≤ 9 ∧ m < 128 ^ (k + 1) ∧ m < 18446744073709551616 ∧ v = .int .u64 (m : Int) ∧ Own wr B b zs ∧ Gr w wr bv b ∧ w.heap.size ≤ wr.heap.size ∧ zs.length + k ≤ zs0.length + 9 ∧ zs ++ uvF k m = zs0 ++ uvF 9 m0) (fun _ v _ => (intOf v).toNat)
  case atStart => exact ⟨9, m0, zs0, Nat.le_refl _, by omega, hm, rfl, ho, Gr.refl _ _, Nat.le_refl _, Nat.le_refl _, rfl⟩
  case round =>
    obtain ⟨k, m, zs, hk, hmk, hm64, rfl, hown, hbel, hsz, hlen, heq⟩ := hrel
    have HE : Hid (zs ++ uvF k m = zs0 ++ uvF 9 m0) := heq
    have HK : Hid (m < 128 ^ (k + 1)) := hmk
    have HGR := hid hbel
    clear heq ho hmk hbel
    unfold Own at hown
    by_cases hlt : m < 128
    · go_wp2_with (at_builtin; refine wpList_app_at rfl _ _ 22 rfl B 5 i0 (.int .u8 0) 1 1 Tryz.underlying22 hi hz0 hz1 hz2 rfl (by decide) _ _ _ rfl (hown.alloc _) ⟨wr.heap.size, 0, none⟩ 1 1 [.int .u8 (m : Int)] rfl rfl ?c1 ?c2 ?c3 ?c4 ?c5 ?_)
      case c1 => exact cell_one_new _ _ _
      case c2 => intro u hu; simp at hu; subst hu; rfl
      case c3 => unfold maxLen; omega
      case c4 => omega
      case c5 => simp; omega
      · intro v' w1 hown' hgr hloc
        have R : Own w1 B v' (zs0 ++ uvF 9 m0) := by
          rw [← HE.out, uvF_lt k m hlt]
          unfold Own
          rw [List.length_append, List.map_append]
          exact hown'
        have RB := hid ((HGR.out.alloc _).trans (Gr.app (b' := v') hgr (by simpa using hloc)))
        have RZ := hgr.size
        simp at RZ
        clear hown' hgr hown hloc HGR
        go_wp2
        go_ret
        exact ⟨v', rfl, R, RB.out, by omega⟩
    · have e1 := and127 m hm64
      have e2 : bits BinOp.or IntKind.u8 ((m : Int) % 128) 128 = 128 + (m : Int) % 128 := by
        have := or128 (m % 128) (by omega)
        simpa using this
      go_wp2_with (at_builtin; refine wpList_app_at rfl _ _ 22 rfl B 5 i0 (.int .u8 0) 1 1 Tryz.underlying22 hi hz0 hz1 hz2 rfl (by decide) _ _ _ rfl (hown.alloc _) ⟨wr.heap.size, 0, none⟩ 1 1 [.int .u8 (128 + (m : Int) % 128)] rfl rfl ?d1 ?d2 ?d3 ?d4 ?d5 ?_)
      case d1 => exact cell_one_new _ _ _
      case d2 => intro u hu; simp at hu; subst hu; rfl
      case d3 => unfold maxLen; omega
      case d4 => omega
      case d5 => simp; omega
      · intro v' w1 hown' hgr hloc
        have hk1 : 1 ≤ k := by
          have := HK.out
          rcases Nat.eq_zero_or_pos k with rfl | h
          · simp at this; omega
          · exact h
        obtain ⟨j, rfl⟩ : ∃ j, k = j + 1 := ⟨k - 1, by omega⟩
        have R : Own w1 B v' (zs ++ [128 + (m : Int) % 128]) := by
          unfold Own
          rw [List.length_append, List.map_append]
          exact hown'
        have RE : Hid (zs ++ [128 + (m : Int) % 128] ++ uvF j (m / 128) = zs0 ++ uvF 9 m0) := by
          have := HE.out
          rw [uvF_ge j m hlt] at this
          show _ = _
          rw [← this]; simp
        have RK : Hid (m / 128 < 128 ^ (j + 1)) := by
          have := HK.out
          rw [Nat.pow_succ] at this
          show _ < _
          omega
        have RB := hid ((HGR.out.alloc _).trans (Gr.app (b' := v') hgr (by simpa using hloc)))
        have RZ := hgr.size
        simp at RZ
        clear hown' hgr hown HE HK e2 e1 hloc HGR
        go_wp2
        go_roundw
        case rel => exact ⟨j, m / 128, _, by omega, RK.out, by omega, by go_num, R, RB.out, by omega, by simp; omega, RE.out⟩
        case measure => simp [intOf]; omega
end Go.Proofs.YtbimcammjohaoadGreatDoor
