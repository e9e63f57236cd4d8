import Derived.Test.YtkhicohhahaahaaRrb
import Derived.Test.YtkhicohhahaahaaMks
import Derived.RangeFuncRecord
namespace Go.Proofs.Ytkhicohhahaahaa
open Go.ChangeShapes Go.WideShapes Go.ChangeAt Go.RowKit
set_option linter.unusedVariables false
set_option linter.unusedSimpArgs false

def sRow (ts : List ByteArray) : List Value := ts.map Value.string
theorem sRow_len (ts : List ByteArray) : (sRow ts).length = ts.length := by simp [sRow]
theorem own_sseg {w : World} {B : Nat} {v : Value} {ts : List ByteArray} (h : w.ownsRow B 9 1 v ts.length (sRow ts)) : ∃ a c, v = .slice a ts.length c ∧ SSeg w a ts ∧ ts.length ≤ c ∧ c ≤ 9223372036854775807 := by
  rcases h.2 with ⟨rfl, h0⟩ | ⟨g, cap, cur, rfl, hbase, hb, h1, h2, h3, h4⟩
  · exact ⟨none, 0, by rw [h0], .inl h0, by omega, by omega⟩
  · refine ⟨_, cap, rfl, .inr ⟨g, 0, rfl, (Array.getElem?_eq_some_iff.1 hb).1, fun i hi => ?_⟩, h1, by unfold maxLen at h2; omega⟩
    have q : w.cell? ⟨g, i, none⟩ = (sRow ts)[i]? := by
      rw [← h4, Nat.mul_one, List.getElem?_take_of_lt hi]
      simp [World.cell?, hb]
    rw [Nat.zero_add, q]
    simp [sRow, gS, List.getD, hi]
theorem own_atS {w w' : World} {B e size n : Nat} {v : Value} {xs : List Value} (h : w.ownsRow B e size v n xs) (hk : ∀ g, v.ownBlock = some g → w'.heap[g]? = w.heap[g]?) : w'.ownsRow B e size v n xs := by
  obtain ⟨q1, q2⟩ := h
  refine ⟨q1, ?_⟩
  rcases q2 with q2 | ⟨g, cap, cur, e, hbg, hb, r⟩
  · exact .inl q2
  · subst e; exact .inr ⟨g, cap, cur, rfl, hbg, (hk g rfl).trans hb, r⟩
theorem own_lowS {w w' : World} {B e size n : Nat} {v : Value} {xs : List Value} (h : w.ownsRow B e size v n xs) (hb : Below w.heap.size w w') : w'.ownsRow B e size v n xs := own_atS h fun g hg => hb.block g (h.lt g hg).2
theorem own_weak {w : World} {B B' e size n : Nat} {v : Value} {xs : List Value} (h : w.ownsRow B e size v n xs) (hB : B' ≤ B) : w.ownsRow B' e size v n xs := by
  obtain ⟨q1, q2⟩ := h
  refine ⟨q1, ?_⟩
  rcases q2 with q2 | ⟨g, cap, cur, e, hbg, r⟩
  · exact .inl q2
  · exact .inr ⟨g, cap, cur, e, Nat.le_trans hB hbg, r⟩
theorem appS (base : Nat) (w : World) (v : Value) (xs ns : List ByteArray) (a : Addr) (c : Nat) (ho : w.ownsRow base 9 1 v xs.length (sRow xs)) (hn : ∀ i, i < ns.length → w.cell? (a.add i) = some (.string (gS ns i))) (hm : xs.length + ns.length ≤ 4194304) (hb : base ≤ w.heap.size) :
    ∃ v' w', (Builtin.append_ #[28, 28] 28 #[v, .slice (some a) ns.length c]).run Try.prog w = .ok v' w' ∧ w'.ownsRow base 9 1 v' (xs ++ ns).length (sRow (xs ++ ns)) ∧ w.grownBy w' v.ownBlock ∧ Below base w w' ∧ (v ≠ .slice none 0 0 → v' ≠ .slice none 0 0) := by
  obtain ⟨i0, hi, hz0, hz1, hz2⟩ := info_parts infoStr
  obtain ⟨v', w', h1, h2, h3, h4⟩ := run_append_own (P := Try.prog) w base 28 28 9 i0 (.string ByteArray.empty) 1 16 Try.underlying28 hi hz0 hz1 hz2 rfl (by decide) v xs.length (sRow xs) ho a ns.length c (sRow ns) (by rw [sRow_len]; omega) (fun j u hu => by
    have hj : j < ns.length := by
      by_cases e : j < ns.length
      · exact e
      · rw [List.getElem?_eq_none (by rw [sRow_len]; omega)] at hu; cases hu
    rw [hn j hj, ← hu]
    simp [sRow, gS, List.getD, hj]) (fun u hu => by
      obtain ⟨s, _, rfl⟩ := List.mem_map.1 hu
      rfl) (by unfold maxLen; omega) (by omega) hb
  refine ⟨v', w', h1, ?_, h3, ?_, fun hv e => hv (h4.1 e).1⟩
  · rw [List.length_append]; simpa [sRow] using h2
  · exact (Below.refl base w).grown h3 hb (fun k hk => (ho.lt k hk).1)

theorem own_some {w : World} {B : Nat} {v : Value} {ts : List ByteArray} (h : w.ownsRow B 9 1 v ts.length (sRow ts)) (hne : v ≠ .slice none 0 0) : ∃ g c, v = .slice (some ⟨g, 0, none⟩) ts.length c ∧ B ≤ g ∧ g < w.heap.size ∧ ts.length ≤ c ∧ c ≤ 9223372036854775807 ∧ ∀ i, i < ts.length → w.cell? ⟨g, i, none⟩ = some (.string (gS ts i)) := by
  rcases h.2 with ⟨rfl, h0⟩ | ⟨g, cap, cur, rfl, hbase, hb, h1, h2, h3, h4⟩
  · exact absurd rfl hne
  · refine ⟨g, cap, rfl, hbase, (Array.getElem?_eq_some_iff.1 hb).1, h1, by unfold maxLen at h2; omega, fun i hi => ?_⟩
    have q : w.cell? ⟨g, i, none⟩ = (sRow ts)[i]? := by
      rw [← h4, Nat.mul_one, List.getElem?_take_of_lt hi]
      simp [World.cell?, hb]
    rw [q]
    simp [sRow, gS, List.getD, hi]
theorem wp_app {P : Program} {o : Oper} {a : Act} {w w' : World} {K : Act → World → Prop} {Q : Exit → Act → World → Prop} (s x : Operand) (t : TypeId) (ho : o.op = .call { callee := .builtin .append, args := #[s, x], argTypes := #[t, t] }) {v u v' : Value} {t' : TypeId} (hr : (Builtin.append_ #[t, t] t' #[v, u]).run P w = .ok v' w') (hs : a.eval s = v) (hx : a.eval x = u) (ht : o.type = t') (h : K (a.put o.dst v') w') : Oper.wp P o a w K Q := by
  subst ht
  unfold Oper.wp execOp
  simp only [ho, resolve, invoke, builtin, Sem.run_bind, Sem.run_pure, Result.andThen_ok, List.map_toArray, List.map_cons, List.map_nil, hs, hx, hr]
  exact h
theorem wpList_appS {P : Program} {ops : Array Oper} {rest : List Oper} {o : Oper} {a : Act} {w w' : World} {Q : Exit → Act → World → Prop} (hgd : o.guard = none) (s x : Operand) (t : TypeId) (ho : o.op = .call { callee := .builtin .append, args := #[s, x], argTypes := #[t, t] }) {v u v' : Value} {t' : TypeId} (hr : (Builtin.append_ #[t, t] t' #[v, u]).run P w = .ok v' w') (hs : a.eval s = v) (hx : a.eval x = u) (ht : o.type = t') (h : wpList P ops Q rest (a.put o.dst v') w') : wpList P ops Q (o :: rest) a w := by
  refine wpList_plain hgd fun K hK => ?_
  exact wp_app s x t ho hr hs hx ht (hK _ _ h)
set_option maxRecDepth 100000 in
set_option maxHeartbeats 4000000 in
theorem onceC (a : Option Addr) (c : Nat) (vs : List ByteArray) (w : World) (hn : vs.length ≤ 1048576) (h : SSeg w a vs) :
    Calls Try.prog 20 #[.slice a vs.length c] w fun e w' => (∃ v ts, e = .returned v ∧ w'.ownsRow w.heap.size 9 1 v ts.length (sRow ts) ∧ OnceOf vs ts ∧ ts.length ≤ vs.length) ∧ Below w.heap.size w w' := by
  obtain ⟨W, hW⟩ : ∃ W, w.alloc (.cells #[] 9) = W := ⟨_, rfl⟩
  have b0 : Below w.heap.size w W := by rw [← hW]; exact (Below.refl _ _).alloc (Nat.le_refl _) _
  have O0 : W.ownsRow w.heap.size 9 1 (.slice (some ⟨w.heap.size, 0, none⟩) 0 0) 0 [] := ⟨rfl, .inr ⟨w.heap.size, 0, #[], rfl, Nat.le_refl _, by rw [← hW]; exact World.alloc_heap_new _ _, by omega, by unfold maxLen; omega, rfl, rfl⟩⟩
  have HS := hid h
  have HB0 := hid b0
  have HO0 := hid O0
  clear h b0 O0
  go_enter Try.func20, Try.ntmps20
  go_wp2_with fail
  try rw [hW]
  clear hW
  go_loopw [3, 4] (fun o i wr => ∃ k : Nat, k ≤ vs.length ∧ i = .int .i64 k ∧ (∃ ts, ts.length ≤ k ∧ Hid (wr.ownsRow w.heap.size 9 1 o ts.length (sRow ts)) ∧ Hid (OnceOf (vs.take k) ts) ∧ Hid (o ≠ .slice none 0 0)) ∧ Hid (Below w.heap.size w wr)) (fun _ i _ => vs.length - (intOf i).toNat)
  case atStart => exact ⟨0, Nat.zero_le _, rfl, ⟨[], by simp, HO0, hid ⟨List.Pairwise.nil, fun s => by simp⟩, hid (by simp)⟩, HB0⟩
  case round =>
    clear HO0 HB0
    obtain ⟨k, hk, rfl, ⟨ts, htk, HO, HT, HNE⟩, HB⟩ := hrel
    obtain ⟨wo, ewo⟩ : ∃ wo, wo = wr := ⟨_, rfl⟩
    subst ewo
    by_cases hlt : k < vs.length
    · rcases HS.out with h | ⟨vb, voff, rfl, hvb, hvc⟩
      · omega
      obtain ⟨ob, co, rfl, hob1, hob2, hco, hcm, hoc⟩ := own_some HO.out HNE.out
      have x0 := (HB.out.cell (p := ⟨vb, voff + k, none⟩) hvb).trans (hvc k hlt)
      have hvb' : vb < wo.heap.size := Nat.lt_of_lt_of_le hvb HB.out.size
      obtain ⟨s, hs⟩ : ∃ s, gS vs k = s := ⟨_, rfl⟩
      rw [hs] at x0
      have HTk : Hid (vs.take (k + 1) = vs.take k ++ [s]) := hid (by rw [List.take_add_one, ← hs]; simp [gS, List.getD, hlt])
      have HOC := hid hoc
      have i1 : (0 : Int) ≤ (k : Int) := Int.natCast_nonneg _
      have i2 : (k : Int) < (vs.length : Int) := by omega
      have X0 := hid x0
      clear hvc hs hoc x0
      go_wp2_with fail
      go_loopw [5] (fun q wq => ∃ j : Nat, j ≤ ts.length ∧ q = .int .i64 j ∧ Hid (∀ i, i < j → cmpS (gS ts i) s < 0) ∧ Hid (Below wo.heap.size wo wq)) (fun q _ => ts.length - (intOf q).toNat)
      case atStart => exact ⟨0, Nat.zero_le _, rfl, hid (fun i hi => by omega), hid (Below.refl _ _)⟩
      case round =>
        obtain ⟨wq, ewq⟩ : ∃ wq, wq = wr := ⟨_, rfl⟩
        subst ewq
        obtain ⟨j, hj, rfl, HJ, HQ⟩ := hrel
        have y0 := (HQ.out.cell (p := ⟨vb, voff + k, none⟩) hvb').trans X0.out
        by_cases hjl : j < ts.length
        · have t0 := (HQ.out.cell (p := ⟨ob, j, none⟩) hob2).trans (HOC.out j hjl)
          obtain ⟨t, ht⟩ : ∃ t, gS ts j = t := ⟨_, rfl⟩
          rw [ht] at t0
          have HTj := hid ht
          have dj : decide ((j : Int) < (ts.length : Int)) = true := by simp; omega
          have dj2 : decide (j < ts.length) = true := by simp; omega
          have j0 : (0 : Int) ≤ (j : Int) := Int.natCast_nonneg _
          have j1 : (j : Int) < (ts.length : Int) := by omega
          clear ht
          cases hless : Op.bytesLess t.toList s.toList with
          | true =>
            have HL := hid (cmpS_neg.2 hless)
            go_wp2_with fail
            go_quiet (fail)
            have HQ2 := hid (below_drewS HQ.out nq)
            go_wp2_with fail
            go_roundw
            case rel =>
              refine ⟨j + 1, hjl, by go_num, hid (fun i hi => ?_), HQ2⟩
              by_cases e : i = j
              · subst e; rw [HTj.out]; exact HL.out
              · exact HJ.out i (by omega)
            case measure => simp [intOf]; omega
          | false =>
            have HNL : Hid (¬ cmpS t s < 0) := hid (fun h => by rw [cmpS_neg.1 h] at hless; cases hless)
            have de : ((j : Int) == (ts.length : Int)) = false := by simp; omega
            have de2 : (j == ts.length) = false := by simp; omega
            go_wp2_with fail
            go_quiet (fail)
            go_wp2_with fail
            obtain ⟨wz, hwz⟩ : ∃ wz, wq.drewN nq = wz := ⟨_, rfl⟩
            have HQz : Hid (Below wo.heap.size wo wz) := hid (by rw [← hwz]; exact below_drewS HQ.out nq)
            have yz : wz.cell? ⟨vb, voff + k, none⟩ = some (.string s) := by rw [← hwz]; exact y0
            have tz : wz.cell? ⟨ob, j, none⟩ = some (.string t) := by rw [← hwz]; exact t0
            rw [hwz]
            clear hwz y0 t0 HQ hless
            cases heq : (t.toList == s.toList) with
            | true =>
              have HEQ : Hid (t = s) := hid (toList_inj (by simpa using heq))
              go_quiet (fail)
              go_wp2_with fail
              have HZ : Hid (Below wo.heap.size wo (wz.drewN nq)) := hid (below_drewS HQz.out nq)
              have HO2 := hid (own_lowS HO.out HZ.out)
              have HBz := hid (HB.out.trans (HZ.out.mono HB.out.size))
              go_roundw
              case rel =>
                refine ⟨k + 1, hlt, by go_num, ⟨ts, by omega, HO2, hid ⟨HT.out.1, fun r => ?_⟩, HNE⟩, HBz⟩
                rw [HTk.out, List.mem_append, List.mem_singleton, HT.out.2]
                refine ⟨.inl, fun h => h.elim id fun e => ?_⟩
                subst e
                rw [← HT.out.2, ← HEQ.out, ← HTj.out]
                simp [gS, List.getD, hjl]
              case measure => simp [intOf]; omega
            | false =>
              have HGT : Hid (j < ts.length → 0 < cmpS (gS ts j) s) := hid (fun _ => by
                have h1 := HNL.out
                have h2 : cmpS t s ≠ 0 := fun e => by rw [cmpS_z.1 e] at heq; simp at heq
                rw [HTj.out]; omega)
              go_quiet (fail)
              go_wp2_with fail
              obtain ⟨wy, hwy⟩ : ∃ wy, wz.drewN nq = wy := ⟨_, rfl⟩
              have HQy : Hid (Below wo.heap.size wo wy) := hid (by rw [← hwy]; exact below_drewS HQz.out nq)
              have yy : wy.cell? ⟨vb, voff + k, none⟩ = some (.string s) := by rw [← hwy]; exact yz
              have hzy : Hid (wy.heap.size = wz.heap.size) := hid (by rw [← hwy]; first | rfl | simp)
              try rw [hwy]
              clear hwy yz tz HQz heq
              obtain ⟨w1, hw1⟩ : ∃ w1, wy.alloc (.cells #[] 9) = w1 := ⟨_, rfl⟩
              have b1 : Below wz.heap.size wy w1 := by rw [← hw1]; exact (Below.refl _ _).alloc (Nat.le_of_eq hzy.out.symm) _
              have O1 : w1.ownsRow wz.heap.size 9 1 (.slice (some ⟨wz.heap.size, 0, none⟩) ([] : List ByteArray).length 0) ([] : List ByteArray).length (sRow []) := ⟨rfl, .inr ⟨wz.heap.size, 0, #[], rfl, Nat.le_refl _, by rw [← hw1, ← hzy.out]; exact World.alloc_heap_new _ _, by simp, by unfold maxLen; omega, rfl, rfl⟩⟩
              have hvy : vb < wz.heap.size := by have h1 := Nat.lt_of_lt_of_le hvb' HQy.out.size; rw [hzy.out] at h1; exact h1
              have hoy : ob < wz.heap.size := by have h1 := Nat.lt_of_lt_of_le hob2 HQy.out.size; rw [hzy.out] at h1; exact h1
              have hoc1 : ∀ i, i < ts.length → w1.cell? ⟨ob, i, none⟩ = some (.string (gS ts i)) := fun i hi => (b1.cell (p := ⟨ob, i, none⟩) hoy).trans ((HQy.out.cell (p := ⟨ob, i, none⟩) hob2).trans (HOC.out i hi))
              have tk : (ts.take j).length = j := by simp; omega
              have htk2 : ∀ i, i < (ts.take j).length → gS (ts.take j) i = gS ts i := fun i hi => by simp [gS, List.getD, List.getElem?_take_of_lt (show i < j by omega)]
              have jj0 : (0 : Int) ≤ (j : Int) := Int.natCast_nonneg _
              have jj1 : (j : Int) ≤ (co : Int) := by omega
              have z1 : w1.heap.size = wz.heap.size + 1 := by rw [← hw1, ← hzy.out]; simp
              try rw [hw1]
              have HSS : Hid (∀ w', Below wz.heap.size wy w' → (Below wz.heap.size wy w' ∧ w'.cell? ⟨vb, voff + k, none⟩ = some (.string s))) := hid (fun w' hB => ⟨hB, (hB.cell (p := ⟨vb, voff + k, none⟩) hvy).trans yy⟩)
              have HZ1 := hid z1
              have Hb1 := hid b1
              have HO1 := hid O1
              have Hoc1 := hid hoc1
              have Htk := hid (And.intro tk htk2)
              clear hw1 b1 O1 hoc1 tk htk2 z1
              refine wp_region_held_drew (S := fun w' => Below wz.heap.size wy w' ∧ w'.cell? ⟨vb, voff + k, none⟩ = some (.string s)) (by kernel_rfl) (HSS.out _ Hb1.out.drew) (fun hHeld => ?_)
              refine take1 (i := 0) (d := some 47) (v := ?_) (by kernel_rfl) (by kernel_rfl) (by kernel_rfl) (by kernel_rfl) (fun _ _ _ h => h) ?_ hHeld ?_
              rotate_left
              · (intro o ho; simp only [List.getElem?_toArray, List.getElem?_cons_succ, List.getElem?_cons_zero, Option.some.injEq] at ho; subst ho; refine Or.inl ⟨by rfl, ?_⟩; intro w hSw; (try dsimp only at hSw); go_simp; try with_reducible rfl)
              try simp only [Act.put, List.setIfInBounds_toArray, List.set_cons_zero, List.set_cons_succ]
              refine take1 (i := 1) (d := some 48) (v := ?_) (by kernel_rfl) (by kernel_rfl) (by kernel_rfl) (by kernel_rfl) (fun _ _ _ h => h) ?_ hHeld ?_
              rotate_left
              · (intro o ho; simp only [List.getElem?_toArray, List.getElem?_cons_succ, List.getElem?_cons_zero, Option.some.injEq] at ho; subst ho; refine Or.inl ⟨by rfl, ?_⟩; intro w hSw; (try dsimp only at hSw); go_simp; try with_reducible rfl)
              try simp only [Act.put, List.setIfInBounds_toArray, List.set_cons_zero, List.set_cons_succ]
              refine take1 (i := 2) (d := some 49) (v := ?_) (by kernel_rfl) (by kernel_rfl) (by kernel_rfl) (by kernel_rfl) (fun _ _ _ h => h) ?_ hHeld ?_
              rotate_left
              · (intro o ho; simp only [List.getElem?_toArray, List.getElem?_cons_succ, List.getElem?_cons_zero, Option.some.injEq] at ho; subst ho; refine Or.inl ⟨by rfl, ?_⟩; intro w hSw; (try dsimp only at hSw); go_simp; try with_reducible rfl)
              try simp only [Act.put, List.setIfInBounds_toArray, List.set_cons_zero, List.set_cons_succ]
              refine take1 (i := 3) (d := some 50) (v := ?_) (by kernel_rfl) (by kernel_rfl) (by kernel_rfl) (by kernel_rfl) (fun _ _ _ h => h) ?_ hHeld ?_
              rotate_left
              · (intro o ho; simp only [List.getElem?_toArray, List.getElem?_cons_succ, List.getElem?_cons_zero, Option.some.injEq] at ho; subst ho; refine Or.inl ⟨by rfl, ?_⟩; intro w hSw; (try dsimp only at hSw); go_simp; try with_reducible rfl)
              try simp only [Act.put, List.setIfInBounds_toArray, List.set_cons_zero, List.set_cons_succ]
              refine take1 (i := 5) (d := some 52) (v := ?_) (by kernel_rfl) (by kernel_rfl) (by kernel_rfl) (by kernel_rfl) (fun _ _ _ h => h) ?_ hHeld ?_
              rotate_left
              · (intro o ho; simp only [List.getElem?_toArray, List.getElem?_cons_succ, List.getElem?_cons_zero, Option.some.injEq] at ho; subst ho; refine Or.inl ⟨by rfl, ?_⟩; intro w hSw; (try dsimp only at hSw); go_simp; try with_reducible rfl)
              try simp only [Act.put, List.setIfInBounds_toArray, List.set_cons_zero, List.set_cons_succ]
              refine take1 (i := 6) (d := some 53) (v := ?_) (by kernel_rfl) (by kernel_rfl) (by kernel_rfl) (by kernel_rfl) (fun _ _ _ h => h) ?_ hHeld ?_
              rotate_left
              · (intro o ho; simp only [List.getElem?_toArray, List.getElem?_cons_succ, List.getElem?_cons_zero, Option.some.injEq] at ho; subst ho; refine Or.inl ⟨by rfl, ?_⟩; intro w hSw; (try dsimp only at hSw); go_simp; try with_reducible rfl)
              try simp only [Act.put, List.setIfInBounds_toArray, List.set_cons_zero, List.set_cons_succ]
              refine take1 (i := 7) (d := some 54) (v := ?_) (by kernel_rfl) (by kernel_rfl) (by kernel_rfl) (by kernel_rfl) (fun _ _ _ h => h) ?_ hHeld ?_
              rotate_left
              · (intro o ho; simp only [List.getElem?_toArray, List.getElem?_cons_succ, List.getElem?_cons_zero, Option.some.injEq] at ho; subst ho; refine Or.inl ⟨by rfl, ?_⟩; intro w hSw; (try dsimp only at hSw); go_simp; try with_reducible rfl)
              try simp only [Act.put, List.setIfInBounds_toArray, List.set_cons_zero, List.set_cons_succ]
              refine take1 (i := 8) (d := some 55) (v := ?_) (by kernel_rfl) (by kernel_rfl) (by kernel_rfl) (by kernel_rfl) (fun _ _ _ h => h) ?_ hHeld ?_
              rotate_left
              · (intro o ho; simp only [List.getElem?_toArray, List.getElem?_cons_succ, List.getElem?_cons_zero, Option.some.injEq] at ho; subst ho; refine Or.inl ⟨by rfl, ?_⟩; intro w hSw; (try dsimp only at hSw); go_simp; try with_reducible rfl)
              try simp only [Act.put, List.setIfInBounds_toArray, List.set_cons_zero, List.set_cons_succ]
              refine ready2t (i := 4) (j := 9) (d := some 51) (d' := some 56) (by kernel_rfl) (by kernel_rfl) (by kernel_rfl) ?_ ?_
              ·
                obtain ⟨v1, w2, happ1, o1, g1, bl1, ne1⟩ := appS wz.heap.size w1.drew (.slice (some ⟨wz.heap.size, 0, none⟩) 0 0) [] (ts.take j) ⟨ob, 0, none⟩ co HO1.out (fun i hi => by rw [addr_addP, Nat.zero_add, Htk.out.2 i hi]; exact Hoc1.out i (by have := Htk.out.1; omega)) (by have := Htk.out.1; simp; omega) (by have h1 := HZ1.out; show wz.heap.size ≤ w1.heap.size; omega)
                rw [Htk.out.1] at happ1
                simp only [List.nil_append] at o1
                intro o ho hod K hK; simp only [List.getElem?_toArray, List.getElem?_cons_succ, List.getElem?_cons_zero, Option.some.injEq] at ho; subst ho
                refine wp_app _ _ _ rfl happ1 (by rfl) (by rfl) rfl ?_
                have hB2 : Below wz.heap.size wy w2 := Hb1.out.drew.trans bl1
                refine hK.out _ _ (HSS.out _ hB2) (fun hHeld => ?_)
                clear hK K
                try simp only [Act.put, List.setIfInBounds_toArray, List.set_cons_zero, List.set_cons_succ]
                clear happ1
                refine call1 (i := 9) (d := some 56) (by kernel_rfl) (by kernel_rfl) ?_
                intro o ho hod K hK; simp only [List.getElem?_toArray, List.getElem?_cons_succ, List.getElem?_cons_zero, Option.some.injEq] at ho; subst ho
                go_simp
                have hB3 : Below wz.heap.size wy (w2.alloc (.cells #[.string s] 9)) := hB2.alloc (by have h1 := hB2.size; have h2 := hzy.out; omega) _
                refine hK.out _ _ (HSS.out _ hB3) (fun hHeld => ?_)
                clear hK K
                try simp only [Act.put, List.setIfInBounds_toArray, List.set_cons_zero, List.set_cons_succ]
                obtain ⟨v2, w4, happ2, o4, g4, bl4, ne4'⟩ := appS wz.heap.size (w2.alloc (.cells #[.string s] 9)) v1 (ts.take j) [s] ⟨w2.heap.size, 0, none⟩ 1 (o1.alloc _) (fun i hi => by (obtain rfl : i = 0 := (by simpa using hi)); simp [Addr.add, gS]) (by have := Htk.out.1; simp; omega) (by have h1 := hB2.size; have h2 := hzy.out; simp; omega)
                simp only [List.length_cons, List.length_nil, Nat.zero_add] at happ2
                refine call1 (i := 10) (d := some 57) (by kernel_rfl) (by kernel_rfl) ?_
                intro o ho hod K hK; simp only [List.getElem?_toArray, List.getElem?_cons_succ, List.getElem?_cons_zero, Option.some.injEq] at ho; subst ho
                refine wp_app _ _ _ rfl happ2 (by rfl) (by rfl) rfl ?_
                have hB4 : Below wz.heap.size wy w4 := hB3.trans bl4
                refine hK.out _ _ (HSS.out _ hB4) (fun hHeld => ?_)
                clear hK K
                try simp only [Act.put, List.setIfInBounds_toArray, List.set_cons_zero, List.set_cons_succ]
                refine take1 (i := 11) (d := some 6) (v := ?_) (by kernel_rfl) (by kernel_rfl) (by kernel_rfl) (by kernel_rfl) (fun _ _ _ h => h) ?_ hHeld ?_
                rotate_left
                · (intro o ho; simp only [List.getElem?_toArray, List.getElem?_cons_succ, List.getElem?_cons_zero, Option.some.injEq] at ho; subst ho; refine Or.inl ⟨by rfl, ?_⟩; intro w hSw; (try dsimp only at hSw); go_simp; try with_reducible rfl)
                try simp only [Act.put, List.setIfInBounds_toArray, List.set_cons_zero, List.set_cons_succ]
                refine wpAnyH_done (by kernel_rfl) ?_ _
                have ne4 := ne4' (ne1 (by simp))
                clear happ2 g1 g4 bl1 bl4 hB2 hB3 o1 ne1 ne4'
                have HB4 : Hid (Below wz.heap.size wy w4) := hid hB4
                have HO4 := hid o4
                have HNE4 : Hid (v2 ≠ .slice none 0 0) := hid ne4
                have HS4 : Hid (∀ i, i < ts.length → w4.cell? ⟨ob, i, none⟩ = some (.string (gS ts i))) := hid (fun i hi => (hB4.cell (p := ⟨ob, i, none⟩) hoy).trans ((HQy.out.cell (p := ⟨ob, i, none⟩) hob2).trans (HOC.out i hi)))
                clear hHeld hB4 o4 ne4
                obtain ⟨gm, cm, rfl, hgm1, hgm2, hcm1, hcm2, hgmc⟩ := own_some HO4.out HNE4.out
                clear hgmc
                obtain ⟨m1, hm1⟩ : ∃ m1, (ts.take j ++ [s]).length = m1 := ⟨_, rfl⟩
                have HO5 : Hid (w4.ownsRow wz.heap.size 9 1 (.slice (some ⟨gm, 0, none⟩) m1 cm) (ts.take j ++ [s]).length (sRow (ts.take j ++ [s]))) := hid (by have h1 := HO4.out; rw [hm1] at h1 ⊢; exact h1)
                simp only [hm1]
                rw [hm1] at hcm1
                have HM1 : Hid (m1 = j + 1) := hid (by rw [← hm1]; simp; omega)
                clear hm1 HO4 HNE4
                have jl0 : (j : Int) ≤ (ts.length : Int) := by omega
                have HTN : Hid (OnceOf (vs.take (k + 1)) (ts.take j ++ [s] ++ ts.drop j)) := hid ⟨once_in HT.out.1 hj HJ.out HGT.out, fun r => by
                  rw [HTk.out, List.mem_append, List.mem_append, List.mem_append, ← HT.out.2]
                  have e : r ∈ ts ↔ r ∈ ts.take j ∨ r ∈ ts.drop j := by rw [← List.mem_append, List.take_append_drop]
                  rw [e]
                  exact ⟨fun h => h.elim (fun h => h.elim (fun h => .inl (.inl h)) .inr) (fun h => .inl (.inr h)), fun h => h.elim (fun h => h.elim (fun h => .inl (.inl h)) .inr) (fun h => .inl (.inr h))⟩⟩
                have HLN : Hid ((ts.take j ++ [s] ++ ts.drop j).length ≤ k + 1) := hid (by simp; omega)
                have HZW : Hid (w.heap.size ≤ wz.heap.size ∧ wz.heap.size ≤ w4.heap.size) := hid ⟨by have h1 := HB.out.size; have h2 := HQy.out.size; have h3 := hzy.out; omega, by have h1 := HB4.out.size; have h2 := hzy.out; omega⟩
                have HFIN : Hid (∀ v3 w5, w5.ownsRow wz.heap.size 9 1 v3 (ts.take j ++ [s] ++ ts.drop j).length (sRow (ts.take j ++ [s] ++ ts.drop j)) → Below wz.heap.size w4 w5 → w5.ownsRow w.heap.size 9 1 v3 (ts.take j ++ [s] ++ ts.drop j).length (sRow (ts.take j ++ [s] ++ ts.drop j)) ∧ Below w.heap.size w w5) := hid (fun v3 w5 h1 h2 => ⟨own_weak h1 HZW.out.1, HB.out.trans ((HQy.out.mono HB.out.size).trans ((HB4.out.trans h2).mono HZW.out.1))⟩)
                have HLEN : Hid ((ts.drop j).length = ts.length - j) := hid (by simp)
                by_cases hjc : j < co
                · have hjc2 : (j : Int) < (co : Int) := by omega
                  obtain ⟨v3, w5, happ3, o5, g5, bl5, ne5⟩ := appS wz.heap.size w4 (.slice (some ⟨gm, 0, none⟩) m1 cm) (ts.take j ++ [s]) (ts.drop j) ⟨ob, j, none⟩ (co - j) HO5.out (fun i hi => by rw [addr_addP]; exact (HS4.out (j + i) (by have := HLEN.out; omega)).trans (by simp [gS, List.getD])) (by simp; omega) HZW.out.2
                  rw [HLEN.out] at happ3
                  obtain ⟨o6, b6⟩ := HFIN.out v3 w5 o5 bl5
                  have HO6 := hid o6
                  have HB6 := hid b6
                  have HNE6 : Hid (v3 ≠ .slice none 0 0) := hid (ne5 (by simp))
                  clear o5 o6 b6 bl5 g5 ne5
                  go_wp2_with (at_builtin; refine wpList_appS rfl _ _ _ rfl happ3 (by rfl) (by rfl) rfl ?_; clear happ3)
                  go_roundw
                  case rel => exact ⟨k + 1, hlt, by go_num, ⟨_, HLN.out, HO6, HTN, HNE6⟩, HB6⟩
                  case measure => simp [intOf]; omega
                · have hjc2 : ¬ (j : Int) < (co : Int) := by omega
                  by_cases hjt : j < ts.length
                  · exfalso; omega
                  obtain ⟨v3, w5, happ3, o5, g5, bl5, ne5⟩ := appS wz.heap.size w4 (.slice (some ⟨gm, 0, none⟩) m1 cm) (ts.take j ++ [s]) (ts.drop j) ⟨ob, 0, none⟩ (co - j) HO5.out (fun i hi => by have := HLEN.out; omega) (by simp; omega) HZW.out.2
                  rw [HLEN.out] at happ3
                  obtain ⟨o6, b6⟩ := HFIN.out v3 w5 o5 bl5
                  have HO6 := hid o6
                  have HB6 := hid b6
                  have HNE6 : Hid (v3 ≠ .slice none 0 0) := hid (ne5 (by simp))
                  clear o5 o6 b6 bl5 g5 ne5
                  go_wp2_with (at_builtin; refine wpList_appS rfl _ _ _ rfl happ3 (by rfl) (by first | rfl | (exfalso; omega) | (go_simp; done) | (go_simp; omega)) rfl ?_; clear happ3)
                  go_roundw
                  case rel => exact ⟨k + 1, hlt, by go_num, ⟨_, HLN.out, HO6, HTN, HNE6⟩, HB6⟩
                  case measure => simp [intOf]; omega
              ·
                intro o ho hod K hK; simp only [List.getElem?_toArray, List.getElem?_cons_succ, List.getElem?_cons_zero, Option.some.injEq] at ho; subst ho
                go_simp
                have hB2 : Below wz.heap.size wy (w1.drew.alloc (.cells #[.string s] 9)) := Hb1.out.drew.alloc (by have h1 := HZ1.out; show wz.heap.size ≤ w1.heap.size; omega) _
                refine hK.out _ _ (HSS.out _ hB2) (fun hHeld => ?_)
                clear hK K
                try simp only [Act.put, List.setIfInBounds_toArray, List.set_cons_zero, List.set_cons_succ]
                obtain ⟨v1, w3, happ1, o1, g1, bl1, ne1⟩ := appS wz.heap.size (w1.drew.alloc (.cells #[.string s] 9)) (.slice (some ⟨wz.heap.size, 0, none⟩) 0 0) [] (ts.take j) ⟨ob, 0, none⟩ co (World.ownsRow.alloc (World.ownsRow.drew HO1.out) _) (fun i hi => by rw [addr_addP, Nat.zero_add, Htk.out.2 i hi]; exact (hB2.cell (p := ⟨ob, i, none⟩) hoy).trans ((HQy.out.cell (p := ⟨ob, i, none⟩) hob2).trans (HOC.out i (by have := Htk.out.1; omega)))) (by have := Htk.out.1; simp; omega) (by have h1 := HZ1.out; simp; omega)
                rw [Htk.out.1] at happ1
                simp only [List.nil_append] at o1
                refine call1 (i := 4) (d := some 51) (by kernel_rfl) (by kernel_rfl) ?_
                intro o ho hod K hK; simp only [List.getElem?_toArray, List.getElem?_cons_succ, List.getElem?_cons_zero, Option.some.injEq] at ho; subst ho
                refine wp_app _ _ _ rfl happ1 (by rfl) (by rfl) rfl ?_
                have hB3 : Below wz.heap.size wy w3 := hB2.trans bl1
                refine hK.out _ _ (HSS.out _ hB3) (fun hHeld => ?_)
                clear hK K
                try simp only [Act.put, List.setIfInBounds_toArray, List.set_cons_zero, List.set_cons_succ]
                clear happ1
                have hcs : w3.cell? ⟨w1.heap.size, 0, none⟩ = some (.string s) := by
                  have q : w3.heap[w1.heap.size]? = (w1.drew.alloc (.cells #[.string s] 9)).heap[w1.heap.size]? := g1.block _ (by simp) (by have h1 := HZ1.out; simp [Value.ownBlock]; omega)
                  have q2 : (w1.drew.alloc (.cells #[.string s] 9)).heap[w1.heap.size]? = some (.cells #[.string s] 9 (0, 0)) := World.alloc_heap_new _ _
                  have q3 := q.trans q2
                  simp [World.cell?, q3]
                obtain ⟨v2, w4, happ2, o4, g4, bl4, ne4'⟩ := appS wz.heap.size w3 v1 (ts.take j) [s] ⟨w1.heap.size, 0, none⟩ 1 o1 (fun i hi => by (obtain rfl : i = 0 := (by simpa using hi)); exact hcs) (by have := Htk.out.1; simp; omega) (by have h1 := hB3.size; have h2 := hzy.out; omega)
                simp only [List.length_cons, List.length_nil, Nat.zero_add] at happ2
                clear hcs
                refine call1 (i := 10) (d := some 57) (by kernel_rfl) (by kernel_rfl) ?_
                intro o ho hod K hK; simp only [List.getElem?_toArray, List.getElem?_cons_succ, List.getElem?_cons_zero, Option.some.injEq] at ho; subst ho
                refine wp_app _ _ _ rfl happ2 (by rfl) (by rfl) rfl ?_
                have hB4 : Below wz.heap.size wy w4 := hB3.trans bl4
                refine hK.out _ _ (HSS.out _ hB4) (fun hHeld => ?_)
                clear hK K
                try simp only [Act.put, List.setIfInBounds_toArray, List.set_cons_zero, List.set_cons_succ]
                refine take1 (i := 11) (d := some 6) (v := ?_) (by kernel_rfl) (by kernel_rfl) (by kernel_rfl) (by kernel_rfl) (fun _ _ _ h => h) ?_ hHeld ?_
                rotate_left
                · (intro o ho; simp only [List.getElem?_toArray, List.getElem?_cons_succ, List.getElem?_cons_zero, Option.some.injEq] at ho; subst ho; refine Or.inl ⟨by rfl, ?_⟩; intro w hSw; (try dsimp only at hSw); go_simp; try with_reducible rfl)
                try simp only [Act.put, List.setIfInBounds_toArray, List.set_cons_zero, List.set_cons_succ]
                refine wpAnyH_done (by kernel_rfl) ?_ _
                have ne4 := ne4' (ne1 (by simp))
                clear happ2 g1 g4 bl1 bl4 hB2 hB3 o1 ne1 ne4'
                have HB4 : Hid (Below wz.heap.size wy w4) := hid hB4
                have HO4 := hid o4
                have HNE4 : Hid (v2 ≠ .slice none 0 0) := hid ne4
                have HS4 : Hid (∀ i, i < ts.length → w4.cell? ⟨ob, i, none⟩ = some (.string (gS ts i))) := hid (fun i hi => (hB4.cell (p := ⟨ob, i, none⟩) hoy).trans ((HQy.out.cell (p := ⟨ob, i, none⟩) hob2).trans (HOC.out i hi)))
                clear hHeld hB4 o4 ne4
                obtain ⟨gm, cm, rfl, hgm1, hgm2, hcm1, hcm2, hgmc⟩ := own_some HO4.out HNE4.out
                clear hgmc
                obtain ⟨m1, hm1⟩ : ∃ m1, (ts.take j ++ [s]).length = m1 := ⟨_, rfl⟩
                have HO5 : Hid (w4.ownsRow wz.heap.size 9 1 (.slice (some ⟨gm, 0, none⟩) m1 cm) (ts.take j ++ [s]).length (sRow (ts.take j ++ [s]))) := hid (by have h1 := HO4.out; rw [hm1] at h1 ⊢; exact h1)
                simp only [hm1]
                rw [hm1] at hcm1
                have HM1 : Hid (m1 = j + 1) := hid (by rw [← hm1]; simp; omega)
                clear hm1 HO4 HNE4
                have jl0 : (j : Int) ≤ (ts.length : Int) := by omega
                have HTN : Hid (OnceOf (vs.take (k + 1)) (ts.take j ++ [s] ++ ts.drop j)) := hid ⟨once_in HT.out.1 hj HJ.out HGT.out, fun r => by
                  rw [HTk.out, List.mem_append, List.mem_append, List.mem_append, ← HT.out.2]
                  have e : r ∈ ts ↔ r ∈ ts.take j ∨ r ∈ ts.drop j := by rw [← List.mem_append, List.take_append_drop]
                  rw [e]
                  exact ⟨fun h => h.elim (fun h => h.elim (fun h => .inl (.inl h)) .inr) (fun h => .inl (.inr h)), fun h => h.elim (fun h => h.elim (fun h => .inl (.inl h)) .inr) (fun h => .inl (.inr h))⟩⟩
                have HLN : Hid ((ts.take j ++ [s] ++ ts.drop j).length ≤ k + 1) := hid (by simp; omega)
                have HZW : Hid (w.heap.size ≤ wz.heap.size ∧ wz.heap.size ≤ w4.heap.size) := hid ⟨by have h1 := HB.out.size; have h2 := HQy.out.size; have h3 := hzy.out; omega, by have h1 := HB4.out.size; have h2 := hzy.out; omega⟩
                have HFIN : Hid (∀ v3 w5, w5.ownsRow wz.heap.size 9 1 v3 (ts.take j ++ [s] ++ ts.drop j).length (sRow (ts.take j ++ [s] ++ ts.drop j)) → Below wz.heap.size w4 w5 → w5.ownsRow w.heap.size 9 1 v3 (ts.take j ++ [s] ++ ts.drop j).length (sRow (ts.take j ++ [s] ++ ts.drop j)) ∧ Below w.heap.size w w5) := hid (fun v3 w5 h1 h2 => ⟨own_weak h1 HZW.out.1, HB.out.trans ((HQy.out.mono HB.out.size).trans ((HB4.out.trans h2).mono HZW.out.1))⟩)
                have HLEN : Hid ((ts.drop j).length = ts.length - j) := hid (by simp)
                by_cases hjc : j < co
                · have hjc2 : (j : Int) < (co : Int) := by omega
                  obtain ⟨v3, w5, happ3, o5, g5, bl5, ne5⟩ := appS wz.heap.size w4 (.slice (some ⟨gm, 0, none⟩) m1 cm) (ts.take j ++ [s]) (ts.drop j) ⟨ob, j, none⟩ (co - j) HO5.out (fun i hi => by rw [addr_addP]; exact (HS4.out (j + i) (by have := HLEN.out; omega)).trans (by simp [gS, List.getD])) (by simp; omega) HZW.out.2
                  rw [HLEN.out] at happ3
                  obtain ⟨o6, b6⟩ := HFIN.out v3 w5 o5 bl5
                  have HO6 := hid o6
                  have HB6 := hid b6
                  have HNE6 : Hid (v3 ≠ .slice none 0 0) := hid (ne5 (by simp))
                  clear o5 o6 b6 bl5 g5 ne5
                  go_wp2_with (at_builtin; refine wpList_appS rfl _ _ _ rfl happ3 (by rfl) (by rfl) rfl ?_; clear happ3)
                  go_roundw
                  case rel => exact ⟨k + 1, hlt, by go_num, ⟨_, HLN.out, HO6, HTN, HNE6⟩, HB6⟩
                  case measure => simp [intOf]; omega
                · have hjc2 : ¬ (j : Int) < (co : Int) := by omega
                  by_cases hjt : j < ts.length
                  · exfalso; omega
                  obtain ⟨v3, w5, happ3, o5, g5, bl5, ne5⟩ := appS wz.heap.size w4 (.slice (some ⟨gm, 0, none⟩) m1 cm) (ts.take j ++ [s]) (ts.drop j) ⟨ob, 0, none⟩ (co - j) HO5.out (fun i hi => by have := HLEN.out; omega) (by simp; omega) HZW.out.2
                  rw [HLEN.out] at happ3
                  obtain ⟨o6, b6⟩ := HFIN.out v3 w5 o5 bl5
                  have HO6 := hid o6
                  have HB6 := hid b6
                  have HNE6 : Hid (v3 ≠ .slice none 0 0) := hid (ne5 (by simp))
                  clear o5 o6 b6 bl5 g5 ne5
                  go_wp2_with (at_builtin; refine wpList_appS rfl _ _ _ rfl happ3 (by rfl) (by first | rfl | (exfalso; omega) | (go_simp; done) | (go_simp; omega)) rfl ?_; clear happ3)
                  go_roundw
                  case rel => exact ⟨k + 1, hlt, by go_num, ⟨_, HLN.out, HO6, HTN, HNE6⟩, HB6⟩
                  case measure => simp [intOf]; omega
        · have HGT : Hid (j < ts.length → 0 < cmpS (gS ts j) s) := hid (fun h => absurd h hjl)
          have dj : decide ((j : Int) < (ts.length : Int)) = false := by simp; omega
          have dj2 : decide (j < ts.length) = false := by simp; omega
          have de : ((j : Int) == (ts.length : Int)) = true := by simp; omega
          have de2 : (j == ts.length) = true := by simp; omega
          go_wp2_with fail
          go_quiet (fail)
          go_wp2_with fail
          obtain ⟨wz, hwz⟩ : ∃ wz, wq.drewN nq = wz := ⟨_, rfl⟩
          have HQz : Hid (Below wo.heap.size wo wz) := hid (by rw [← hwz]; exact below_drewS HQ.out nq)
          have yz : wz.cell? ⟨vb, voff + k, none⟩ = some (.string s) := by rw [← hwz]; exact y0
          rw [hwz]
          clear hwz y0 HQ
          go_quiet (fail)
          go_wp2_with fail
          obtain ⟨wy, hwy⟩ : ∃ wy, wz.drewN nq = wy := ⟨_, rfl⟩
          have HQy : Hid (Below wo.heap.size wo wy) := hid (by rw [← hwy]; exact below_drewS HQz.out nq)
          have yy : wy.cell? ⟨vb, voff + k, none⟩ = some (.string s) := by rw [← hwy]; exact yz
          have hzy : Hid (wy.heap.size = wz.heap.size) := hid (by rw [← hwy]; first | rfl | simp)
          try rw [hwy]
          clear hwy yz HQz
          obtain ⟨w1, hw1⟩ : ∃ w1, wy.alloc (.cells #[] 9) = w1 := ⟨_, rfl⟩
          have b1 : Below wz.heap.size wy w1 := by rw [← hw1]; exact (Below.refl _ _).alloc (Nat.le_of_eq hzy.out.symm) _
          have O1 : w1.ownsRow wz.heap.size 9 1 (.slice (some ⟨wz.heap.size, 0, none⟩) ([] : List ByteArray).length 0) ([] : List ByteArray).length (sRow []) := ⟨rfl, .inr ⟨wz.heap.size, 0, #[], rfl, Nat.le_refl _, by rw [← hw1, ← hzy.out]; exact World.alloc_heap_new _ _, by simp, by unfold maxLen; omega, rfl, rfl⟩⟩
          have hvy : vb < wz.heap.size := by have h1 := Nat.lt_of_lt_of_le hvb' HQy.out.size; rw [hzy.out] at h1; exact h1
          have hoy : ob < wz.heap.size := by have h1 := Nat.lt_of_lt_of_le hob2 HQy.out.size; rw [hzy.out] at h1; exact h1
          have hoc1 : ∀ i, i < ts.length → w1.cell? ⟨ob, i, none⟩ = some (.string (gS ts i)) := fun i hi => (b1.cell (p := ⟨ob, i, none⟩) hoy).trans ((HQy.out.cell (p := ⟨ob, i, none⟩) hob2).trans (HOC.out i hi))
          have tk : (ts.take j).length = j := by simp; omega
          have htk2 : ∀ i, i < (ts.take j).length → gS (ts.take j) i = gS ts i := fun i hi => by simp [gS, List.getD, List.getElem?_take_of_lt (show i < j by omega)]
          have jj0 : (0 : Int) ≤ (j : Int) := Int.natCast_nonneg _
          have jj1 : (j : Int) ≤ (co : Int) := by omega
          have z1 : w1.heap.size = wz.heap.size + 1 := by rw [← hw1, ← hzy.out]; simp
          try rw [hw1]
          have HSS : Hid (∀ w', Below wz.heap.size wy w' → (Below wz.heap.size wy w' ∧ w'.cell? ⟨vb, voff + k, none⟩ = some (.string s))) := hid (fun w' hB => ⟨hB, (hB.cell (p := ⟨vb, voff + k, none⟩) hvy).trans yy⟩)
          have HZ1 := hid z1
          have Hb1 := hid b1
          have HO1 := hid O1
          have Hoc1 := hid hoc1
          have Htk := hid (And.intro tk htk2)
          clear hw1 b1 O1 hoc1 tk htk2 z1
          refine wp_region_held_drew (S := fun w' => Below wz.heap.size wy w' ∧ w'.cell? ⟨vb, voff + k, none⟩ = some (.string s)) (by kernel_rfl) (HSS.out _ Hb1.out.drew) (fun hHeld => ?_)
          refine take1 (i := 0) (d := some 47) (v := ?_) (by kernel_rfl) (by kernel_rfl) (by kernel_rfl) (by kernel_rfl) (fun _ _ _ h => h) ?_ hHeld ?_
          rotate_left
          · (intro o ho; simp only [List.getElem?_toArray, List.getElem?_cons_succ, List.getElem?_cons_zero, Option.some.injEq] at ho; subst ho; refine Or.inl ⟨by rfl, ?_⟩; intro w hSw; (try dsimp only at hSw); go_simp; try with_reducible rfl)
          try simp only [Act.put, List.setIfInBounds_toArray, List.set_cons_zero, List.set_cons_succ]
          refine take1 (i := 1) (d := some 48) (v := ?_) (by kernel_rfl) (by kernel_rfl) (by kernel_rfl) (by kernel_rfl) (fun _ _ _ h => h) ?_ hHeld ?_
          rotate_left
          · (intro o ho; simp only [List.getElem?_toArray, List.getElem?_cons_succ, List.getElem?_cons_zero, Option.some.injEq] at ho; subst ho; refine Or.inl ⟨by rfl, ?_⟩; intro w hSw; (try dsimp only at hSw); go_simp; try with_reducible rfl)
          try simp only [Act.put, List.setIfInBounds_toArray, List.set_cons_zero, List.set_cons_succ]
          refine take1 (i := 2) (d := some 49) (v := ?_) (by kernel_rfl) (by kernel_rfl) (by kernel_rfl) (by kernel_rfl) (fun _ _ _ h => h) ?_ hHeld ?_
          rotate_left
          · (intro o ho; simp only [List.getElem?_toArray, List.getElem?_cons_succ, List.getElem?_cons_zero, Option.some.injEq] at ho; subst ho; refine Or.inl ⟨by rfl, ?_⟩; intro w hSw; (try dsimp only at hSw); go_simp; try with_reducible rfl)
          try simp only [Act.put, List.setIfInBounds_toArray, List.set_cons_zero, List.set_cons_succ]
          refine take1 (i := 3) (d := some 50) (v := ?_) (by kernel_rfl) (by kernel_rfl) (by kernel_rfl) (by kernel_rfl) (fun _ _ _ h => h) ?_ hHeld ?_
          rotate_left
          · (intro o ho; simp only [List.getElem?_toArray, List.getElem?_cons_succ, List.getElem?_cons_zero, Option.some.injEq] at ho; subst ho; refine Or.inl ⟨by rfl, ?_⟩; intro w hSw; (try dsimp only at hSw); go_simp; try with_reducible rfl)
          try simp only [Act.put, List.setIfInBounds_toArray, List.set_cons_zero, List.set_cons_succ]
          refine take1 (i := 5) (d := some 52) (v := ?_) (by kernel_rfl) (by kernel_rfl) (by kernel_rfl) (by kernel_rfl) (fun _ _ _ h => h) ?_ hHeld ?_
          rotate_left
          · (intro o ho; simp only [List.getElem?_toArray, List.getElem?_cons_succ, List.getElem?_cons_zero, Option.some.injEq] at ho; subst ho; refine Or.inl ⟨by rfl, ?_⟩; intro w hSw; (try dsimp only at hSw); go_simp; try with_reducible rfl)
          try simp only [Act.put, List.setIfInBounds_toArray, List.set_cons_zero, List.set_cons_succ]
          refine take1 (i := 6) (d := some 53) (v := ?_) (by kernel_rfl) (by kernel_rfl) (by kernel_rfl) (by kernel_rfl) (fun _ _ _ h => h) ?_ hHeld ?_
          rotate_left
          · (intro o ho; simp only [List.getElem?_toArray, List.getElem?_cons_succ, List.getElem?_cons_zero, Option.some.injEq] at ho; subst ho; refine Or.inl ⟨by rfl, ?_⟩; intro w hSw; (try dsimp only at hSw); go_simp; try with_reducible rfl)
          try simp only [Act.put, List.setIfInBounds_toArray, List.set_cons_zero, List.set_cons_succ]
          refine take1 (i := 7) (d := some 54) (v := ?_) (by kernel_rfl) (by kernel_rfl) (by kernel_rfl) (by kernel_rfl) (fun _ _ _ h => h) ?_ hHeld ?_
          rotate_left
          · (intro o ho; simp only [List.getElem?_toArray, List.getElem?_cons_succ, List.getElem?_cons_zero, Option.some.injEq] at ho; subst ho; refine Or.inl ⟨by rfl, ?_⟩; intro w hSw; (try dsimp only at hSw); go_simp; try with_reducible rfl)
          try simp only [Act.put, List.setIfInBounds_toArray, List.set_cons_zero, List.set_cons_succ]
          refine take1 (i := 8) (d := some 55) (v := ?_) (by kernel_rfl) (by kernel_rfl) (by kernel_rfl) (by kernel_rfl) (fun _ _ _ h => h) ?_ hHeld ?_
          rotate_left
          · (intro o ho; simp only [List.getElem?_toArray, List.getElem?_cons_succ, List.getElem?_cons_zero, Option.some.injEq] at ho; subst ho; refine Or.inl ⟨by rfl, ?_⟩; intro w hSw; (try dsimp only at hSw); go_simp; try with_reducible rfl)
          try simp only [Act.put, List.setIfInBounds_toArray, List.set_cons_zero, List.set_cons_succ]
          refine ready2t (i := 4) (j := 9) (d := some 51) (d' := some 56) (by kernel_rfl) (by kernel_rfl) (by kernel_rfl) ?_ ?_
          ·
            obtain ⟨v1, w2, happ1, o1, g1, bl1, ne1⟩ := appS wz.heap.size w1.drew (.slice (some ⟨wz.heap.size, 0, none⟩) 0 0) [] (ts.take j) ⟨ob, 0, none⟩ co HO1.out (fun i hi => by rw [addr_addP, Nat.zero_add, Htk.out.2 i hi]; exact Hoc1.out i (by have := Htk.out.1; omega)) (by have := Htk.out.1; simp; omega) (by have h1 := HZ1.out; show wz.heap.size ≤ w1.heap.size; omega)
            rw [Htk.out.1] at happ1
            simp only [List.nil_append] at o1
            intro o ho hod K hK; simp only [List.getElem?_toArray, List.getElem?_cons_succ, List.getElem?_cons_zero, Option.some.injEq] at ho; subst ho
            refine wp_app _ _ _ rfl happ1 (by rfl) (by rfl) rfl ?_
            have hB2 : Below wz.heap.size wy w2 := Hb1.out.drew.trans bl1
            refine hK.out _ _ (HSS.out _ hB2) (fun hHeld => ?_)
            clear hK K
            try simp only [Act.put, List.setIfInBounds_toArray, List.set_cons_zero, List.set_cons_succ]
            clear happ1
            refine call1 (i := 9) (d := some 56) (by kernel_rfl) (by kernel_rfl) ?_
            intro o ho hod K hK; simp only [List.getElem?_toArray, List.getElem?_cons_succ, List.getElem?_cons_zero, Option.some.injEq] at ho; subst ho
            go_simp
            have hB3 : Below wz.heap.size wy (w2.alloc (.cells #[.string s] 9)) := hB2.alloc (by have h1 := hB2.size; have h2 := hzy.out; omega) _
            refine hK.out _ _ (HSS.out _ hB3) (fun hHeld => ?_)
            clear hK K
            try simp only [Act.put, List.setIfInBounds_toArray, List.set_cons_zero, List.set_cons_succ]
            obtain ⟨v2, w4, happ2, o4, g4, bl4, ne4'⟩ := appS wz.heap.size (w2.alloc (.cells #[.string s] 9)) v1 (ts.take j) [s] ⟨w2.heap.size, 0, none⟩ 1 (o1.alloc _) (fun i hi => by (obtain rfl : i = 0 := (by simpa using hi)); simp [Addr.add, gS]) (by have := Htk.out.1; simp; omega) (by have h1 := hB2.size; have h2 := hzy.out; simp; omega)
            simp only [List.length_cons, List.length_nil, Nat.zero_add] at happ2
            refine call1 (i := 10) (d := some 57) (by kernel_rfl) (by kernel_rfl) ?_
            intro o ho hod K hK; simp only [List.getElem?_toArray, List.getElem?_cons_succ, List.getElem?_cons_zero, Option.some.injEq] at ho; subst ho
            refine wp_app _ _ _ rfl happ2 (by rfl) (by rfl) rfl ?_
            have hB4 : Below wz.heap.size wy w4 := hB3.trans bl4
            refine hK.out _ _ (HSS.out _ hB4) (fun hHeld => ?_)
            clear hK K
            try simp only [Act.put, List.setIfInBounds_toArray, List.set_cons_zero, List.set_cons_succ]
            refine take1 (i := 11) (d := some 6) (v := ?_) (by kernel_rfl) (by kernel_rfl) (by kernel_rfl) (by kernel_rfl) (fun _ _ _ h => h) ?_ hHeld ?_
            rotate_left
            · (intro o ho; simp only [List.getElem?_toArray, List.getElem?_cons_succ, List.getElem?_cons_zero, Option.some.injEq] at ho; subst ho; refine Or.inl ⟨by rfl, ?_⟩; intro w hSw; (try dsimp only at hSw); go_simp; try with_reducible rfl)
            try simp only [Act.put, List.setIfInBounds_toArray, List.set_cons_zero, List.set_cons_succ]
            refine wpAnyH_done (by kernel_rfl) ?_ _
            have ne4 := ne4' (ne1 (by simp))
            clear happ2 g1 g4 bl1 bl4 hB2 hB3 o1 ne1 ne4'
            have HB4 : Hid (Below wz.heap.size wy w4) := hid hB4
            have HO4 := hid o4
            have HNE4 : Hid (v2 ≠ .slice none 0 0) := hid ne4
            have HS4 : Hid (∀ i, i < ts.length → w4.cell? ⟨ob, i, none⟩ = some (.string (gS ts i))) := hid (fun i hi => (hB4.cell (p := ⟨ob, i, none⟩) hoy).trans ((HQy.out.cell (p := ⟨ob, i, none⟩) hob2).trans (HOC.out i hi)))
            clear hHeld hB4 o4 ne4
            obtain ⟨gm, cm, rfl, hgm1, hgm2, hcm1, hcm2, hgmc⟩ := own_some HO4.out HNE4.out
            clear hgmc
            obtain ⟨m1, hm1⟩ : ∃ m1, (ts.take j ++ [s]).length = m1 := ⟨_, rfl⟩
            have HO5 : Hid (w4.ownsRow wz.heap.size 9 1 (.slice (some ⟨gm, 0, none⟩) m1 cm) (ts.take j ++ [s]).length (sRow (ts.take j ++ [s]))) := hid (by have h1 := HO4.out; rw [hm1] at h1 ⊢; exact h1)
            simp only [hm1]
            rw [hm1] at hcm1
            have HM1 : Hid (m1 = j + 1) := hid (by rw [← hm1]; simp; omega)
            clear hm1 HO4 HNE4
            have jl0 : (j : Int) ≤ (ts.length : Int) := by omega
            have HTN : Hid (OnceOf (vs.take (k + 1)) (ts.take j ++ [s] ++ ts.drop j)) := hid ⟨once_in HT.out.1 hj HJ.out HGT.out, fun r => by
              rw [HTk.out, List.mem_append, List.mem_append, List.mem_append, ← HT.out.2]
              have e : r ∈ ts ↔ r ∈ ts.take j ∨ r ∈ ts.drop j := by rw [← List.mem_append, List.take_append_drop]
              rw [e]
              exact ⟨fun h => h.elim (fun h => h.elim (fun h => .inl (.inl h)) .inr) (fun h => .inl (.inr h)), fun h => h.elim (fun h => h.elim (fun h => .inl (.inl h)) .inr) (fun h => .inl (.inr h))⟩⟩
            have HLN : Hid ((ts.take j ++ [s] ++ ts.drop j).length ≤ k + 1) := hid (by simp; omega)
            have HZW : Hid (w.heap.size ≤ wz.heap.size ∧ wz.heap.size ≤ w4.heap.size) := hid ⟨by have h1 := HB.out.size; have h2 := HQy.out.size; have h3 := hzy.out; omega, by have h1 := HB4.out.size; have h2 := hzy.out; omega⟩
            have HFIN : Hid (∀ v3 w5, w5.ownsRow wz.heap.size 9 1 v3 (ts.take j ++ [s] ++ ts.drop j).length (sRow (ts.take j ++ [s] ++ ts.drop j)) → Below wz.heap.size w4 w5 → w5.ownsRow w.heap.size 9 1 v3 (ts.take j ++ [s] ++ ts.drop j).length (sRow (ts.take j ++ [s] ++ ts.drop j)) ∧ Below w.heap.size w w5) := hid (fun v3 w5 h1 h2 => ⟨own_weak h1 HZW.out.1, HB.out.trans ((HQy.out.mono HB.out.size).trans ((HB4.out.trans h2).mono HZW.out.1))⟩)
            have HLEN : Hid ((ts.drop j).length = ts.length - j) := hid (by simp)
            by_cases hjc : j < co
            · have hjc2 : (j : Int) < (co : Int) := by omega
              obtain ⟨v3, w5, happ3, o5, g5, bl5, ne5⟩ := appS wz.heap.size w4 (.slice (some ⟨gm, 0, none⟩) m1 cm) (ts.take j ++ [s]) (ts.drop j) ⟨ob, j, none⟩ (co - j) HO5.out (fun i hi => by rw [addr_addP]; exact (HS4.out (j + i) (by have := HLEN.out; omega)).trans (by simp [gS, List.getD])) (by simp; omega) HZW.out.2
              rw [HLEN.out] at happ3
              obtain ⟨o6, b6⟩ := HFIN.out v3 w5 o5 bl5
              have HO6 := hid o6
              have HB6 := hid b6
              have HNE6 : Hid (v3 ≠ .slice none 0 0) := hid (ne5 (by simp))
              clear o5 o6 b6 bl5 g5 ne5
              go_wp2_with (at_builtin; refine wpList_appS rfl _ _ _ rfl happ3 (by rfl) (by rfl) rfl ?_; clear happ3)
              go_roundw
              case rel => exact ⟨k + 1, hlt, by go_num, ⟨_, HLN.out, HO6, HTN, HNE6⟩, HB6⟩
              case measure => simp [intOf]; omega
            · have hjc2 : ¬ (j : Int) < (co : Int) := by omega
              by_cases hjt : j < ts.length
              · exfalso; omega
              obtain ⟨v3, w5, happ3, o5, g5, bl5, ne5⟩ := appS wz.heap.size w4 (.slice (some ⟨gm, 0, none⟩) m1 cm) (ts.take j ++ [s]) (ts.drop j) ⟨ob, 0, none⟩ (co - j) HO5.out (fun i hi => by have := HLEN.out; omega) (by simp; omega) HZW.out.2
              rw [HLEN.out] at happ3
              obtain ⟨o6, b6⟩ := HFIN.out v3 w5 o5 bl5
              have HO6 := hid o6
              have HB6 := hid b6
              have HNE6 : Hid (v3 ≠ .slice none 0 0) := hid (ne5 (by simp))
              clear o5 o6 b6 bl5 g5 ne5
              go_wp2_with (at_builtin; refine wpList_appS rfl _ _ _ rfl happ3 (by rfl) (by first | rfl | (exfalso; omega) | (go_simp; done) | (go_simp; omega)) rfl ?_; clear happ3)
              go_roundw
              case rel => exact ⟨k + 1, hlt, by go_num, ⟨_, HLN.out, HO6, HTN, HNE6⟩, HB6⟩
              case measure => simp [intOf]; omega
          ·
            intro o ho hod K hK; simp only [List.getElem?_toArray, List.getElem?_cons_succ, List.getElem?_cons_zero, Option.some.injEq] at ho; subst ho
            go_simp
            have hB2 : Below wz.heap.size wy (w1.drew.alloc (.cells #[.string s] 9)) := Hb1.out.drew.alloc (by have h1 := HZ1.out; show wz.heap.size ≤ w1.heap.size; omega) _
            refine hK.out _ _ (HSS.out _ hB2) (fun hHeld => ?_)
            clear hK K
            try simp only [Act.put, List.setIfInBounds_toArray, List.set_cons_zero, List.set_cons_succ]
            obtain ⟨v1, w3, happ1, o1, g1, bl1, ne1⟩ := appS wz.heap.size (w1.drew.alloc (.cells #[.string s] 9)) (.slice (some ⟨wz.heap.size, 0, none⟩) 0 0) [] (ts.take j) ⟨ob, 0, none⟩ co (World.ownsRow.alloc (World.ownsRow.drew HO1.out) _) (fun i hi => by rw [addr_addP, Nat.zero_add, Htk.out.2 i hi]; exact (hB2.cell (p := ⟨ob, i, none⟩) hoy).trans ((HQy.out.cell (p := ⟨ob, i, none⟩) hob2).trans (HOC.out i (by have := Htk.out.1; omega)))) (by have := Htk.out.1; simp; omega) (by have h1 := HZ1.out; simp; omega)
            rw [Htk.out.1] at happ1
            simp only [List.nil_append] at o1
            refine call1 (i := 4) (d := some 51) (by kernel_rfl) (by kernel_rfl) ?_
            intro o ho hod K hK; simp only [List.getElem?_toArray, List.getElem?_cons_succ, List.getElem?_cons_zero, Option.some.injEq] at ho; subst ho
            refine wp_app _ _ _ rfl happ1 (by rfl) (by rfl) rfl ?_
            have hB3 : Below wz.heap.size wy w3 := hB2.trans bl1
            refine hK.out _ _ (HSS.out _ hB3) (fun hHeld => ?_)
            clear hK K
            try simp only [Act.put, List.setIfInBounds_toArray, List.set_cons_zero, List.set_cons_succ]
            clear happ1
            have hcs : w3.cell? ⟨w1.heap.size, 0, none⟩ = some (.string s) := by
              have q : w3.heap[w1.heap.size]? = (w1.drew.alloc (.cells #[.string s] 9)).heap[w1.heap.size]? := g1.block _ (by simp) (by have h1 := HZ1.out; simp [Value.ownBlock]; omega)
              have q2 : (w1.drew.alloc (.cells #[.string s] 9)).heap[w1.heap.size]? = some (.cells #[.string s] 9 (0, 0)) := World.alloc_heap_new _ _
              have q3 := q.trans q2
              simp [World.cell?, q3]
            obtain ⟨v2, w4, happ2, o4, g4, bl4, ne4'⟩ := appS wz.heap.size w3 v1 (ts.take j) [s] ⟨w1.heap.size, 0, none⟩ 1 o1 (fun i hi => by (obtain rfl : i = 0 := (by simpa using hi)); exact hcs) (by have := Htk.out.1; simp; omega) (by have h1 := hB3.size; have h2 := hzy.out; omega)
            simp only [List.length_cons, List.length_nil, Nat.zero_add] at happ2
            clear hcs
            refine call1 (i := 10) (d := some 57) (by kernel_rfl) (by kernel_rfl) ?_
            intro o ho hod K hK; simp only [List.getElem?_toArray, List.getElem?_cons_succ, List.getElem?_cons_zero, Option.some.injEq] at ho; subst ho
            refine wp_app _ _ _ rfl happ2 (by rfl) (by rfl) rfl ?_
            have hB4 : Below wz.heap.size wy w4 := hB3.trans bl4
            refine hK.out _ _ (HSS.out _ hB4) (fun hHeld => ?_)
            clear hK K
            try simp only [Act.put, List.setIfInBounds_toArray, List.set_cons_zero, List.set_cons_succ]
            refine take1 (i := 11) (d := some 6) (v := ?_) (by kernel_rfl) (by kernel_rfl) (by kernel_rfl) (by kernel_rfl) (fun _ _ _ h => h) ?_ hHeld ?_
            rotate_left
            · (intro o ho; simp only [List.getElem?_toArray, List.getElem?_cons_succ, List.getElem?_cons_zero, Option.some.injEq] at ho; subst ho; refine Or.inl ⟨by rfl, ?_⟩; intro w hSw; (try dsimp only at hSw); go_simp; try with_reducible rfl)
            try simp only [Act.put, List.setIfInBounds_toArray, List.set_cons_zero, List.set_cons_succ]
            refine wpAnyH_done (by kernel_rfl) ?_ _
            have ne4 := ne4' (ne1 (by simp))
            clear happ2 g1 g4 bl1 bl4 hB2 hB3 o1 ne1 ne4'
            have HB4 : Hid (Below wz.heap.size wy w4) := hid hB4
            have HO4 := hid o4
            have HNE4 : Hid (v2 ≠ .slice none 0 0) := hid ne4
            have HS4 : Hid (∀ i, i < ts.length → w4.cell? ⟨ob, i, none⟩ = some (.string (gS ts i))) := hid (fun i hi => (hB4.cell (p := ⟨ob, i, none⟩) hoy).trans ((HQy.out.cell (p := ⟨ob, i, none⟩) hob2).trans (HOC.out i hi)))
            clear hHeld hB4 o4 ne4
            obtain ⟨gm, cm, rfl, hgm1, hgm2, hcm1, hcm2, hgmc⟩ := own_some HO4.out HNE4.out
            clear hgmc
            obtain ⟨m1, hm1⟩ : ∃ m1, (ts.take j ++ [s]).length = m1 := ⟨_, rfl⟩
            have HO5 : Hid (w4.ownsRow wz.heap.size 9 1 (.slice (some ⟨gm, 0, none⟩) m1 cm) (ts.take j ++ [s]).length (sRow (ts.take j ++ [s]))) := hid (by have h1 := HO4.out; rw [hm1] at h1 ⊢; exact h1)
            simp only [hm1]
            rw [hm1] at hcm1
            have HM1 : Hid (m1 = j + 1) := hid (by rw [← hm1]; simp; omega)
            clear hm1 HO4 HNE4
            have jl0 : (j : Int) ≤ (ts.length : Int) := by omega
            have HTN : Hid (OnceOf (vs.take (k + 1)) (ts.take j ++ [s] ++ ts.drop j)) := hid ⟨once_in HT.out.1 hj HJ.out HGT.out, fun r => by
              rw [HTk.out, List.mem_append, List.mem_append, List.mem_append, ← HT.out.2]
              have e : r ∈ ts ↔ r ∈ ts.take j ∨ r ∈ ts.drop j := by rw [← List.mem_append, List.take_append_drop]
              rw [e]
              exact ⟨fun h => h.elim (fun h => h.elim (fun h => .inl (.inl h)) .inr) (fun h => .inl (.inr h)), fun h => h.elim (fun h => h.elim (fun h => .inl (.inl h)) .inr) (fun h => .inl (.inr h))⟩⟩
            have HLN : Hid ((ts.take j ++ [s] ++ ts.drop j).length ≤ k + 1) := hid (by simp; omega)
            have HZW : Hid (w.heap.size ≤ wz.heap.size ∧ wz.heap.size ≤ w4.heap.size) := hid ⟨by have h1 := HB.out.size; have h2 := HQy.out.size; have h3 := hzy.out; omega, by have h1 := HB4.out.size; have h2 := hzy.out; omega⟩
            have HFIN : Hid (∀ v3 w5, w5.ownsRow wz.heap.size 9 1 v3 (ts.take j ++ [s] ++ ts.drop j).length (sRow (ts.take j ++ [s] ++ ts.drop j)) → Below wz.heap.size w4 w5 → w5.ownsRow w.heap.size 9 1 v3 (ts.take j ++ [s] ++ ts.drop j).length (sRow (ts.take j ++ [s] ++ ts.drop j)) ∧ Below w.heap.size w w5) := hid (fun v3 w5 h1 h2 => ⟨own_weak h1 HZW.out.1, HB.out.trans ((HQy.out.mono HB.out.size).trans ((HB4.out.trans h2).mono HZW.out.1))⟩)
            have HLEN : Hid ((ts.drop j).length = ts.length - j) := hid (by simp)
            by_cases hjc : j < co
            · have hjc2 : (j : Int) < (co : Int) := by omega
              obtain ⟨v3, w5, happ3, o5, g5, bl5, ne5⟩ := appS wz.heap.size w4 (.slice (some ⟨gm, 0, none⟩) m1 cm) (ts.take j ++ [s]) (ts.drop j) ⟨ob, j, none⟩ (co - j) HO5.out (fun i hi => by rw [addr_addP]; exact (HS4.out (j + i) (by have := HLEN.out; omega)).trans (by simp [gS, List.getD])) (by simp; omega) HZW.out.2
              rw [HLEN.out] at happ3
              obtain ⟨o6, b6⟩ := HFIN.out v3 w5 o5 bl5
              have HO6 := hid o6
              have HB6 := hid b6
              have HNE6 : Hid (v3 ≠ .slice none 0 0) := hid (ne5 (by simp))
              clear o5 o6 b6 bl5 g5 ne5
              go_wp2_with (at_builtin; refine wpList_appS rfl _ _ _ rfl happ3 (by rfl) (by rfl) rfl ?_; clear happ3)
              go_roundw
              case rel => exact ⟨k + 1, hlt, by go_num, ⟨_, HLN.out, HO6, HTN, HNE6⟩, HB6⟩
              case measure => simp [intOf]; omega
            · have hjc2 : ¬ (j : Int) < (co : Int) := by omega
              by_cases hjt : j < ts.length
              · exfalso; omega
              obtain ⟨v3, w5, happ3, o5, g5, bl5, ne5⟩ := appS wz.heap.size w4 (.slice (some ⟨gm, 0, none⟩) m1 cm) (ts.take j ++ [s]) (ts.drop j) ⟨ob, 0, none⟩ (co - j) HO5.out (fun i hi => by have := HLEN.out; omega) (by simp; omega) HZW.out.2
              rw [HLEN.out] at happ3
              obtain ⟨o6, b6⟩ := HFIN.out v3 w5 o5 bl5
              have HO6 := hid o6
              have HB6 := hid b6
              have HNE6 : Hid (v3 ≠ .slice none 0 0) := hid (ne5 (by simp))
              clear o5 o6 b6 bl5 g5 ne5
              go_wp2_with (at_builtin; refine wpList_appS rfl _ _ _ rfl happ3 (by rfl) (by first | rfl | (exfalso; omega) | (go_simp; done) | (go_simp; omega)) rfl ?_; clear happ3)
              go_roundw
              case rel => exact ⟨k + 1, hlt, by go_num, ⟨_, HLN.out, HO6, HTN, HNE6⟩, HB6⟩
              case measure => simp [intOf]; omega
    · obtain rfl : k = vs.length := by omega
      have HT2 : Hid (OnceOf vs ts) := hid (by have := HT.out; rwa [List.take_of_length_le (Nat.le_refl _)] at this)
      go_wp2_with fail
      go_ret
      exact ⟨⟨_, ts, rfl, HO.out, HT2.out, htk⟩, HB.out⟩
end Go.Proofs.Ytkhicohhahaahaa
