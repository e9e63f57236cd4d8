import Derived.Test.YthkppnmnjboiaaaDoorSb
namespace Go.Proofs.YthkppnmnjboiaaaDoor
open Go.ChangeShapes Go.WideShapes Go.ChangeAt Go.RowKit
set_option linter.unusedVariables false
set_option linter.unusedSimpArgs false

structure ChR (w : World) (B : Nat) (v : Value) (l : List (Value × List Int)) : Prop where
  row : w.ownsRow B 22 1 v l.length (l.map (fun x => x.1))
  pay : ∀ x ∈ l, Own w B x.1 x.2
  far : ∀ x ∈ l, ∀ b, x.1.ownBlock = some b → v.ownBlock ≠ some b
theorem chr_lit (w : World) (B : Nat) (hB : B ≤ w.heap.size) : ChR (w.alloc (.cells #[] 22)) B (.slice (some ⟨w.heap.size, 0, none⟩) 0 0) [] := by
  have := World.ownsRow_lit (base := B) (e := 22) (size := 1) w #[] 0 hB (by unfold maxLen; omega) rfl
  exact ⟨by simpa using this, fun x hx => by simp at hx, fun x hx => by simp at hx⟩
theorem ChR.kept {w w' : World} {B : Nat} {v : Value} {l : List (Value × List Int)} (h : ChR w B v l) {row : Option Nat} (hg : w.grownBy w' row) (hr : ∀ k, row = some k → k < B) : ChR w' B v l := by
  refine ⟨World.ownsRow.kept h.row hg ?_, fun x hx => (h.pay x hx).gr hg (fun g e1 e2 => by have := (World.ownsRow.lt (h.pay x hx) g e1).1; have := hr g e2.symm; omega), h.far⟩
  cases e : v.ownBlock with
  | none => exact .inl rfl
  | some g => exact .inr (fun e2 => by have := (World.ownsRow.lt h.row g e).1; have := hr g e2.symm; omega)
theorem ChR.below {w w' : World} {B : Nat} {v : Value} {l : List (Value × List Int)} (h : ChR w B v l) (hb : Below w.heap.size w w') : ChR w' B v l :=
  h.kept (row := none) ⟨hb.os, hb.tape, hb.output, hb.size, fun k hk _ => hb.block k hk⟩ (by simp)
theorem ChR.step {wr w0 w9 : World} {B : Nat} {fv v9 pv : Value} {l : List (Value × List Int)} {pl : List Int} (h : ChR wr B fv l) (hB : B ≤ wr.heap.size) (b0 : Below wr.heap.size wr w0) (ov : Own w0 wr.heap.size pv pl) (gg : w0.grownBy w9 fv.ownBlock)
    (hown : w9.ownsRow B 22 1 v9 (l.length + 1) (l.map (fun x => x.1) ++ [pv])) (hloc : v9.ownBlock = fv.ownBlock ∨ ∃ k, v9.ownBlock = some k ∧ w0.heap.size ≤ k) : ChR w9 B v9 (l ++ [(pv, pl)]) := by
  have h0 := h.below b0
  have z0 := b0.size
  have hold : ∀ x ∈ l, ∀ k, x.1.ownBlock = some k → k < wr.heap.size := fun x hx k hk => (World.ownsRow.lt (h.pay x hx) k hk).2
  have hnew : ∀ k, pv.ownBlock = some k → wr.heap.size ≤ k ∧ k < w0.heap.size := fun k hk => World.ownsRow.lt ov k hk
  have hfv : ∀ k, fv.ownBlock = some k → k < wr.heap.size := fun k hk => (World.ownsRow.lt h.row k hk).2
  refine ⟨by rw [List.length_append, List.map_append]; exact hown, fun x hx => ?_, fun x hx k hk e => ?_⟩
  · rcases List.mem_append.1 hx with hx | hx
    · exact (h0.pay x hx).gr gg (fun g e1 e2 => h.far x hx g e1 e2.symm)
    · simp at hx; subst hx
      exact (own_weak ov hB).gr gg (fun g e1 e2 => by have := hnew g e1; have := hfv g e2.symm; omega)
  · rcases List.mem_append.1 hx with hx | hx
    · rcases hloc with q | ⟨j, q, hj⟩
      · exact h.far x hx k hk (q ▸ e)
      · rw [q] at e; injection e with e; have := hold x hx k hk; omega
    · simp at hx; subst hx
      have := hnew k hk
      rcases hloc with q | ⟨j, q, hj⟩
      · have := hfv k (q ▸ e); omega
      · rw [q] at e; injection e with e; omega
theorem Tryd.infoBytes : (Tryd.prog.info? 22).map (fun i => (i.zero, i.size, i.bytes)) = some (some (.slice none 0 0), 1, 24) := by kernel_rfl
def posR (w : World) (rb : Nat) : Nat := match w.cell? ⟨rb, 1, none⟩ with
  | some (.int _ n) => n.toNat
  | _ => 0
theorem RdX.pos {w : World} {B rb n x : Nat} (h : RdX w B rb n x) : posR w rb = x := by
  obtain ⟨_, _, _, hc, _⟩ := h
  simp [posR, hc.2.1]
theorem RdX.lt {w : World} {B rb n x : Nat} (h : RdX w B rb n x) : rb < w.heap.size ∧ rb < B := h.rd.lt
theorem seg_pre {w : World} {a : Option Addr} {M n : Nat} {f : Nat → Int} (h : Seg w a M f) (hn : n ≤ M) : Seg w a n f := by
  rcases h with h | ⟨b, off, e, hb, hc⟩
  · exact .inl (by omega)
  · exact .inr ⟨b, off, e, hb, fun i hi => hc i (by omega)⟩
theorem gz_take (zs : List Int) (q n : Nat) (h : q + n ≤ zs.length) : zs.take (q + n) = zs.take q ++ payl (shF (gz zs) q) n := by
  rw [List.take_add]
  congr 1
  refine List.ext_getElem? (fun i => ?_)
  by_cases hi : i < n
  · rw [List.getElem?_take_of_lt hi, List.getElem?_drop]
    simp [payl, shF, gz, List.getD, hi, show q + i < zs.length by omega]
  · rw [List.getElem?_eq_none (by simp; omega), List.getElem?_eq_none (by simp [payl]; omega)]

structure CkI (w wr : World) (zs : List Int) (rb nR q x : Nat) (bv ov : Value) (l : List (Value × List Int)) : Prop where
  bel : Below w.heap.size w wr
  le : q ≤ zs.length
  buf : ∃ a c, bv = .slice a (zs.length - q) c ∧ Seg wr a (zs.length - q) (shF (gz zs) q) ∧ zs.length - q ≤ c ∧ c ≤ 9223372036854775807 ∧ (∀ b, bv.ownBlock = some b → b < w.heap.size)
  ch : ChR wr (w.heap.size + 1) ov l
  rd : RdX wr (w.heap.size + 1) rb nR x
  cat : (l.map (fun y => y.2)).flatten = zs.take q
  ll : l.length ≤ q + x

set_option maxRecDepth 100000 in
set_option maxHeartbeats 1000000 in
theorem chunksC (a : Option Addr) (c : Nat) (zs : List Int) (a2 : Option Addr) (n2 c2 : Nat) (f2 : Nat → Int) (w : World) (hz : zs.length ≤ 5000) (hc1 : zs.length ≤ c) (hc2 : c ≤ 9223372036854775807) (hs : Seg w a zs.length (gz zs)) (ha : ∀ b, (Value.slice a zs.length c).ownBlock = some b → b < w.heap.size) (hnc : n2 ≤ c2) (hn2 : n2 ≤ 9223372036854775807) (h2 : Seg w a2 n2 f2) (hf2 : Byt f2) :
    Calls Tryd.prog 7 #[.slice a zs.length c, .slice a2 n2 c2] w fun e w' => ∃ v l, e = .returned v ∧ ChR w' (w.heap.size + 1) v l ∧ (l.map (fun y => y.2)).flatten = zs ∧ l.length ≤ 6000 ∧ Below w.heap.size w w' := by
  obtain ⟨i0, hi, hz0, hz1, hz2⟩ := info_parts Tryd.infoByte
  obtain ⟨j0, hj, jz0, jz1, jz2⟩ := info_parts Tryd.infoBytes
  have HO := hid (rdOpen a2 n2 c2 f2 w hnc hn2 h2 hf2)
  have HS := hid hs
  have HA := hid ha
  have HZ := hid hz
  have HC1 := hid hc1
  clear h2 hf2 hs ha hz hc1
  go_enter Tryd.func7, Tryd.ntmps7
  go_wp2_with fail
  refine HO.out.mono ?_
  rintro e w1 ⟨rfl, r1, b1⟩
  obtain ⟨nR, x0, r1⟩ := r1.x
  have z1 := b1.size
  have hrl := r1.lt
  have HI0 : Hid (CkI w (w1.alloc (.cells #[] 22)) zs w.heap.size nR 0 x0 (.slice a zs.length c) (.slice (some ⟨w1.heap.size, 0, none⟩) 0 0) []) := hid (by
    have b2 : Below w1.heap.size w1 (w1.alloc (.cells #[] 22)) := (Below.refl _ _).alloc (Nat.le_refl _) _
    have e : shF (gz zs) 0 = gz zs := by funext i; simp [shF]
    exact ⟨keepS b1 b2, Nat.zero_le _, ⟨a, c, rfl, by rw [e]; exact (HS.out.below b1).below b2, HC1.out, hc2, HA.out⟩, chr_lit w1 _ (by omega), r1.below (b2.mono (by omega)), by simp, by simp⟩)
  clear r1 b1 HO HS HA
  go_wp2_with fail
  go_loopw [0, 6] (fun bv ov wr => ∃ (q x : Nat) (l : List (Value × List Int)), CkI w wr zs w.heap.size nR q x bv ov l) (fun bv _ wr => lenOf bv * 1001 + (nR - posR wr w.heap.size))
  case atStart => exact ⟨0, x0, [], HI0.out⟩
  case round =>
    clear HI0
    obtain ⟨q, x, l, hI⟩ := hrel
    obtain ⟨ab, cb, rfl, sb, hb1, hb2, hb3⟩ := hI.buf
    have hpos := hI.rd.pos
    have hrw := hI.rd.lt.1
    have hrd := hI.rd.le
    have hle := hI.le
    have hN : Hid (zs.length ≤ 5000) := HZ
    obtain ⟨M, hM⟩ : ∃ M, zs.length - q = M := ⟨_, rfl⟩
    rw [hM] at sb hb1 ⊢
    have HI := hid hI
    have HM := hid hM
    have HSB := hid sb
    clear hI hM sb
    by_cases h0 : M = 0
    · subst h0
      have HX : Hid ((l.map (fun y => y.2)).flatten = zs) := hid (by
        rw [HI.out.cat, List.take_of_length_le]
        have := HM.out; omega)
      go_wp2_with fail
      go_ret
      exact ⟨_, l, rfl, HI.out.ch, HX.out, by have := HI.out.ll; have := hN.out; omega, HI.out.bel⟩
    · have d0 : decide ((0 : Int) < (M : Int)) = true := by simp; omega
      obtain ⟨gb, off, rfl⟩ : ∃ gb off, ab = some ⟨gb, off, none⟩ := by
        rcases HSB.out with h | ⟨b, o, e, _⟩
        · exact absurd h h0
        · exact ⟨b, o, e⟩
      have hgb : gb < w.heap.size := hb3 gb rfl
      go_wp2_with fail
      refine (rdNextX _ _ nR x wr HI.out.rd).mono ?_
      rintro e w2 ⟨k, hk, rfl, hx2, g2⟩
      have z2 := g2.size
      obtain ⟨x2, hx2', r2⟩ : ∃ x2, (x2 = x + 1 ∨ (nR ≤ x ∧ x2 = x)) ∧ RdX w2 (w.heap.size + 1) w.heap.size nR x2 := by
        rcases hx2 with ⟨h1, h2⟩ | ⟨h1, h2⟩
        · exact ⟨x + 1, .inl rfl, h2⟩
        · exact ⟨x, .inr ⟨h1, rfl⟩, h2⟩
      have B2 : Hid (Below w.heap.size w w2) := hid (HI.out.bel.grown g2 HI.out.bel.size (fun k e => by injection e with e; omega))
      have C2 := hid (HI.out.ch.kept g2 (fun k e => by injection e with e; omega))
      have S2 : Hid (Seg w2 (some ⟨gb, off, none⟩) M (shF (gz zs) q)) := hid (seg_keep (cap := cb) HSB.out z2 (fun b hb => g2.block b (by
        have h3 := hb3 b hb; have h4 := HI.out.bel.size; omega) (fun e => by injection e with e; have := hb3 b hb; omega)))
      have HR2 := hid r2
      have HX2 := hid hx2'
      clear hx2 g2 r2 hx2'
      have HLF := hid (rdLeft _ _ nR x2 w2 HR2.out)
      have hr2 := HR2.out.le
      obtain ⟨L, hL⟩ : ∃ L, nR - x2 = L := ⟨_, rfl⟩
      rw [hL] at HLF
      have HLL := hid hL
      clear hL
      obtain ⟨n0, hn0⟩ : ∃ n0 : Nat, (k : Int) % 7 = (n0 : Int) := ⟨k % 7, by omega⟩
      go_wp2_with fail
      refine HLF.out.mono ?_
      rintro e w3 ⟨rfl, b3⟩
      have S3 := hid (S2.out.below b3)
      have C3 := hid (C2.out.below b3)
      have R3 := hid (HR2.out.below (b3.mono (by omega)))
      have B3 := hid (keepS B2.out b3)
      have z3 := b3.size
      clear b3 HLF S2 C2 B2 HR2
      by_cases hL0 : L = 0
      · have dL : decide ((L : Int) ≤ 0) = true := by simp; omega
        have hpg : 0 < M ∨ x2 = x + 1 := .inl (by omega)
        have j0' : (0 : Int) ≤ (M : Int) := Int.natCast_nonneg _
        have j1' : (M : Int) ≤ (cb : Int) := by omega
        have j2' : (M : Int) ≤ (M : Int) := by omega
        have LIT : Hid ((w3.alloc (.cells #[] 5)).ownsRow w3.heap.size 5 1 (.slice (some ⟨w3.heap.size, 0, none⟩) 0 0) 0 []) := hid (by have := rowE w3 w3.heap.size (Nat.le_refl _); unfold Own at this; simpa using this)
        have SP : Hid (Seg (w3.alloc (.cells #[] 5)) (some ⟨gb, off, none⟩) M (shF (gz zs) q)) := hid (seg_pre (S3.out.below ((Below.refl _ _).alloc (Nat.le_refl _) _)) (by omega))
        go_wp2_with (at_builtin; refine wpList_app_sg rfl _ _ rfl w3.heap.size _ _ _ rfl LIT.out (some ⟨gb, off, none⟩) M cb (shF (gz zs) q) rfl SP.out ?c3 ?c4 ?c5 ?_)
        case c3 => have h5 := hN.out; have h6 := HM.out; unfold maxLen; omega
        case c4 => have h5 := hN.out; have h6 := HM.out; omega
        case c5 => simp
        intro v4 w4 hown4 hgr4 hloc4
        have O4 : Hid (Own w4 w3.heap.size v4 (payl (shF (gz zs) q) M)) := hid (payl_own (w := w4) (B := w3.heap.size) (v := v4) (f := shF (gz zs) q) (l := M) rfl (by rw [Nat.zero_add, List.nil_append]; first | exact hown4 | (simpa using hown4)))
        have B4 : Hid (Below w3.heap.size w3 w4) := hid (((Below.refl _ w3).alloc (Nat.le_refl _) _).grown hgr4 (by simp) (fun k hk => by simp [Value.ownBlock] at hk; omega))
        obtain ⟨pa, pc, rfl, _⟩ := O4.out.any
        rw [payl_len] at O4 ⊢
        have z4 := B4.out.size
        have ROW : Hid ((w4.alloc (.cells #[.slice pa M pc] 22)).ownsRow (w.heap.size + 1) 22 1 u6 l.length (l.map (fun x => x.1))) := hid (World.ownsRow.alloc (C3.out.below B4.out).row _)
        have hN5 := hN.out
        have hll := HI.out.ll
        have hbs := HI.out.bel.size
        have hM' := HM.out
        clear hown4 hgr4 hloc4 LIT SP
        go_wp2_with (at_builtin; refine wpList_app_at rfl _ _ 29 rfl (w.heap.size + 1) 22 j0 _ 1 24 Tryd.underlying29 hj jz0 jz1 jz2 rfl (by decide) _ _ _ rfl ROW.out ⟨w4.heap.size, 0, none⟩ 1 1 [.slice pa M pc] rfl rfl ?d1 ?d2 ?d3 ?d4 ?d5 ?_)
        case d1 => exact cell_one_new _ _ _
        case d2 => intro u hu; simp at hu; subst hu; rfl
        case d3 => unfold maxLen; omega
        case d4 => omega
        case d5 => simp; omega
        intro v5 w5 hown5 hgr5 hloc5
        have gg5 : w4.grownBy w5 u6.ownBlock := (World.grownBy_alloc w4 _ _).trans hgr5
        have hov : ∀ k, u6.ownBlock = some k → w.heap.size + 1 ≤ k := fun k hk => (World.ownsRow.lt C3.out.row k hk).1
        have C5 := hid (C3.out.step (by omega) B4.out O4.out gg5 hown5 (hloc5.imp id (fun e => ⟨_, e, by simp⟩)))
        have B5 : Below (w.heap.size + 1) w3 w5 := (B4.out.mono (by omega)).grown gg5 (by omega) hov
        have BL5 : Hid (Below w.heap.size w w5) := hid (B3.out.trans (B5.mono (by omega)))
        have R5 := hid (R3.out.below B5)
        have S5 : Hid (∀ i, i < M → w5.cell? ⟨gb, off + i, none⟩ = some (.int .u8 (shF (gz zs) q i))) := hid (fun i hi => by
          rcases S3.out with h | ⟨b', o', e, _, hc⟩
          · omega
          · injection e with e; injection e with e1 e2 _
            subst e1 e2
            exact (B5.cell (p := ⟨gb, off + i, none⟩) (show gb < w.heap.size + 1 by omega)).trans (hc i hi))
        have z5 := B5.size
        have HN5 : Hid (CkI w w5 zs w.heap.size nR (q + M) x2 (.slice (if cb = M then some ⟨gb, off, none⟩ else some ⟨gb, off + M, none⟩) (M - M) (cb - M)) v5 (l ++ [(.slice pa M pc, payl (shF (gz zs) q) M)])) := hid (by
          refine ⟨BL5.out, by omega, ⟨_, _, by rw [show zs.length - (q + M) = M - M by omega], ?_, by omega, by omega, fun b hb => ?_⟩, C5.out, R5.out, ?_, ?_⟩
          · rw [show zs.length - (q + M) = M - M by omega]
            by_cases hz : M - M = 0
            · exact .inl hz
            · rw [if_neg (by omega)]
              refine .inr ⟨gb, off + M, rfl, by omega, fun i hi => ?_⟩
              have := S5.out (M + i) (by omega)
              rw [Nat.add_assoc, this]
              simp [shF, Nat.add_assoc]
          · by_cases hcc : cb = M
            · rw [if_pos hcc] at hb; simp [Value.ownBlock] at hb; omega
            · rw [if_neg hcc] at hb; simp [Value.ownBlock] at hb; omega
          · rw [List.map_append, List.flatten_append, HI.out.cat, gz_take zs q M (by omega)]
            simp
          · rw [List.length_append]; show l.length + 1 ≤ _; have hxx := HX2.out; omega)
        have HMS : Hid ((M - M) * 1001 + (nR - posR w5 w.heap.size) < M * 1001 + (nR - posR wr w.heap.size)) := hid (by
          rw [R5.out.pos, hpos]
          have := hr2.1
          have := hr2.2
          rcases hpg with h | h
          · have : (M - M) * 1001 ≤ (M - 1) * 1001 := Nat.mul_le_mul_right _ (by omega)
            have : M * 1001 = (M - 1) * 1001 + 1001 := by rw [← Nat.succ_mul]; congr 1; omega
            omega
          · have : (M - M) * 1001 ≤ M * 1001 := Nat.mul_le_mul_right _ (by omega)
            omega)
        clear hown5 hgr5 hloc5 gg5 B5 C5 R5 S5 BL5 hov ROW O4 B4 C3 S3 R3 B3
        go_wp2_with fail
        go_roundw
        case rel => first | exact ⟨_, _, _, HN5.out⟩ | (have h := HN5.out; rw [Nat.sub_self] at h; exact ⟨_, _, _, h⟩)
        case measure => simpa [lenOf] using HMS.out
      by_cases hgt : M < n0
      · have dL : decide ((L : Int) ≤ 0) = false := by simp; omega
        have dG : decide ((M : Int) < (n0 : Int)) = true := by simp; omega
        have hpg : 0 < M ∨ x2 = x + 1 := .inl (by omega)
        have j0' : (0 : Int) ≤ (M : Int) := Int.natCast_nonneg _
        have j1' : (M : Int) ≤ (cb : Int) := by omega
        have j2' : (M : Int) ≤ (M : Int) := by omega
        have LIT : Hid ((w3.alloc (.cells #[] 5)).ownsRow w3.heap.size 5 1 (.slice (some ⟨w3.heap.size, 0, none⟩) 0 0) 0 []) := hid (by have := rowE w3 w3.heap.size (Nat.le_refl _); unfold Own at this; simpa using this)
        have SP : Hid (Seg (w3.alloc (.cells #[] 5)) (some ⟨gb, off, none⟩) M (shF (gz zs) q)) := hid (seg_pre (S3.out.below ((Below.refl _ _).alloc (Nat.le_refl _) _)) (by omega))
        go_wp2_with (at_builtin; refine wpList_app_sg rfl _ _ rfl w3.heap.size _ _ _ rfl LIT.out (some ⟨gb, off, none⟩) M cb (shF (gz zs) q) rfl SP.out ?c3 ?c4 ?c5 ?_)
        case c3 => have h5 := hN.out; have h6 := HM.out; unfold maxLen; omega
        case c4 => have h5 := hN.out; have h6 := HM.out; omega
        case c5 => simp
        intro v4 w4 hown4 hgr4 hloc4
        have O4 : Hid (Own w4 w3.heap.size v4 (payl (shF (gz zs) q) M)) := hid (payl_own (w := w4) (B := w3.heap.size) (v := v4) (f := shF (gz zs) q) (l := M) rfl (by rw [Nat.zero_add, List.nil_append]; first | exact hown4 | (simpa using hown4)))
        have B4 : Hid (Below w3.heap.size w3 w4) := hid (((Below.refl _ w3).alloc (Nat.le_refl _) _).grown hgr4 (by simp) (fun k hk => by simp [Value.ownBlock] at hk; omega))
        obtain ⟨pa, pc, rfl, _⟩ := O4.out.any
        rw [payl_len] at O4 ⊢
        have z4 := B4.out.size
        have ROW : Hid ((w4.alloc (.cells #[.slice pa M pc] 22)).ownsRow (w.heap.size + 1) 22 1 u6 l.length (l.map (fun x => x.1))) := hid (World.ownsRow.alloc (C3.out.below B4.out).row _)
        have hN5 := hN.out
        have hll := HI.out.ll
        have hbs := HI.out.bel.size
        have hM' := HM.out
        clear hown4 hgr4 hloc4 LIT SP
        go_wp2_with (at_builtin; refine wpList_app_at rfl _ _ 29 rfl (w.heap.size + 1) 22 j0 _ 1 24 Tryd.underlying29 hj jz0 jz1 jz2 rfl (by decide) _ _ _ rfl ROW.out ⟨w4.heap.size, 0, none⟩ 1 1 [.slice pa M pc] rfl rfl ?d1 ?d2 ?d3 ?d4 ?d5 ?_)
        case d1 => exact cell_one_new _ _ _
        case d2 => intro u hu; simp at hu; subst hu; rfl
        case d3 => unfold maxLen; omega
        case d4 => omega
        case d5 => simp; omega
        intro v5 w5 hown5 hgr5 hloc5
        have gg5 : w4.grownBy w5 u6.ownBlock := (World.grownBy_alloc w4 _ _).trans hgr5
        have hov : ∀ k, u6.ownBlock = some k → w.heap.size + 1 ≤ k := fun k hk => (World.ownsRow.lt C3.out.row k hk).1
        have C5 := hid (C3.out.step (by omega) B4.out O4.out gg5 hown5 (hloc5.imp id (fun e => ⟨_, e, by simp⟩)))
        have B5 : Below (w.heap.size + 1) w3 w5 := (B4.out.mono (by omega)).grown gg5 (by omega) hov
        have BL5 : Hid (Below w.heap.size w w5) := hid (B3.out.trans (B5.mono (by omega)))
        have R5 := hid (R3.out.below B5)
        have S5 : Hid (∀ i, i < M → w5.cell? ⟨gb, off + i, none⟩ = some (.int .u8 (shF (gz zs) q i))) := hid (fun i hi => by
          rcases S3.out with h | ⟨b', o', e, _, hc⟩
          · omega
          · injection e with e; injection e with e1 e2 _
            subst e1 e2
            exact (B5.cell (p := ⟨gb, off + i, none⟩) (show gb < w.heap.size + 1 by omega)).trans (hc i hi))
        have z5 := B5.size
        have HN5 : Hid (CkI w w5 zs w.heap.size nR (q + M) x2 (.slice (if cb = M then some ⟨gb, off, none⟩ else some ⟨gb, off + M, none⟩) (M - M) (cb - M)) v5 (l ++ [(.slice pa M pc, payl (shF (gz zs) q) M)])) := hid (by
          refine ⟨BL5.out, by omega, ⟨_, _, by rw [show zs.length - (q + M) = M - M by omega], ?_, by omega, by omega, fun b hb => ?_⟩, C5.out, R5.out, ?_, ?_⟩
          · rw [show zs.length - (q + M) = M - M by omega]
            by_cases hz : M - M = 0
            · exact .inl hz
            · rw [if_neg (by omega)]
              refine .inr ⟨gb, off + M, rfl, by omega, fun i hi => ?_⟩
              have := S5.out (M + i) (by omega)
              rw [Nat.add_assoc, this]
              simp [shF, Nat.add_assoc]
          · by_cases hcc : cb = M
            · rw [if_pos hcc] at hb; simp [Value.ownBlock] at hb; omega
            · rw [if_neg hcc] at hb; simp [Value.ownBlock] at hb; omega
          · rw [List.map_append, List.flatten_append, HI.out.cat, gz_take zs q M (by omega)]
            simp
          · rw [List.length_append]; show l.length + 1 ≤ _; have hxx := HX2.out; omega)
        have HMS : Hid ((M - M) * 1001 + (nR - posR w5 w.heap.size) < M * 1001 + (nR - posR wr w.heap.size)) := hid (by
          rw [R5.out.pos, hpos]
          have := hr2.1
          have := hr2.2
          rcases hpg with h | h
          · have : (M - M) * 1001 ≤ (M - 1) * 1001 := Nat.mul_le_mul_right _ (by omega)
            have : M * 1001 = (M - 1) * 1001 + 1001 := by rw [← Nat.succ_mul]; congr 1; omega
            omega
          · have : (M - M) * 1001 ≤ M * 1001 := Nat.mul_le_mul_right _ (by omega)
            omega)
        clear hown5 hgr5 hloc5 gg5 B5 C5 R5 S5 BL5 hov ROW O4 B4 C3 S3 R3 B3
        go_wp2_with fail
        go_roundw
        case rel => first | exact ⟨_, _, _, HN5.out⟩ | (have h := HN5.out; rw [Nat.sub_self] at h; exact ⟨_, _, _, h⟩)
        case measure => simpa [lenOf] using HMS.out
      · have dL : decide ((L : Int) ≤ 0) = false := by simp; omega
        have dG : decide ((M : Int) < (n0 : Int)) = false := by simp; omega
        have hpg : 0 < n0 ∨ x2 = x + 1 := by
          have := HX2.out
          have := HLL.out
          omega
        have j0' : (0 : Int) ≤ (n0 : Int) := Int.natCast_nonneg _
        have j1' : (n0 : Int) ≤ (cb : Int) := by omega
        have j2' : (n0 : Int) ≤ (M : Int) := by omega
        have LIT : Hid ((w3.alloc (.cells #[] 5)).ownsRow w3.heap.size 5 1 (.slice (some ⟨w3.heap.size, 0, none⟩) 0 0) 0 []) := hid (by have := rowE w3 w3.heap.size (Nat.le_refl _); unfold Own at this; simpa using this)
        have SP : Hid (Seg (w3.alloc (.cells #[] 5)) (some ⟨gb, off, none⟩) n0 (shF (gz zs) q)) := hid (seg_pre (S3.out.below ((Below.refl _ _).alloc (Nat.le_refl _) _)) (by omega))
        go_wp2_with (at_builtin; refine wpList_app_sg rfl _ _ rfl w3.heap.size _ _ _ rfl LIT.out (some ⟨gb, off, none⟩) n0 cb (shF (gz zs) q) rfl SP.out ?c3 ?c4 ?c5 ?_)
        case c3 => have h5 := hN.out; have h6 := HM.out; unfold maxLen; omega
        case c4 => have h5 := hN.out; have h6 := HM.out; omega
        case c5 => simp
        intro v4 w4 hown4 hgr4 hloc4
        have O4 : Hid (Own w4 w3.heap.size v4 (payl (shF (gz zs) q) n0)) := hid (payl_own (w := w4) (B := w3.heap.size) (v := v4) (f := shF (gz zs) q) (l := n0) rfl (by rw [Nat.zero_add, List.nil_append]; first | exact hown4 | (simpa using hown4)))
        have B4 : Hid (Below w3.heap.size w3 w4) := hid (((Below.refl _ w3).alloc (Nat.le_refl _) _).grown hgr4 (by simp) (fun k hk => by simp [Value.ownBlock] at hk; omega))
        obtain ⟨pa, pc, rfl, _⟩ := O4.out.any
        rw [payl_len] at O4 ⊢
        have z4 := B4.out.size
        have ROW : Hid ((w4.alloc (.cells #[.slice pa n0 pc] 22)).ownsRow (w.heap.size + 1) 22 1 u6 l.length (l.map (fun x => x.1))) := hid (World.ownsRow.alloc (C3.out.below B4.out).row _)
        have hN5 := hN.out
        have hll := HI.out.ll
        have hbs := HI.out.bel.size
        have hM' := HM.out
        clear hown4 hgr4 hloc4 LIT SP
        go_wp2_with (at_builtin; refine wpList_app_at rfl _ _ 29 rfl (w.heap.size + 1) 22 j0 _ 1 24 Tryd.underlying29 hj jz0 jz1 jz2 rfl (by decide) _ _ _ rfl ROW.out ⟨w4.heap.size, 0, none⟩ 1 1 [.slice pa n0 pc] rfl rfl ?d1 ?d2 ?d3 ?d4 ?d5 ?_)
        case d1 => exact cell_one_new _ _ _
        case d2 => intro u hu; simp at hu; subst hu; rfl
        case d3 => unfold maxLen; omega
        case d4 => omega
        case d5 => simp; omega
        intro v5 w5 hown5 hgr5 hloc5
        have gg5 : w4.grownBy w5 u6.ownBlock := (World.grownBy_alloc w4 _ _).trans hgr5
        have hov : ∀ k, u6.ownBlock = some k → w.heap.size + 1 ≤ k := fun k hk => (World.ownsRow.lt C3.out.row k hk).1
        have C5 := hid (C3.out.step (by omega) B4.out O4.out gg5 hown5 (hloc5.imp id (fun e => ⟨_, e, by simp⟩)))
        have B5 : Below (w.heap.size + 1) w3 w5 := (B4.out.mono (by omega)).grown gg5 (by omega) hov
        have BL5 : Hid (Below w.heap.size w w5) := hid (B3.out.trans (B5.mono (by omega)))
        have R5 := hid (R3.out.below B5)
        have S5 : Hid (∀ i, i < M → w5.cell? ⟨gb, off + i, none⟩ = some (.int .u8 (shF (gz zs) q i))) := hid (fun i hi => by
          rcases S3.out with h | ⟨b', o', e, _, hc⟩
          · omega
          · injection e with e; injection e with e1 e2 _
            subst e1 e2
            exact (B5.cell (p := ⟨gb, off + i, none⟩) (show gb < w.heap.size + 1 by omega)).trans (hc i hi))
        have z5 := B5.size
        have HN5 : Hid (CkI w w5 zs w.heap.size nR (q + n0) x2 (.slice (if cb = n0 then some ⟨gb, off, none⟩ else some ⟨gb, off + n0, none⟩) (M - n0) (cb - n0)) v5 (l ++ [(.slice pa n0 pc, payl (shF (gz zs) q) n0)])) := hid (by
          refine ⟨BL5.out, by omega, ⟨_, _, by rw [show zs.length - (q + n0) = M - n0 by omega], ?_, by omega, by omega, fun b hb => ?_⟩, C5.out, R5.out, ?_, ?_⟩
          · rw [show zs.length - (q + n0) = M - n0 by omega]
            by_cases hz : M - n0 = 0
            · exact .inl hz
            · rw [if_neg (by omega)]
              refine .inr ⟨gb, off + n0, rfl, by omega, fun i hi => ?_⟩
              have := S5.out (n0 + i) (by omega)
              rw [Nat.add_assoc, this]
              simp [shF, Nat.add_assoc]
          · by_cases hcc : cb = n0
            · rw [if_pos hcc] at hb; simp [Value.ownBlock] at hb; omega
            · rw [if_neg hcc] at hb; simp [Value.ownBlock] at hb; omega
          · rw [List.map_append, List.flatten_append, HI.out.cat, gz_take zs q n0 (by omega)]
            simp
          · rw [List.length_append]; show l.length + 1 ≤ _; have hxx := HX2.out; omega)
        have HMS : Hid ((M - n0) * 1001 + (nR - posR w5 w.heap.size) < M * 1001 + (nR - posR wr w.heap.size)) := hid (by
          rw [R5.out.pos, hpos]
          have := hr2.1
          have := hr2.2
          rcases hpg with h | h
          · have : (M - n0) * 1001 ≤ (M - 1) * 1001 := Nat.mul_le_mul_right _ (by omega)
            have : M * 1001 = (M - 1) * 1001 + 1001 := by rw [← Nat.succ_mul]; congr 1; omega
            omega
          · have : (M - n0) * 1001 ≤ M * 1001 := Nat.mul_le_mul_right _ (by omega)
            omega)
        clear hown5 hgr5 hloc5 gg5 B5 C5 R5 S5 BL5 hov ROW O4 B4 C3 S3 R3 B3
        go_wp2_with fail
        go_roundw
        case rel => first | exact ⟨_, _, _, HN5.out⟩ | (have h := HN5.out; rw [Nat.sub_self] at h; exact ⟨_, _, _, h⟩)
        case measure => simpa [lenOf] using HMS.out
end Go.Proofs.YthkppnmnjboiaaaDoor
