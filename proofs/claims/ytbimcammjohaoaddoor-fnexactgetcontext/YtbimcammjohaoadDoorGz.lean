import Derived.Test.YtbimcammjohaoadDoorGx
import Derived.Test.YtbimcammjohaoadDoorGy
import Derived.Test.YtbimcammjohaoadDoorFs
import Derived.Test.YtbimcammjohaoadDoorPutL
import Derived.Laws.IdiomStrings
namespace Go.Proofs.YtbimcammjohaoadDoor
open Go.ChangeShapes Go.WideShapes Go.ChangeAt Go.RowKit Go.Maps
set_option linter.unusedVariables false
set_option linter.unusedSimpArgs false

def strG (f : Nat → Int) (p L : Nat) : ByteArray := ⟨((List.range L).map fun i => UInt8.ofNat (f (p + i)).toNat).toArray⟩
theorem strG_conv {w : World} {b off L cap : Nat} {f : Nat → Int} (p : Nat) (hf : Byt f) (hc : ∀ i, i < L → w.cell? ⟨b, off + i, none⟩ = some (.int .u8 (f (p + i)))) :
    (convert 22 9 (.slice (some ⟨b, off, none⟩) L cap)).run Tryd.prog w = .ok (.string (strG f p L)) w := by
  have hl : ((List.range L).map fun i => UInt8.ofNat (f (p + i)).toNat).length = L := by simp
  have := run_convert_bytes_back (P := Tryd.prog) w 22 9 5 ⟨b, off, none⟩ cap ((List.range L).map fun i => UInt8.ofNat (f (p + i)).toNat) Tryd.underlying22 Tryd.underlying5 Tryd.underlying9 (fun j hj => by
    have hj' : j < L := by simpa using hj
    have e : (Addr.add ⟨b, off, none⟩ j) = ⟨b, off + j, none⟩ := by
      by_cases h0 : j = 0
      · subst h0; simp [Addr.add]
      · simp [Addr.add, h0]
    rw [e, hc j hj']
    have := hf (p + j)
    simp only [List.getElem_map, List.getElem_range, Option.some.injEq, Value.int.injEq, true_and]
    have h2 : (UInt8.ofNat (f (p + j)).toNat).toNat = (f (p + j)).toNat % 256 := by simp
    rw [h2]; omega)
  rw [hl] at this
  exact this
theorem strG_eq {f g : Nat → Int} (hf : Byt f) (hg : Byt g) {p q L M : Nat} : strG f p L = strG g q M ↔ L = M ∧ ∀ i, i < L → f (p + i) = g (q + i) := by
  constructor
  · intro h
    have h1 : ((List.range L).map fun i => UInt8.ofNat (f (p + i)).toNat) = ((List.range M).map fun i => UInt8.ofNat (g (q + i)).toNat) := by
      have := congrArg (fun b : ByteArray => b.data.toList) h
      simpa [strG] using this
    have hl : L = M := by have := congrArg List.length h1; simpa using this
    subst hl
    refine ⟨rfl, fun i hi => ?_⟩
    have h2 := congrArg (fun l : List UInt8 => (l.getD i 0).toNat) h1
    simp [List.getD, hi] at h2
    have := hf (p + i)
    have := hg (q + i)
    omega
  · rintro ⟨rfl, h⟩
    unfold strG
    congr 2
    refine List.map_congr_left (fun i hi => ?_)
    rw [h i (by simpa using hi)]

theorem ldCtx_pos {f : Nat → Int} (hf : Byt f) {n x x' : Nat} {l : List Rn} (h : ldCtx f n x = some (l, x')) : x < n := by
  unfold ldCtx at h
  obtain ⟨a, h1, _⟩ := Option.bind_eq_some_iff.1 h
  have := (rd_iff hf).1 (show rd f n x 8 = some (a.1, a.2) from h1)
  have h2 := (uvF_len 9 a.1).2
  omega

theorem rd_mono {f : Nat → Int} (hf : Byt f) {n x : Nat} {most : Int} {a : Nat × Nat} (h : rd f n x most = some a) : x ≤ a.2 := by
  have := (rd_iff hf).1 (show rd f n x most = some (a.1, a.2) from h)
  omega
theorem ldSpans_mono {f : Nat → Int} (hf : Byt f) {n : Nat} (rep : Int) : ∀ (k : Nat) (last : Int) (x : Nat) (a : List Rn × Nat), ldSpans f n rep k last x = some a → x ≤ a.2
  | 0, last, x, a, h => by simp [ldSpans] at h; rw [← h]; exact Nat.le_refl _
  | k + 1, last, x, a, h => by
    rw [ldSpans_succ] at h
    obtain ⟨b, h1, h⟩ := Option.bind_eq_some_iff.1 h
    obtain ⟨d, h2, h⟩ := Option.bind_eq_some_iff.1 h
    obtain ⟨e, h3, h⟩ := Option.bind_eq_some_iff.1 h
    have := ldSpans_mono hf rep k _ _ _ h3
    have := rd_mono hf h1
    have := rd_mono hf h2
    injection h with h
    rw [← h]
    show x ≤ e.2
    omega
theorem ldReps_mono {f : Nat → Int} (hf : Byt f) {n : Nat} : ∀ (k : Nat) (x : Nat) (a : List Rn × Nat), ldReps f n k x = some a → x ≤ a.2
  | 0, x, a, h => by simp [ldReps] at h; rw [← h]; exact Nat.le_refl _
  | k + 1, x, a, h => by
    rw [ldReps_succ] at h
    obtain ⟨b, h1, h⟩ := Option.bind_eq_some_iff.1 h
    obtain ⟨d, h2, h⟩ := Option.bind_eq_some_iff.1 h
    obtain ⟨e, h3, h⟩ := Option.bind_eq_some_iff.1 h
    obtain ⟨g, h4, h⟩ := Option.bind_eq_some_iff.1 h
    have := ldReps_mono hf k _ _ h4
    have := ldSpans_mono hf _ _ _ _ _ h3
    have := rd_mono hf h1
    have := rd_mono hf h2
    injection h with h
    rw [← h]
    show x ≤ g.2
    omega
theorem ldCtx_mono {f : Nat → Int} (hf : Byt f) {n x : Nat} {l : List Rn} {x' : Nat} (h : ldCtx f n x = some (l, x')) : x ≤ x' := by
  unfold ldCtx at h
  obtain ⟨b, h1, h⟩ := Option.bind_eq_some_iff.1 h
  have := ldReps_mono hf _ _ _ h
  have := rd_mono hf h1
  dsimp only at *
  omega
theorem encS_byte : ∀ (l : List (Int × Int)) (least : Int), okS least l → 1 ≤ least → ∀ z ∈ encS least l, 0 ≤ z ∧ z < 256
  | [], _, _, _, z, hz => by simp [encS] at hz
  | p :: l, least, ⟨o1, o2, o3, o4⟩, h1, z, hz => by
    have hz' : z ∈ uvF 9 (p.1 - least).toNat ++ uvF 9 (p.2 - p.1).toNat ++ encS (p.2 + 2) l := hz
    rcases List.mem_append.1 hz' with h | h
    · rcases List.mem_append.1 h with h | h
      · exact uvF_byte 9 _ (by omega) z h
      · exact uvF_byte 9 _ (by omega) z h
    · exact encS_byte l _ o4 (by omega) z h
theorem encR_byte : ∀ (g : List (Int × List (Int × Int))) (before left : Int), okR before left g → left ≤ 1000 → ∀ z ∈ encR g, 0 ≤ z ∧ z < 256
  | [], _, _, _, _, z, hz => by simp [encR] at hz
  | p :: g, before, left, ⟨o1, o2, o3, o4, o5, o6, o7⟩, hl, z, hz => by
    have hz' : z ∈ uvF 9 p.1.toNat ++ uvF 9 p.2.length ++ encS 1 p.2 ++ encR g := hz
    rcases List.mem_append.1 hz' with h | h
    · rcases List.mem_append.1 h with h | h
      · rcases List.mem_append.1 h with h | h
        · exact uvF_byte 9 _ (by omega) z h
        · exact uvF_byte 9 _ (by omega) z h
      · exact encS_byte _ 1 o6 (by omega) z h
    · exact encR_byte g _ _ o7 (by omega) z h
theorem encC_byte {g : List (Int × List (Int × Int))} (h : okR (-1) 1000 g) : ∀ z ∈ encC g, 0 ≤ z ∧ z < 256 := by
  intro z hz
  unfold encC at hz
  have := okR_len g _ _ h (by omega) (by omega)
  rcases List.mem_append.1 hz with h1 | h1
  · exact uvF_byte 9 _ (by omega) z h1
  · exact encR_byte g _ _ h (by omega) z h1

set_option maxRecDepth 100000 in
set_option maxHeartbeats 1000000 in
theorem specGet (a : Option Addr) (n c : Nat) (x : Int) (f : Nat → Int) (w : World) (hn : n ≤ 1048576) (hnc : n ≤ c) (hcc : c ≤ 1048576) (hf : Byt f) (hs : Seg w a n f) :
    Calls Tryd.prog 5 #[.slice a n c, .int .i64 x] w fun e w' => Below w.heap.size w w' ∧
      ((∃ (g : List (Int × List (Int × Int))) (x' : Nat) (v : Value), rdC f n x = some (g, x') ∧ e = .returned (.tuple #[.agg #[v], .int .i64 (x' : Int), .int .i64 0]) ∧ FR w' w.heap.size v (flatG g)) ∨
       (rdC f n x = none ∧ e = .returned (.tuple #[.agg #[.slice none 0 0], .int .i64 x, .int .i64 1]))) := by
  obtain ⟨W, hW⟩ : ∃ W, w.alloc (.cells #[.slice none 0 0] 25) = W := ⟨_, rfl⟩
  have bW : Below w.heap.size w W := by rw [← hW]; exact (Below.refl _ _).alloc (Nat.le_refl _) _
  have HZ : Hid (W.heap.size = w.heap.size + 1) := by rw [← hW]; exact hid (by simp)
  have k0 : W.cell? ⟨w.heap.size, 0, none⟩ = some (.slice none 0 0) := by rw [← hW]; simp
  have k1 : W.frozen? ⟨w.heap.size, 0, none⟩ = false := by rw [← hW]; simp
  by_cases hx : x < 0 ∨ (n : Int) < x
  · have HR : Hid (rdC f n x = none) := by
      cases h : rdC f n x with
      | none => exact hid rfl
      | some r => have := rdC_in hf (g := r.1) (x' := r.2) h; omega
    have HBW := hid bW
    clear hs bW
    by_cases h0 : x < 0
    · have d0 : decide (x < 0) = true := by simpa using h0
      go_enter Tryd.func5, Tryd.ntmps5
      go_wp2_with fail
      try rw [hW]
      clear hW
      go_wp2_with fail
      have k4 := World.cell?_setCell_same W ⟨w.heap.size, 0, none⟩ (.slice none 0 0) k0
      exact bodyPost_ret (v := .tuple #[.agg #[.slice none 0 0], .int .i64 x, .int .i64 1]) (by simp [results, Tryd.results5, go_sem, k4]) rfl ⟨HBW.out.setCell (p := ⟨w.heap.size, 0, none⟩) (Nat.le_refl _) _, .inr ⟨HR.out, rfl⟩⟩
    · have d0 : decide (x < 0) = false := by simpa using h0
      have d1 : decide ((n : Int) < x) = true := by simp; omega
      go_enter Tryd.func5, Tryd.ntmps5
      go_wp2_with fail
      try rw [hW]
      clear hW
      go_wp2_with fail
      have k4 := World.cell?_setCell_same W ⟨w.heap.size, 0, none⟩ (.slice none 0 0) k0
      exact bodyPost_ret (v := .tuple #[.agg #[.slice none 0 0], .int .i64 x, .int .i64 1]) (by simp [results, Tryd.results5, go_sem, k4]) rfl ⟨HBW.out.setCell (p := ⟨w.heap.size, 0, none⟩) (Nat.le_refl _) _, .inr ⟨HR.out, rfl⟩⟩
  · obtain ⟨p, rfl⟩ : ∃ p : Nat, x = (p : Int) := ⟨x.toNat, by omega⟩
    have hpn : p ≤ n := by omega
    have d0 : decide ((p : Int) < 0) = false := by simp
    have d1 : decide ((n : Int) < (p : Int)) = false := by simp; omega
    have HL := hid (l2ReadC a n c p f W hn hf (hs.below bW) hpn)
    have HS := hid hs
    have HBW := hid bW
    clear hs bW hx
    go_enter Tryd.func5, Tryd.ntmps5
    go_wp2_with fail
    try rw [hW]
    clear hW
    refine HL.out.mono ?_
    rintro e w1 ⟨b1, ⟨l, x', v, hr, hxn, rfl, hfr, hll⟩ | ⟨hr, ya, nv, cv, y, rfl⟩⟩
    · have HB1 := hid (HBW.out.trans (b1.mono HBW.out.size))
      have hz := HZ.out
      have z1 := b1.size
      have q0 := (b1.cell (p := ⟨w.heap.size, 0, none⟩) (show w.heap.size < W.heap.size by omega)).trans k0
      have q1 := ((bcell b1).2 w.heap.size 0 (show w.heap.size < W.heap.size by omega)).trans k1
      obtain ⟨av, cv, rfl, hfs, hv1, hv2⟩ := hfr.fs
      have HFR := hid hfr
      have HR := hid hr
      have hpos := ldCtx_pos hf hr
      have HRS := hid hfs.rseg
      obtain ⟨W2, hW2⟩ : ∃ W2, w1.alloc (.cells #[.slice av l.length cv] 25) = W2 := ⟨_, rfl⟩
      have b2 : Below w1.heap.size w1 W2 := by rw [← hW2]; exact (Below.refl _ _).alloc (Nat.le_refl _) _
      have r2 : W2.cell? ⟨w1.heap.size, 0, none⟩ = some (.slice av l.length cv) := by rw [← hW2]; simp
      have HZ2 : Hid (W2.heap.size = w1.heap.size + 1) := by rw [← hW2]; exact hid (by simp)
      have HP := hid (specPutA av l.length cv _ _ _ W2 (by omega) (HRS.out.below b2))
      have HB2 := hid (HB1.out.trans (b2.mono HB1.out.size))
      have q2 := (b2.cell (p := ⟨w.heap.size, 0, none⟩) (show w.heap.size < w1.heap.size by omega)).trans q0
      have q3 := ((bcell b2).2 w.heap.size 0 (show w.heap.size < w1.heap.size by omega)).trans q1
      have HFR2 := hid (hfr.below b2)
      clear b1 HL hr hfr k0 k1 q0 q1 b2 hfs
      go_wp2_with fail
      try rw [hW2]
      clear hW2
      refine HP.out.mono ?_
      rintro e w3 ⟨v3, rfl, own3, b3⟩
      have hz2 := HZ2.out
      have HB3 := hid (HB2.out.trans (b3.mono HB2.out.size))
      have z3 := b3.size
      have q4 := (b3.cell (p := ⟨w.heap.size, 0, none⟩) (show w.heap.size < W2.heap.size by omega)).trans q2
      have q5 := ((bcell b3).2 w.heap.size 0 (show w.heap.size < W2.heap.size by omega)).trans q3
      have r4 := (b3.cell (p := ⟨w1.heap.size, 0, none⟩) (show w1.heap.size < W2.heap.size by omega)).trans r2
      have HFR3 := hid (HFR2.out.below b3)
      obtain ⟨C, hC⟩ : ∃ C, ctxB (fun i => (gR l i).1) (fun i => (gR l i).2.1) (fun i => (gR l i).2.2) l.length = C := ⟨_, rfl⟩
      rw [hC]
      cases C with
      | false =>
        have HR2 : Hid (rdC f n (p : Int) = none) := by
          rw [rdC_nat]
          cases h : rdCtx f n p with
          | none => exact hid rfl
          | some r =>
            have h1 := ldCtx_of hf hpn (g := r.1) (x' := r.2) h
            rw [HR.out] at h1
            injection h1 with h1
            injection h1 with h1 h2
            have h3 := (groups_ctx ((rdCtx_iff hf hpn).1 (show rdCtx f n p = some (r.1, r.2) from h)).1).1
            rw [← h1] at h3
            have h4 : ctxB (lR l) (lF l) (lT l) l.length = false := hC
            rw [h4] at h3; cases h3
        clear hC own3 b3 HP q2 q3 r2
        go_wp2_with fail
        go_quiet (fail)
        go_wp2_with fail
        have k4 := World.cell?_setCell_same (w3.drewN nq) ⟨w.heap.size, 0, none⟩ (.slice none 0 0) q4
        exact bodyPost_ret (v := .tuple #[.agg #[.slice none 0 0], .int .i64 (p : Int), .int .i64 1]) (by simp [results, Tryd.results5, go_sem, k4]) rfl ⟨(below_drewN HB3.out _).setCell (p := ⟨w.heap.size, 0, none⟩) (Nat.le_refl _) _, .inr ⟨HR2.out, rfl⟩⟩
      | true =>
        have hC' : ctxB (lR l) (lF l) (lT l) l.length = true := hC
        have e0 : putZ (fun i => (gR l i).1) (fun i => (gR l i).2.1) (fun i => (gR l i).2.2) l.length = putB (Lk (lR l) (lF l) (lT l) l.length) := by unfold putZ; rw [hC]; rfl
        obtain ⟨zs, hzs⟩ : ∃ zs, putB (Lk (lR l) (lF l) (lT l) l.length) = zs := ⟨_, rfl⟩
        rw [e0, hzs] at own3
        obtain ⟨va, vc, rfl, sg3⟩ := own3.any
        have hzl : 0 < zs.length := by rw [← hzs, putB_enc]; unfold encC; rw [List.length_append]; have := (uvF_len 9 (grps (Lk (lR l) (lF l) (lT l) l.length)).length).2; omega
        have hcg := ctx_groups hC'
        have hfz : Byt (fun i => zs.getD i 0) := by
          intro i
          have hb := encC_byte hcg.1
          rw [hcg.2.1, hzs] at hb
          show 0 ≤ zs.getD i 0 ∧ zs.getD i 0 < 256
          by_cases hi : i < zs.length
          · have e : zs.getD i 0 = zs[i] := by simp [List.getD, hi]
            rw [e]; exact hb _ (List.getElem_mem hi)
          · have e : zs.getD i 0 = 0 := by simp [List.getD, List.getElem?_eq_none (Nat.le_of_not_lt hi)]
            rw [e]; omega
        obtain ⟨M, rfl⟩ : ∃ M, x' = p + M := ⟨x' - p, by have := ldCtx_mono hf HR.out; omega⟩
        rcases sg3 with h0 | ⟨gb, goff, rfl, hgb, hgc⟩
        · omega
        rcases HS.out with h0 | ⟨b, off, rfl, hb, hc⟩
        · omega
        have hcv1 : ∀ k cap, (convert 22 9 (.slice (some ⟨gb, goff, none⟩) zs.length cap)).run Tryd.prog (w3.drewN k) = .ok (.string (strG (fun i => zs.getD i 0) 0 zs.length)) (w3.drewN k) := fun k cap => strG_conv 0 hfz (fun i hi => by rw [Nat.zero_add]; exact hgc i hi)
        have hcv2 : ∀ k cap, (convert 22 9 (.slice (some ⟨b, off + p, none⟩) M cap)).run Tryd.prog (w3.drewN k) = .ok (.string (strG f p M)) (w3.drewN k) := fun k cap => strG_conv p hf (fun i hi => by
          have := (HB3.out.cell (p := ⟨b, off + (p + i), none⟩) hb).trans (hc (p + i) (by omega))
          rw [Nat.add_assoc]; exact this)
        clear b3 HP q2 q3 r2 hgc hc own3
        have hq0 : (0 : Int) ≤ (p : Int) := Int.natCast_nonneg _
        have hqs : (p : Int) ≤ (p : Int) + (M : Int) := by omega
        have hsc : (p : Int) + (M : Int) ≤ (c : Int) := by omega
        have hcq : p < c := by omega
        have HIFF := hid (strG_eq (p := 0) (q := p) (L := zs.length) (M := M) hfz hf)
        obtain ⟨S1, hS1⟩ : ∃ S1, strG (fun i => zs.getD i 0) 0 zs.length = S1 := ⟨_, rfl⟩
        obtain ⟨S2, hS2⟩ : ∃ S2, strG f p M = S2 := ⟨_, rfl⟩
        rw [hS1] at hcv1 HIFF
        rw [hS2] at hcv2 HIFF
        clear hS1 hS2
        have HZS := hid hzs
        have HCC := hid hC'
        clear hzs hC' hC e0 hcg hfz
        by_cases hsame : S1 = S2
        · have hd : (S1.toList == S2.toList) = true := by rw [hsame]; simp
          have HAT := hid (HIFF.out.1 hsame)
          clear hsame
          go_wp2_with fail
          go_quiet (fail)
          go_wp2_with fail
          obtain ⟨g, hg⟩ : ∃ g, rdCtx f n p = some (g, p + M) := by
            refine rdCtx_of hf hpn hxn HCC.out ?_ ?_
            · rw [HZS.out]
              intro i hi
              have := HAT.out.2 i hi
              rw [Nat.zero_add] at this
              exact this.symm
            · rw [HZS.out, HAT.out.1]
          have h1 := ldCtx_of hf hpn hg
          rw [HR.out] at h1
          injection h1 with h1
          injection h1 with h1 _
          have k4 := World.cell?_setCell_same (w3.drewN nq) ⟨w.heap.size, 0, none⟩ (.slice av l.length cv) q4
          have HF : FR ((w3.drewN nq).setCell ⟨w.heap.size, 0, none⟩ (.slice av l.length cv)) w.heap.size (.slice av l.length cv) (flatG g) := by
            rw [← h1]
            have h0 := HFR3.out.below (below_drewN (Below.refl _ _) nq)
            have h2 : FR (w3.drewN nq) w.heap.size (.slice av l.length cv) l := by
              obtain ⟨t1, t2⟩ := h0
              refine ⟨t1, t2.imp id ?_⟩
              rintro ⟨g', cap, cur, e, hg, r⟩
              exact ⟨g', cap, cur, e, by omega, r⟩
            refine World.ownsRow.kept h2 (grownSet (w3.drewN nq) ⟨w.heap.size, 0, none⟩ (.slice av l.length cv)) ?_
            cases e : (Value.slice av l.length cv).ownBlock with
            | none => exact .inl rfl
            | some t => exact .inr (fun e2 => by have h3 := (World.ownsRow.lt h0 t e).1; injection e2 with e2; have e2 : t = w.heap.size := e2; omega)
          have hgc : rdC f n (p : Int) = some (g, p + M) := by rw [rdC_nat]; exact hg
          refine bodyPost_ret (v := .tuple #[.agg #[.slice av l.length cv], .int .i64 ((p : Int) + (M : Int)), .int .i64 0]) (by simp [results, Tryd.results5, go_sem, k4]) rfl ?_
          refine ⟨(below_drewN HB3.out _).setCell (p := ⟨w.heap.size, 0, none⟩) (Nat.le_refl _) _, .inl ?_⟩
          first | exact ⟨g, p + M, .slice av l.length cv, hgc, by push_cast; rfl, HF⟩ | exact ⟨g, p + M, hgc, .slice av l.length cv, by push_cast; rfl, HF⟩
        · have hd : (S1.toList == S2.toList) = false := by
            cases h : (S1.toList == S2.toList) with
            | false => rfl
            | true =>
              have h2 : S1.toList = S2.toList := by simpa using h
              rw [Go.ByteArray.toList_eq, Go.ByteArray.toList_eq] at h2
              exact absurd (by cases S1; cases S2; simp at h2; rw [h2]) hsame
          have HR2 : Hid (rdC f n (p : Int) = none) := by
            rw [rdC_nat]
            cases h : rdCtx f n p with
            | none => exact hid rfl
            | some r =>
              exfalso
              have h1 := ldCtx_of hf hpn (g := r.1) (x' := r.2) h
              rw [HR.out] at h1
              injection h1 with h1
              injection h1 with h1 h2
              obtain ⟨i1, i2, i3, i4⟩ := (rdCtx_iff hf hpn).1 (show rdCtx f n p = some (r.1, r.2) from h)
              obtain ⟨g1, g2, g3, g4⟩ := groups_ctx i1
              rw [← h1] at g2
              have h5 : zs = encC r.1 := by rw [← HZS.out, g2, g3]
              refine hsame (HIFF.out.2 ⟨by rw [h5]; omega, fun i hi => ?_⟩)
              rw [Nat.zero_add, h5]
              exact (i2 i (by rw [← h5]; exact hi)).symm
          clear hsame
          go_wp2_with fail
          go_quiet (fail)
          go_wp2_with fail
          have k4 := World.cell?_setCell_same (w3.drewN nq) ⟨w.heap.size, 0, none⟩ (.slice none 0 0) q4
          exact bodyPost_ret (v := .tuple #[.agg #[.slice none 0 0], .int .i64 (p : Int), .int .i64 1]) (by simp [results, Tryd.results5, go_sem, k4]) rfl ⟨(below_drewN HB3.out _).setCell (p := ⟨w.heap.size, 0, none⟩) (Nat.le_refl _) _, .inr ⟨HR2.out, rfl⟩⟩
    · have HR : Hid (rdC f n (p : Int) = none) := by
        rw [rdC_nat]
        cases h : rdCtx f n p with
        | none => exact hid rfl
        | some r => have := ldCtx_of hf hpn (g := r.1) (x' := r.2) h; rw [hr] at this; cases this
      have HB1 := hid (HBW.out.trans (b1.mono HBW.out.size))
      have hz := HZ.out
      have q0 := (b1.cell (p := ⟨w.heap.size, 0, none⟩) (show w.heap.size < W.heap.size by omega)).trans k0
      have q1 := ((bcell b1).2 w.heap.size 0 (show w.heap.size < W.heap.size by omega)).trans k1
      have zb := b1.size
      clear b1 HL hr
      have q2 := (World.cell?_alloc_past (w := w1) (.cells #[.slice ya nv cv] 25) w.heap.size 0 (by omega)).trans q0
      have q3 := (World.frozen?_alloc_past (w := w1) (.cells #[.slice ya nv cv] 25) w.heap.size 0 (by omega)).trans q1
      go_wp2_with fail
      have k4 := World.cell?_setCell_same (w1.alloc (.cells #[.slice ya nv cv] 25)) ⟨w.heap.size, 0, none⟩ (.slice none 0 0) q2
      exact bodyPost_ret (v := .tuple #[.agg #[.slice none 0 0], .int .i64 (p : Int), .int .i64 1]) (by simp [results, Tryd.results5, go_sem, k4]) rfl ⟨(HB1.out.alloc HB1.out.size _).setCell (p := ⟨w.heap.size, 0, none⟩) (Nat.le_refl _) _, .inr ⟨HR.out, rfl⟩⟩
end Go.Proofs.YtbimcammjohaoadDoor
