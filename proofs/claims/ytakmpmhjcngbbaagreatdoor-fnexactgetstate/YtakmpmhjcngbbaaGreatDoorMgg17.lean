import Derived.Test.YtakmpmhjcngbbaaGreatDoorMgg16
import Derived.Test.YtakmpmhjcngbbaaGreatDoorMgg08
import Derived.Maps.Range
set_option linter.unusedVariables false
set_option linter.unusedSimpArgs false
set_option maxRecDepth 100000
set_option maxHeartbeats 40000000
namespace Go.Proofs.YtakmpmhjcngbbaaGreatDoor
open Go.ChangeShapes Go.WideShapes Go.ChangeAt Go.RowKit Go.Maps
def sF (l : List (Int × Int)) (i : Nat) : Int := (l.getD i (0, 0)).1
def sT (l : List (Int × Int)) (i : Nat) : Int := (l.getD i (0, 0)).2
def loK (l : List (Int × Int)) : Nat → Int
  | 0 => 1
  | k + 1 => sT l k + 2
def spK (l : List (Int × Int)) : Nat → List Int
  | 0 => []
  | k + 1 => spK l k ++ (uvF 9 (sF l k - loK l k).toNat ++ uvF 9 (sT l k - sF l k).toNat)
def grpB (l : List (Int × Int)) : List Int := uvF 9 l.length ++ spK l l.length
theorem spK_len (l : List (Int × Int)) : ∀ k, (spK l k).length ≤ 20 * k
  | 0 => by simp [spK]
  | k + 1 => by
    have := spK_len l k
    have h1 := (uvF_len 9 (sF l k - loK l k).toNat).1
    have h2 := (uvF_len 9 (sT l k - sF l k).toNat).1
    simp only [spK, List.length_append]
    omega
theorem srt_at {l : List (Int × Int)} (h : Srt l) {k : Nat} (hk : k < l.length) : 1 ≤ loK l k ∧ loK l k ≤ sF l k ∧ sF l k ≤ sT l k ∧ sT l k ≤ 1000000000 := by
  have e : l.getD k (0, 0) = l[k] := by simp [List.getD, hk]
  have h1 := h.2 _ (List.getElem_mem hk)
  rw [← e] at h1
  have h2 : loK l k ≤ sF l k ∧ 1 ≤ loK l k := by
    cases k with
    | zero => exact ⟨h1.1, Int.le_refl _⟩
    | succ k =>
      have h3 := srt_get h (show k < k + 1 by omega) hk
      have e2 : l.getD k (0, 0) = l[k] := by simp [List.getD, show k < l.length by omega]
      have h4 := h.2 _ (List.getElem_mem (show k < l.length by omega))
      rw [← e2] at h4
      show (l.getD k (0, 0)).2 + 2 ≤ (l.getD (k + 1) (0, 0)).1 ∧ 1 ≤ (l.getD k (0, 0)).2 + 2
      exact ⟨by omega, by omega⟩
  exact ⟨h2.2, h2.1, h1.2.1, h1.2.2⟩
theorem wrapU (x : Int) (h0 : 0 ≤ x) (h1 : x ≤ 1000000000) : IntKind.u64.wrap x = x := by
  unfold IntKind.wrap
  simp [IntKind.bits, IntKind.signed]
  omega
def SR (w : World) (B : Nat) (v : Value) (l : List (Int × Int)) : Prop := w.ownsRow B 130 2 v l.length (spanCells l)
theorem cell2 (w : World) (x y : Value) (t : TypeId) : ∀ j u, [x, y][j]? = some u → (w.alloc (.cells #[x, y] t)).cell? ((⟨w.heap.size, 0, none⟩ : Addr).add j) = some u := by
  intro j u hj
  match j, hj with
  | 0, hj => simp at hj; subst hj; simp [Addr.add]
  | 1, hj => simp at hj; subst hj; simp [Addr.add]
theorem grownSet (w : World) (p : Addr) (u : Value) : w.grownBy (w.setCell p u) (some p.block) :=
  ⟨rfl, rfl, rfl, by simp [World.setCell], fun k hk hne => Below.heap_setCell _ _ _ _ (fun e => hne (by rw [e]))⟩
structure GrpR (w : World) (bm n : Nat) (D : DataW Value) (G : Int → Value) (L : Int → List (Int × Int)) : Prop where
  own : w.ownsMap Tryz.prog 3 rawR bm n D
  at' : ∀ r, D.atKey (kI r) (.held (.slice none 0 0)) = .held (G r)
  has' : ∀ r, Maps.has D (kI r) = !(L r).isEmpty
  rows : ∀ r, w.ownsRow 0 130 2 (G r) (L r).length (spanCells (L r))
theorem row_zero {w : World} {B : Nat} {e : TypeId} {s : Nat} {v : Value} {n : Nat} {xs : List Value} (h : w.ownsRow B e s v n xs) : w.ownsRow 0 e s v n xs := by
  obtain ⟨h1, h2⟩ := h
  refine ⟨h1, h2.imp id ?_⟩
  rintro ⟨g, cap, cur, e, _, r⟩
  exact ⟨g, cap, cur, e, Nat.zero_le _, r⟩
theorem row_map {w : World} {B bm n : Nat} {e : TypeId} {s : Nat} {v : Value} {m : Nat} {xs : List Value} {D : DataW Value} (h : w.ownsRow B e s v m xs) (hm : w.ownsMap Tryz.prog 3 rawR bm n D) : v.ownBlock = none ∨ v.ownBlock ≠ some bm := by
  obtain ⟨_, h2⟩ := h
  rcases h2 with ⟨rfl, _⟩ | ⟨g, cap, cur, rfl, _, hg, _⟩
  · exact .inl rfl
  · refine .inr (fun e => ?_)
    obtain ⟨es, clock, hb, _⟩ := hm
    have e : g = bm := by simpa [Value.ownBlock] using e
    rw [e, hb] at hg
    cases hg
theorem row_below {w w1 : World} {B : Nat} {e : TypeId} {s : Nat} {v : Value} {n : Nat} {xs : List Value} (h : w.ownsRow B e s v n xs) (hb : Below w.heap.size w w1) : w1.ownsRow B e s v n xs :=
  owns_below h hb (fun k hk => (h.lt k hk).2)
theorem row_slice {w : World} {B : Nat} {v : Value} {l : List (Int × Int)} (h : w.ownsRow B 130 2 v l.length (spanCells l)) :
    ∃ a c, v = .slice a l.length c ∧ SS w a l.length (sF l) (sT l) ∧ l.length ≤ c ∧ c ≤ 9223372036854775807 := by
  rcases h.2 with ⟨e, e0⟩ | ⟨g, cap, cur, e, hb, _, hnc, hcm, _⟩
  · exact ⟨none, 0, by rw [e, e0], .inl e0, by omega, by omega⟩
  · exact ⟨_, cap, e, by rw [e] at h; exact ss_own h rfl, hnc, by unfold maxLen at hcm; omega⟩
theorem row_form {w : World} {B : Nat} {e : TypeId} {size : Nat} {v : Value} {n : Nat} {xs : List Value} (h : w.ownsRow B e size v n xs) : ∃ y m c, v = .slice y m c := by
  rcases h.2 with ⟨rfl, _⟩ | ⟨g, cap, cur, rfl, _⟩
  · exact ⟨_, _, _, rfl⟩
  · exact ⟨_, _, _, rfl⟩
theorem GrpR.gr {w w1 : World} {bm n : Nat} {D : DataW Value} {G : Int → Value} {L : Int → List (Int × Int)} (h : GrpR w bm n D G L) {row : Option Nat} (hg : w.grownBy w1 row) (hr : some bm ≠ row) (hro : ∀ r g, (G r).ownBlock = some g → some g ≠ row) : GrpR w1 bm n D G L :=
  ⟨h.own.kept hg hr, h.at', h.has', fun r => (h.rows r).kept hg (by
    cases e : (G r).ownBlock with
    | none => exact .inl rfl
    | some g => exact .inr (hro r g e))⟩
theorem GrpR.below {w w1 : World} {bm n : Nat} {D : DataW Value} {G : Int → Value} {L : Int → List (Int × Int)} (h : GrpR w bm n D G L) (hb : Below w.heap.size w w1) : GrpR w1 bm n D G L :=
  h.gr (row := none) ⟨hb.os, hb.tape, hb.output, hb.size, fun k hk _ => hb.block k hk⟩ (by simp) (by simp)
end Go.Proofs.YtakmpmhjcngbbaaGreatDoor
namespace Go.Proofs.YtakmpmhjcngbbaaGreatDoor
open Go.ChangeShapes Go.WideShapes Go.ChangeAt Go.RowKit
variable {EX : Nat → Option Value}
noncomputable def rdSp (f : Nat → Int) (n : Nat) (left : Int) (x : Nat) : Option (List (Int × Int) × Nat) :=
  (rd f n x left).bind fun b => if b.1 = 0 then none else rdSpans f n b.1 1 b.2
theorem SR.grown {w w1 : World} {B cb : Nat} {v : Value} {l : List (Int × Int)} (h : SR w B v l) (g : w.grownBy w1 (some cb)) (hB : cb < B) : SR w1 B v l := by
  refine World.ownsRow.kept h g ?_
  cases e : v.ownBlock with
  | none => exact .inl rfl
  | some k => exact .inr (fun e2 => by have := (World.ownsRow.lt h k e).1; injection e2 with e2; omega)
theorem spansC (cb B : Nat) (a : Option Addr) (n c x : Nat) (left : Int) (f : Nat → Int) (aT aS aL aE : Addr) (w : World) (hn : n ≤ 1048576) (hf : Byt f) (hcur : Cur EX w cb a n c (x : Int)) (hs : Seg w a n f) (hab : ∀ y, a = some y → y.block ≠ cb) (hE : Errs w B aT aS aL aE) (hBc : B ≤ cb)
    (hl0 : -1000 ≤ left) (hl1 : left ≤ 1000) :
    Calls Tryz.prog 83 #[.pointer (some ⟨cb, 0, none⟩), .int .i64 left] w fun e w' => w.grownBy w' (some cb) ∧
      ((∃ (l : List (Int × Int)) (x' : Nat) (v : Value), rdSp f n left x = some (l, x') ∧ e = .returned (.tuple #[v, .nilIface]) ∧ SR w' w.heap.size v l ∧ Cur EX w' cb a n c (x' : Int)) ∨
       (rdSp f n left x = none ∧ ∃ (t : TypeId) (v : Value) (y : Int), e = .returned (.tuple #[.slice none 0 0, .iface t v]) ∧ Cur EX w' cb a n c y)) := by
  have hcl := hcur.lt
  obtain ⟨i0, hi, hz0, hz1, hz2⟩ := info_parts Tryz.infoSpan
  have HU := hid (numberC cb B a n c x left f aT aS aL aE w hn hf hcur hs hab hE hBc (by omega) (by omega))
  have HE := hid hE
  have HS := hid hs
  clear hE hcur hs
  go_enter Tryz.func83, Tryz.ntmps83
  go_wp2_with fail
  refine HU.out.mono ?_
  rintro e w1 ⟨g1, ⟨V, x1, hr, hV, rfl, cu⟩ | ⟨hr, t, v, y, rfl, cu⟩⟩
  · rw [rdI_nat] at hr
    have HG := hid g1
    have HC := hid cu
    by_cases h0 : V = 0
    · subst h0
      have HR : Hid (rdSp f n left x = none) := by unfold rdSp; rw [hr]; exact hid rfl
      have hE1 := HE.out.below ((Below.refl B w).grown g1 (by omega) (fun k hk => by injection hk with hk; omega))
      obtain ⟨vN, hgN⟩ := hE1.gN
      clear g1 hr cu hE1 HU HE
      go_wp2_with fail
      go_quiet (fail)
      go_wp2_with fail
      go_ret2
      exact ⟨grown_trans HG.out (grown_drewN _ _ _), .inr ⟨HR.out, _, _, _, rfl, HC.out.below (below_drewN (Below.refl _ _) _) HC.out.lt⟩⟩
    · have HR : Hid (rdSp f n left x = rdSpans f n V 1 x1) := by unfold rdSp; rw [hr]; exact hid (if_neg h0)
      have d0 : ((V : Int) == 0) = false := by simp; omega
      clear g1 hr cu HU
      go_wp2_with fail
      go_loopw [8, 9, 26] (fun sv lv iv wr => ∃ (k y : Nat) (l : List (Int × Int)) (least : Int), k ≤ V ∧ iv = .int .i64 (k : Int) ∧ lv = .int .i64 least ∧ 1 ≤ least ∧ least ≤ 1000000002 ∧ l.length = k ∧ Hid (SR wr w.heap.size sv l) ∧ Hid (Cur EX wr cb a n c (y : Int)) ∧ Hid (w.grownBy wr (some cb)) ∧
        Hid (rdSpans f n V 1 x1 = (rdSpans f n (V - k) least y).bind fun b => some (l ++ b.1, b.2))) (fun _ _ iv _ => V - (intOf iv).toNat)
      case atStart => exact ⟨0, x1, [], 1, Nat.zero_le _, rfl, rfl, by omega, by omega, rfl, hid (World.ownsRow_nil _ _ _ _), HC, HG, hid (by cases h : rdSpans f n (V - 0) 1 x1 <;> simp_all)⟩
      case round =>
        obtain ⟨k, y, l, least, hk, rfl, rfl, hl1, hl2, hlk, hsr, hcu, hgr, hrd⟩ := hrel
        have zr := hgr.out.size
        by_cases hlt : k < V
        · obtain ⟨m, hm⟩ : ∃ m, V - k = m + 1 := ⟨V - k - 1, by omega⟩
          have HSP := hid (spanC cb B a n c y least f aT aS aL aE wr hn hf hcu.out (HS.out.grown hgr.out hab) hab (HE.out.grown hgr.out hBc hcl) hBc hl1 hl2)
          obtain ⟨c0, c1, c2⟩ := hcu.out
          go_wp2_with fail
          refine HSP.out.mono ?_
          rintro e w2 ⟨g2, ⟨s, t, x2, hr2, hs0, hs1, hs2, rfl, cu2⟩ | ⟨hr2, t, v, y2, rfl, cu2⟩⟩
          · have hsr2 := hsr.out.grown g2 hcl
            have HU8 : Hid (∀ g, u8.ownBlock = some g → w.heap.size ≤ g ∧ g < w2.heap.size) := hid fun g hg => World.ownsRow.lt hsr2 g hg
            obtain ⟨W3, hW3⟩ : ∃ W3, w2.alloc (.cells #[.int .i64 s, .int .i64 t] 130) = W3 := ⟨_, rfl⟩
            have b3 : Below w2.heap.size w2 W3 := by rw [← hW3]; exact (Below.refl _ _).alloc (Nat.le_refl _) _
            have HZ3 : Hid (W3.heap.size = w2.heap.size + 1) := by rw [← hW3]; exact hid (by simp)
            have r0 : W3.cell? ⟨w2.heap.size, 0, none⟩ = some (.int .i64 s) := by rw [← hW3]; simp
            have r1 : W3.cell? ⟨w2.heap.size, 1, none⟩ = some (.int .i64 t) := by rw [← hW3]; simp
            have HSR3 : Hid (SR W3 w.heap.size u8 l) := by rw [← hW3]; exact World.ownsRow.alloc hsr2 _
            have HC3 := hid (cu2.below b3 cu2.lt)
            have HG3 := hid (grown_below (grown_trans hgr.out g2) b3)
            have HRD : Hid (rdSpans f n V 1 x1 = (rdSpans f n (V - (k + 1)) (t + 2) x2).bind fun b => some (l ++ [(s, t)] ++ b.1, b.2)) := by
              refine hid ?_
              rw [hrd.out, hm, rdSpans_succ, hr2, show V - (k + 1) = m from by omega]
              simp only [Option.bind_some]
              cases rdSpans f n m (t + 2) x2 with
              | none => rfl
              | some b => simp
            have z2 := g2.size
            have zz : w.heap.size ≤ w2.heap.size := by omega
            have e3 : IntKind.i64.wrap (t + 2) = t + 2 := wrapIn _ (by omega) (by omega)
            subst hlk
            clear g2 hr2 cu2 HSP c0 c1 c2 hsr hcu hgr hrd b3 hm hsr2
            go_wp2_with (at_builtin; go_loud ((try rw [hW3]); refine wpList_app_at rfl _ _ 128 rfl w.heap.size 130 i0 _ 2 16 Tryz.underlying128 hi hz0 hz1 hz2 rfl (by decide) _ _ _ rfl (World.ownsRow.alloc HSR3.out _) ⟨W3.heap.size, 0, none⟩ 1 1 [.int .i64 s, .int .i64 t] rfl rfl ?c1 ?c2 ?c3 ?c4 ?c5 ?_))
            case c1 => exact cell2 _ _ _ _
            case c2 => intro u hu; simp at hu; rcases hu with rfl | rfl <;> rfl
            case c3 => unfold maxLen; omega
            case c4 => omega
            case c5 => have := HZ3.out; simp; omega
            intro v4 w4 hown4 hgr4 hloc4
            have z3 := HZ3.out
            have HB4 : Hid (Below W3.heap.size W3 (W3.alloc (.cells #[.int .i64 s, .int .i64 t] 130))) := hid ((Below.refl _ _).alloc (Nat.le_refl _) _)
            have n1 : some w2.heap.size ≠ u8.ownBlock := fun e => by have := (HU8.out _ e.symm).2; omega
            have n2 : some cb ≠ u8.ownBlock := fun e => by have := (HU8.out _ e.symm).1; omega
            have q1 := hgr4.cell ((HB4.out.cell (p := ⟨w2.heap.size, 1, none⟩) (show w2.heap.size < W3.heap.size by omega)).trans r1) n1
            have HC4 : Hid (Cur EX w4 cb a n c (x2 : Int)) := by
              have h := HC3.out.below HB4.out HC3.out.lt
              have hb := hgr4.block cb h.lt n2
              exact hid (h.at' hb)
            have HG4 : Hid (w.grownBy w4 (some cb)) := hid ((grown_below HG3.out HB4.out).andThen hgr4 (fun j hj => .inl (HU8.out j hj).1))
            have HS4 : Hid (SR w4 w.heap.size v4 (l ++ [(s, t)])) := by
              unfold SR
              rw [spanCells_append, List.length_append]
              exact hid hown4
            clear hown4 hgr4 hloc4 r0 r1 hW3 HB4 HC3 HG3 HSR3 z3
            go_wp2_with fail
            go_roundw
            case rel => exact ⟨l.length + 1, x2, l ++ [(s, t)], t + 2, hlt, by go_num, rfl, by omega, by omega, by simp, HS4, HC4, HG4, HRD⟩
            case measure => simp [intOf]; omega
          · have HRD : Hid (rdSp f n left x = none) := by
              refine hid ?_
              rw [HR.out, hrd.out, hm, rdSpans_succ, hr2]; rfl
            have HG2 := hid (grown_trans hgr.out g2)
            have HC2 := hid cu2
            clear g2 hr2 cu2 HSP c0 c1 c2 hsr hcu hgr hrd hm
            go_wp2_with fail
            go_ret2
            have B2 : Below w2.heap.size w2 ((w2.alloc (.cells #[.int .i64 0, .int .i64 0] 130)).alloc (.cells #[.string { data := #[114, 117, 110] }, .int .i64 (y : Int), .iface t v] 82)) := below2 _ _ _
            exact ⟨grown_below HG2.out B2, .inr ⟨HRD.out, _, _, _, rfl, HC2.out.below B2 HC2.out.lt⟩⟩
        · obtain rfl : k = V := by omega
          have HRD : Hid (rdSp f n left x = some (l, y)) := by
            refine hid ?_
            rw [HR.out, hrd.out, Nat.sub_self]
            simp [rdSpans]
          clear hrd
          go_wp2_with fail
          go_ret2
          exact ⟨hgr.out, .inl ⟨l, y, _, HRD.out, rfl, hsr.out, hcu.out⟩⟩
  · rw [rdI_nat] at hr
    have HR : Hid (rdSp f n left x = none) := by unfold rdSp; rw [hr]; exact hid rfl
    have HG := hid g1
    have HC := hid cu
    clear g1 hr cu HU HE
    go_wp2_with fail
    go_ret2
    exact ⟨HG.out, .inr ⟨HR.out, _, _, _, rfl, HC.out⟩⟩
end Go.Proofs.YtakmpmhjcngbbaaGreatDoor
