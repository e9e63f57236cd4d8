import Derived.Test.YtkhicohhahaahaaRrd
import Derived.Shelf.SlIter.Collect
namespace Go.Proofs.Ytkhicohhahaahaa
open Go.ChangeShapes Go.WideShapes Go.ChangeAt Go.RowKit Go.Maps
set_option linter.unusedVariables false
set_option linter.unusedSimpArgs false

theorem fieldMarks2 (u v : Value) (w : World) : (Instr.field 59 (.agg #[u, v]) 1).run Try.prog w = .ok v w := by kernel_rfl
def vals (f : Dt → Option ByteArray) (ds : List Dt) : List ByteArray := ds.map fun d => (f d).getD ByteArray.empty
theorem vals_mem {f : Dt → Option ByteArray} {ds : List Dt} (h : KeysF f ds) (s : ByteArray) : s ∈ vals f ds ↔ ∃ d, f d = some s := by
  unfold vals
  rw [List.mem_map]
  constructor
  · rintro ⟨d, hd, e⟩
    have := (h.2 d).1 hd
    cases hf : f d with
    | none => exact absurd hf this
    | some t => rw [hf] at e; exact ⟨d, by rw [hf]; exact congrArg some e⟩
  · rintro ⟨d, hd⟩
    exact ⟨d, (h.2 d).2 (by rw [hd]; simp), by rw [hd]; rfl⟩
theorem nilS (w : World) (B : Nat) : w.ownsRow B 9 1 (.slice none 0 0) ([] : List ByteArray).length (sRow []) := ⟨rfl, .inl ⟨rfl, rfl⟩⟩
set_option maxRecDepth 100000 in
set_option maxHeartbeats 2000000 in
theorem implReadReg (a : Option Addr) (c : Nat) (l : List Lf) (x : Option Addr) (n d : Nat) (R F T : Nat → Int) (p : List ByteArray) (pa : Option Addr) (cp : Nat) (w : World) (hn : l.length ≤ 1048576) (hp : LBd l) (hi : ∀ i, LfI (gL l i)) (hm : n ≤ 1048576) (hq : p.length ≤ 1048576) (h : LSeg w a l) (h' : RSeg w x n R F T) (hs : SSeg w pa p) :
    Calls Try.prog 9 #[.agg #[.slice a l.length c, .slice x n d], .slice pa p.length cp] w fun e w' => (∃ v ts, e = .returned (.tuple #[v, .bool (yes (RrOk R F T n l p))]) ∧ w'.ownsRow w.heap.size 9 1 v ts.length (sRow ts) ∧ ts.length ≤ 1048576 ∧ (RrOk R F T n l p → OnceOf (rV l p l.length) ts) ∧ (¬ RrOk R F T n l p → ts = [])) ∧ Below w.heap.size w w' := by
  obtain ⟨W, hW⟩ : ∃ W, w.alloc (.cells #[.slice a l.length c, .slice x n d] 38) = W := ⟨_, rfl⟩
  have b0 : Below w.heap.size w W := by rw [← hW]; exact (Below.refl _ _).alloc (Nat.le_refl _) _
  have B0 : Bx2 W w.heap.size (.slice a l.length c) (.slice x n d) := by rw [← hW]; exact Bx2.made _ _ _ _
  have k0 := B0.c0
  have k1 := B0.c1
  have HL := hid (h.below b0)
  have HR := hid (h'.below b0)
  have HS := hid (hs.below b0)
  have HB0 := hid b0
  clear h h' hs b0 B0
  by_cases hok : StOk R F T n l
  · have HO := hid (openStateK a c l x n d R F T W hn hp hi hm HL.out HR.out hok)
    have HOK := hid hok
    clear hok
    go_enter Try.func9, Try.ntmps9
    go_wp2_with fail
    try rw [hW]
    clear hW
    refine HO.out.mono ?_
    rintro e w1 ⟨⟨x0, bm, D, G, N, B, rfl, hgrp, _, _, _, hT, hN, hI⟩, b1⟩
    obtain ⟨w2, hw2⟩ : ∃ w2, w1.alloc (.cells #[.map (some x0.1), .map (some x0.2), .map (some bm)] 63) = w2 := ⟨_, rfl⟩
    have b2 : Below w1.heap.size w1 w2 := by rw [← hw2]; exact (Below.refl _ _).alloc (Nat.le_refl _) _
    have L2 : Bx3 w2 w1.heap.size (.map (some x0.1)) (.map (some x0.2)) (.map (some bm)) := by rw [← hw2]; exact Bx3.made _ _ _ _ _
    have c0 := L2.c0
    have c1 := L2.c1
    have HT := hid (hT.below b2)
    have HN := hid hN
    have HZ := hid (keepS HB0.out (keepS b1 b2))
    have HS2 := hid (HS.out.below (keepS b1 b2))
    have HP := hid (pathImpl p pa cp w2 hq HS2.out)
    clear b1 b2 L2 hT hN hI hgrp HO k0 k1
    obtain ⟨Z, hZ⟩ : ∃ Z, yes (PthOk p) = Z := ⟨_, rfl⟩
    rw [hZ] at HP
    have HZp := hid hZ
    clear hZ
    go_wp2_with fail
    refine HP.out.mono ?_
    rintro e w3 ⟨rfl, rfl⟩
    clear HP
    cases Z with
    | false =>
      have HF : Hid (¬ RrOk R F T n l p) := hid (fun h => by have := HZp.out; rw [yes_t h.2] at this; cases this)
      go_wp2_with fail
      go_ret2
      exact ⟨⟨_, [], by rw [yes_f HF.out]; rfl, nilS _ _, by simp, fun h => absurd h HF.out, fun _ => rfl⟩, HZ.out⟩
    | true =>
      have HKY : Hid (RrOk R F T n l p) := hid ⟨HOK.out, yes_iff.1 HZp.out⟩
      have HA0 := hid (atC p pa cp 1 B (9 * l.length) N (Mk l l.length) w3 hq (fun i => by
        by_cases hi' : i < p.length
        · have := (HKY.out.2.2.2 i hi').2; omega
        · rw [gS_far (by omega)]; simp) (by decide) HS2.out HT.out)
      rw [HN.out] at HA0
      have HREG : Hid (∀ s, (∃ d, Mk l l.length (wayOf p 1) d = some s) ↔ s ∈ rV l p l.length) := hid (fun s => reg_way HKY.out.2 HOK.out.2.2.2)
      obtain ⟨f, hf⟩ : ∃ f, Mk l l.length (wayOf p 1) = f := ⟨_, rfl⟩
      obtain ⟨u, hu⟩ : ∃ u, mF (N (wayOf p 1)) = u := ⟨_, rfl⟩
      cases hNp : N (wayOf p 1) with
      | none =>
        have hu' : mS (N (wayOf p 1)) = none := by rw [hNp]; rfl
        have HF0 : Hid (∀ d, f d = none) := hid (fun d => by rw [← hf, HT.out.none' _ hNp])
        rw [hu, hu'] at HA0
        rw [hf] at HREG
        dsimp only [mF, mS, Option.map] at HA0
        clear hu hu' hf hNp
        go_wp2_with fail
        refine HA0.out.mono ?_
        rintro e w4 ⟨rfl, b4⟩
        have hfd := fieldMarks2 (.map u) (.map none) w4
        have hrg := run_range_nilMap (P := Try.prog) w4 57 50 68 Try.underlying57
        have hnx : ∀ ty, (Instr.next (.pointer (some ⟨w4.heap.size, 0, none⟩)) false ty).run Try.prog (w4.alloc (.mapIter none 0 #[] 0)) = _ := fun ty => run_next_nilMap _ ty 0 0 #[]
        have HZ4 := hid ((keepS HZ.out b4).alloc (keepS HZ.out b4).size (.mapIter none 0 #[] 0))
        have hcon := Any.slices_Sort_string_none Try.sortS none 0 (w4.alloc (.mapIter none 0 #[] 0))
        change Calls Try.prog 26 _ _ _ at hcon
        have HCO := hid hcon
        have hcon2 := Any.slices_Compact_string_empty Try.compactS none 0 (w4.alloc (.mapIter none 0 #[] 0))
        change Calls Try.prog 27 _ _ _ at hcon2
        have HCO2 := hid hcon2
        clear b4 HA0 hcon hcon2
        go_wp2_with fail
        refine wp_loop_rounds 1 ?_
        rw [rounds_succ]
        go_wp2_with fail
        refine HCO.out.mono ?_
        rintro e w5 ⟨rfl, rfl⟩
        clear HCO
        go_wp2_with fail
        refine HCO2.out.mono ?_
        rintro e w6 ⟨rfl, rfl⟩
        clear HCO2
        go_wp2_with fail
        go_ret2
        exact ⟨⟨_, [], by rw [yes_t HKY.out]; rfl, nilS _ _, by simp, fun _ => ⟨List.Pairwise.nil, fun s => by rw [← HREG.out s]; simp [HF0.out]⟩, fun hh => absurd HKY.out hh⟩, HZ4.out⟩
      | some x1 =>
        have hu' : mS (N (wayOf p 1)) = some x1.2 := by rw [hNp]; rfl
        have HMF : Hid (∀ w4, Below w3.heap.size w3 w4 → ∃ D0, FM w4 50 dtV mrkV x1.2 (9 * l.length) f D0) := hid (fun w4 b4 => by
          have := (HT.out.below b4).marks _ x1 hNp
          rw [hf] at this; exact this)
        rw [hu, hu'] at HA0
        rw [hf] at HREG
        dsimp only [mF, mS, Option.map] at HA0
        have hlen := HOK.out.2.1
        clear hu hu' hf hNp
        go_wp2_with fail
        refine HA0.out.mono ?_
        rintro e w4 ⟨rfl, b4⟩
        obtain ⟨D0, hFM⟩ := HMF.out w4 b4
        have hown := hFM.own
        have HFM := hid hFM
        have hfd := fieldMarks2 (.map u) (.map (some x1.2)) w4
        have HZ4 := hid (keepS HZ.out b4)
        clear b4 HA0 hFM HMF
        go_wp2_with (at_range; refine wpList_range_own _ rfl _ 57 rfl 50 68 dotKeyed Try.underlying57 allR x1.2 (9 * l.length) D0 rfl hown ?_; intro w0 hrg0 hg0 hs0)
        have hbl : x1.2 < w4.heap.size := by
          obtain ⟨es, clock, hb, _⟩ := hown
          exact (Array.getElem?_eq_some_iff.1 hb).1
        have HSZ : Hid (Maps.size D0 ≤ 9 * l.length) := hid hown.size_le
        have HZ0 : Hid (Below w.heap.size w w0) := hid (HZ4.out.grown hg0 HZ4.out.size (fun k e => by cases e))
        have HWS : Hid (w.heap.size ≤ w4.heap.size) := hid HZ4.out.size
        have HBL := hid hbl
        have HS0 := hid hs0
        clear hbl hs0 hg0 hown hfd
        try go_frame
        go_loopw [8] (fun o wr => ∃ (left : Lit → Bool) (cnt : Nat) (ds : List Dt), wr.ranges Try.prog 50 allR x1.2 w4.heap.size (9 * l.length) D0 left cnt ∧ Hid (ds.length + cnt ≤ Maps.size D0) ∧ Hid (CollF 50 dtV f left ds) ∧ Hid (wr.ownsRow (w4.heap.size + 1) 9 1 o (vals f ds).length (sRow (vals f ds))) ∧ Hid (Below w.heap.size w wr) ∧ Hid (w4.heap.size + 1 ≤ wr.heap.size)) (fun _ wr => wr.rangeLeft x1.2 w4.heap.size)
        case atStart => exact ⟨_, _, [], hrg0, hid (by simp), hid (CollF.start HFM.out), hid (nilS _ _), HZ0, hid (by rw [HS0.out]; omega)⟩
        case round =>
          clear hrg0 HZ0
          obtain ⟨left, cnt, ds, hrg, HCS, HC, HO, HB, HWR⟩ := hrel
          go_wp2_with (at_next; refine wpList_next_ranges _ rfl _ rfl 50 dotKeyed allR dtV id (fun key kl hk => keyOf_dot hk) (fun v _ _ => ⟨v, rfl⟩) x1.2 w4.heap.size (9 * l.length) _ _ _ rfl hrg ?_ ?_)
          · intro hc0 hl0
            have HK : Hid (KeysF f ds) := hid (HC.out.done HFM.out hl0)
            have HLEN : Hid ((vals f ds).length ≤ 1048576) := hid (by have h1 := HCS.out; have h2 := HSZ.out; simp [vals]; omega)
            have HFI : Hid (∀ ts, OnceOf (vals f ds) ts → OnceOf (rV l p l.length) ts) := hid (fun ts h => ⟨h.1, fun s => by rw [h.2, vals_mem HK.out, HREG.out]⟩)
            clear hl0 hc0 HC HCS hrg
            rcases HO.out.2 with ⟨rfl, h0⟩ | ⟨g, cap, cur, rfl, hbase, hb, h1, h2, h3, h4⟩
            · have hcon := Any.slices_Sort_string_none Try.sortS none 0 wr
              change Calls Try.prog 26 _ _ _ at hcon
              have HCO := hid hcon
              have hcon2 := Any.slices_Compact_string_empty Try.compactS none 0 wr
              change Calls Try.prog 27 _ _ _ at hcon2
              have HCO2 := hid hcon2
              have HNIL : Hid (vals f ds = []) := hid (List.eq_nil_of_length_eq_zero h0)
              clear hcon hcon2 h0
              go_wp2_with fail
              refine HCO.out.mono ?_
              rintro e w5 ⟨rfl, rfl⟩
              clear HCO
              go_wp2_with fail
              refine HCO2.out.mono ?_
              rintro e w6 ⟨rfl, rfl⟩
              clear HCO2
              go_wp2_with fail
              go_ret2
              exact ⟨⟨_, [], by rw [yes_t HKY.out]; rfl, nilS _ _, by simp, fun _ => HFI.out [] ⟨List.Pairwise.nil, fun s => by rw [HNIL.out]⟩, fun hh => absurd HKY.out hh⟩, HB.out⟩
            · have HSO := hid (sortS (w4.heap.size + 1) g cap (vals f ds) wr HO.out HLEN.out)
              have HGB : Hid (w.heap.size ≤ g) := hid (by have := HWS.out; omega)
              clear hb h1 h2 h3 h4 hbase
              obtain ⟨m0, hm0⟩ : ∃ m0, (vals f ds).length = m0 := ⟨_, rfl⟩
              rw [hm0] at HSO
              simp only [hm0]
              have HM0 := hid hm0
              clear hm0 HO
              go_wp2_with fail
              refine HSO.out.mono ?_
              rintro e w5 ⟨rfl, ⟨zs, hzs, hzl, ho5⟩, hg5⟩
              have HB5 : Hid (Below w.heap.size w w5) := hid (HB.out.grown hg5 (by have := HWS.out; have := HWR.out; omega) (fun k e => by cases e; exact HGB.out))
              have HCP := hid (compactSC (w4.heap.size + 1) g cap zs w5 (by rw [hzl]; exact ho5) (by have := HLEN.out; have := HM0.out; omega))
              rw [hzl] at HCP
              have HZS := hid hzs
              have HZL := hid hzl
              clear hzs hzl ho5 hg5 HSO
              go_wp2_with fail
              refine HCP.out.mono ?_
              rintro e w6 ⟨ts, hts, rfl, ho6, htl, hg6⟩
              have HB6 : Hid (Below w.heap.size w w6) := hid (HB5.out.grown hg6 (HB5.out.size) (fun k e => by cases e; exact HGB.out))
              have HO6 := hid (own_weak ho6 (B' := w.heap.size) (by have := HWS.out; omega))
              have HTS : Hid (OnceOf (rV l p l.length) ts ∧ ts.length ≤ 1048576) := hid ⟨HFI.out ts (by rw [hts, HZS.out]; exact compact_once _), by have := HLEN.out; have := HM0.out; have := HZL.out; omega⟩
              clear hts ho6 htl hg6 HCP
              go_wp2_with fail
              go_ret2
              exact ⟨⟨_, ts, by rw [yes_t HKY.out]; rfl, HO6.out, HTS.out.2, fun _ => HTS.out.1, fun hh => absurd HKY.out hh⟩, HB6.out⟩
          · intro xr xq c0' kl yd yp w5 cnt2 hkey hlk hv hat hrg2 hlt2 hg2 hs2 hen
            obtain ⟨sv, hsv⟩ : ∃ sv, f (xr, xq) = some sv := by
              have h1 := has_true_of_atKey hat
              rw [(HFM.out.at' (xr, xq) kl hkey).1] at h1
              cases e : f (xr, xq) with
              | none => rw [e] at h1; cases h1
              | some t => exact ⟨t, rfl⟩
            obtain rfl : c0' = .agg #[.string sv] := by
              have h1 := (HFM.out.at' (xr, xq) kl hkey).2
              rw [hat, hsv] at h1
              have h2 := allR_inv hv
              rw [h2] at h1
              injection h1
            have HC2 : Hid (CollF 50 dtV f (fun z => left z && !z.sameKey kl) (ds ++ [(xr, xq)])) := hid (HC.out.step HFM.out dotKeyed (fun _ _ => dtV_inj) hkey hlk hat)
            have HV : Hid (vals f (ds ++ [(xr, xq)]) = vals f ds ++ [sv]) := hid (by simp [vals, hsv])
            have HLEN : Hid ((vals f ds).length + 1 ≤ 1048576) := hid (by have h1 := HCS.out; have h2 := HSZ.out; simp [vals]; omega)
            have O5 := own_atS HO.out (w' := w5) (fun g hg => hg2.block g (HO.out.lt g hg).2 (by have := (HO.out.lt g hg).1; intro e; injection e with e; omega))
            have O6 := World.ownsRow.alloc (World.ownsRow.alloc O5 (.cells #[.string sv] 68)) (.cells #[.string sv] 9)
            have B5 : Below w.heap.size w w5 := HB.out.grown hg2 (HB.out.size) (fun k e => by cases e; exact HWS.out)
            have B6 := (B5.alloc B5.size (.cells #[.string sv] 68)).alloc (B5.alloc B5.size (.cells #[.string sv] 68)).size (.cells #[.string sv] 9)
            obtain ⟨v7, w7, happ, o7, g7, bl7, _⟩ := appS (w4.heap.size + 1) ((w5.alloc (.cells #[.string sv] 68)).alloc (.cells #[.string sv] 9)) u8 (vals f ds) [sv] ⟨w5.heap.size + 1, 0, none⟩ 1 O6 (fun i hi => by (obtain rfl : i = 0 := (by simpa using hi)); simp [Addr.add, gS]) (by have := HLEN.out; simp; omega) (by have := HWR.out; simp; omega)
            have hrg7 := (hrg2.alloc (.cells #[.string sv] 68)).alloc (.cells #[.string sv] 9)
            have hrg8 := hrg7.kept g7 (fun e => by have h1 := (HO.out.lt _ e.symm).1; have h2 := HBL.out; omega) (fun e => by have h1 := (HO.out.lt _ e.symm).1; omega)
            have HB7 : Hid (Below w.heap.size w w7) := hid (B6.grown g7 B6.size (fun k e => by have h1 := (HO.out.lt _ e).1; have := HWS.out; omega))
            have HO7 : Hid (w7.ownsRow (w4.heap.size + 1) 9 1 v7 (vals f (ds ++ [(xr, xq)])).length (sRow (vals f (ds ++ [(xr, xq)])))) := hid (by rw [HV.out]; exact o7)
            have HW7 : Hid (w4.heap.size + 1 ≤ w7.heap.size) := hid (by have h1 := g7.size; have h2 := HWR.out; have h3 := hs2; simp at h1; omega)
            have HRL : Hid (w7.rangeLeft x1.2 w4.heap.size < wr.rangeLeft x1.2 w4.heap.size) := hid (by rw [hrg8.left_eq, hrg.left_eq]; exact hlt2)
            have HRG := hid hrg8
            have HCN : Hid ((ds ++ [(xr, xq)]).length + cnt2 ≤ Maps.size D0) := hid (by have := HCS.out; simp; omega)
            clear hrg7 hrg8 hrg2 g7 bl7 B5 B6 O5 O6 o7 hs2 hg2 hlt2 hat hv hlk hkey hsv hrg HC HCS
            dsimp only [dtV, dotV, id] at hen ⊢
            have hst : (w5.alloc (.cells #[.string ByteArray.empty] 68)).heap.size = w5.heap.size + 1 := by simp
            simp only [List.length_cons, List.length_nil, Nat.zero_add] at happ
            go_wp2_with (at_builtin; refine wpList_appS rfl _ _ _ rfl happ (by rfl) (by rfl) rfl ?_; clear happ)
            go_roundw
            case rel => exact ⟨_, cnt2, _, HRG.out, HCN, HC2, HO7, HB7, HW7⟩
            case measure => exact HRL.out
  · have HO := hid (openStateNo a c l x n d R F T W hn hp hi hm HL.out HR.out hok)
    have HF : Hid (¬ RrOk R F T n l p) := hid (fun h => hok h.1)
    clear hok
    go_enter Try.func9, Try.ntmps9
    go_wp2_with fail
    try rw [hW]
    clear hW
    refine HO.out.mono ?_
    rintro e w1 ⟨rfl, b1⟩
    have HZ := hid ((keepS HB0.out b1).alloc (keepS HB0.out b1).size (.cells #[.map none, .map none, .map none] 63))
    clear b1 HO k0 k1
    go_wp2_with fail
    go_ret2
    exact ⟨⟨_, [], by rw [yes_f HF.out]; rfl, nilS _ _, by simp, fun h => absurd h HF.out, fun _ => rfl⟩, HZ.out⟩
end Go.Proofs.Ytkhicohhahaahaa
