/- Layer 3: AuthnMeets. -/
import Derived.Test.YtlbbehhjehpefaaALaw1
namespace Go.Proofs.Ytlbbehhjehpefaa
open Go.RowKit
set_option linter.unusedVariables false

/-- those of l that are among m -/
def bothL (l m : List Int) : List Int := l.filter fun x => decide (x ∈ m)
theorem both_hit (l m : List Int) (k : Nat) (h : k < l.length) (hm : l[k] ∈ m) : bothL (l.take (k + 1)) m = bothL (l.take k) m ++ [l[k]] := by
  unfold bothL
  rw [List.take_succ_eq_append_getElem h, List.filter_append]
  simp [hm]
theorem both_miss (l m : List Int) (k : Nat) (h : k < l.length) (hm : l[k] ∉ m) : bothL (l.take (k + 1)) m = bothL (l.take k) m := by
  unfold bothL
  rw [List.take_succ_eq_append_getElem h, List.filter_append]
  simp [hm]
theorem both_le (l m : List Int) (k : Nat) : (bothL (l.take k) m).length ≤ k := by
  unfold bothL
  have h1 := List.length_filter_le (fun x => decide (x ∈ m)) (l.take k)
  rw [List.length_take] at h1
  omega

set_option maxHeartbeats 2000000 in
theorem AuthnMeets_any (F C : Int) (v y : Value) (l m : List Int) (w : World) (hv : Ns w v l) (hy : Ns w y m) : Calls Try.prog 8 #[.agg #[.int .i64 F, .int .i64 C], v, y] w (Yes3 w) := by
  obtain ⟨i0, hi, hz0, hz1, hz2⟩ := info_parts intinfo
  have hb1 : Below w.heap.size w (w.alloc (.cells #[.int .i64 F, .int .i64 C] 23)) := (Below.refl _ _).alloc (Nat.le_refl _) _
  have HV := Lib.hid hv
  have HY := Lib.hid hy
  obtain ⟨A, ca, rfl, -, -, -⟩ := hv.open
  obtain ⟨B, cb, rfl, -, -, -⟩ := hy.open
  clear hv hy
  by_cases hlen : l.length ≤ 1000 ∧ m.length ≤ 1000
  · have hI : decide ((1000 : Int) < (l.length : Int)) = false := by simp; omega
    have hJ : decide ((1000 : Int) < (m.length : Int)) = false := by simp; omega
    have hll : l.length ≤ 1000 := hlen.1
    have hml : m.length ≤ 1000 := hlen.2
    clear hlen
    go_enter Try.func8, Try.ntmps8
    go_upto_region 4 with (first
      | (go_at_call 10; refine (New3_any F C _).mono ?_; rintro e w1 ⟨g, bm, rfl, hg, hbm, hA, hbA⟩))
    have hB1 : Below w.heap.size w w1 := hb1.trans (hbA.mono hb1.size)
    have HVc := Lib.hid (HV.out.below hB1 (Nat.le_refl _))
    have HYc := Lib.hid (HY.out.below hB1 (Nat.le_refl _))
    have hAf := hA.1.2
    obtain ⟨f, hf⟩ : ∃ f, f = max 0 (min F 2) := ⟨_, rfl⟩
    obtain ⟨c, hc⟩ : ∃ c, c = max 0 (min C 8) := ⟨_, rfl⟩
    rw [← hf, ← hc] at hA hAf
    have HA := Lib.hid hA
    have hbl := cnt_both f l m
    have hCl : Calls Try.prog 22 #[.pointer (some ⟨g, 0, none⟩), .slice A l.length ca] w1 (Says (.int .i64 (cntP f l)) w1) := auCount_any g bm f c _ l w1 hA.1 HVc.out
    have hCm : Calls Try.prog 22 #[.pointer (some ⟨g, 0, none⟩), .slice B m.length cb] w1 (Says (.int .i64 (cntP f m)) w1) := auCount_any g bm f c _ m w1 hA.1 HYc.out
    have hQ := Quorum_any hA.1
    clear hf hc hA hbA hb1
    by_cases hlo : (cntP f l : Int) < 2 * f + 1
    · generalize (cntP f l : Int) = p at *
      have HCl := Lib.hid hCl
      have HQ := Lib.hid hQ
      clear hCl hCm hQ hbl
      go_wp2_with (first
        | (go_at_call 22; refine HCl.out.mono ?_; rintro e w' ⟨rfl, hww⟩; rw [hww]; clear hww w')
        | (go_at_call 26; refine HQ.out.mono ?_; rintro e w' ⟨rfl, hww⟩; rw [hww]; clear hww w')
        | (go_at_call 14; refine (awake3_any _).mono ?_; rintro e w8 ⟨rfl, hb8⟩))
      go_ret
      exact ⟨rfl, hB1.trans (hb8.mono hB1.size)⟩
    · have hlo1 : decide ((cntP f l : Int) < 2 * f + 1) = false := by simpa using hlo
      by_cases hmo : (cntP f m : Int) < 2 * f + 1
      · have hmo1 : decide ((cntP f m : Int) < 2 * f + 1) = true := by simpa using hmo
        clear hlo hmo hbl
        generalize (cntP f l : Int) = p at *
        generalize (cntP f m : Int) = q at *
        have HCl := Lib.hid hCl
        have HCm := Lib.hid hCm
        have HQ := Lib.hid hQ
        clear hCl hCm hQ
        go_wp2_with (first
        | (go_at_call_of 22 (l.length); refine HCl.out.mono ?_; rintro e w' ⟨rfl, hww⟩; rw [hww]; clear hww w')
        | (go_at_call_of 22 (m.length); refine HCm.out.mono ?_; rintro e w' ⟨rfl, hww⟩; rw [hww]; clear hww w')
        | (go_at_call 26; refine HQ.out.mono ?_; rintro e w' ⟨rfl, hww⟩; rw [hww]; clear hww w')
        | (go_at_call 14; refine (awake3_any _).mono ?_; rintro e w8 ⟨rfl, hb8⟩))
        go_ret
        exact ⟨rfl, hB1.trans (hb8.mono hB1.size)⟩
      · have hmo1 : decide ((cntP f m : Int) < 2 * f + 1) = false := by simpa using hmo
        have hboth : f + 1 ≤ (cntP f (bothL l m) : Int) := by unfold bothL; omega
        have HBOTH := Lib.hid hboth
        clear hlo hmo hbl hboth
        generalize (cntP f l : Int) = p at *
        generalize (cntP f m : Int) = q at *
        have HCl := Lib.hid hCl
        have HCm := Lib.hid hCm
        have HQ := Lib.hid hQ
        have HFI := Lib.hid hAf
        clear hCl hCm hQ hAf
        go_wp2_with (first
        | (go_at_call_of 22 (l.length); refine HCl.out.mono ?_; rintro e w' ⟨rfl, hww⟩; rw [hww]; clear hww w')
        | (go_at_call_of 22 (m.length); refine HCm.out.mono ?_; rintro e w' ⟨rfl, hww⟩; rw [hww]; clear hww w')
        | (go_at_call 26; refine HQ.out.mono ?_; rintro e w' ⟨rfl, hww⟩; rw [hww]; clear hww w'))
        go_loopw [8, 9] (fun bv i wr => ∃ k : Nat, k ≤ l.length ∧ i = .int .i64 k ∧ wr.ownsRow w1.heap.size 3 1 bv (bothL (l.take k) m).length ((bothL (l.take k) m).map ic) ∧ Below w1.heap.size w1 wr) (fun _ i _ => l.length - (intOf i).toNat)
        case atStart => exact ⟨0, Nat.zero_le _, rfl, World.ownsRow_nil _ _ _ _, Below.refl _ _⟩
        case round =>
          obtain ⟨k, hk, rfl, hown, hbel⟩ := hrel
          by_cases hlt : k < l.length
          · obtain ⟨A', c', e, -, -, hx⟩ := (HVc.out.below hbel (Nat.le_refl _)).open
            injection e with e e2 e3
            subst e
            clear e2 e3
            obtain ⟨ad, rfl, hcell⟩ := hx k hlt
            clear hx
            have HO := Lib.hid hown
            have hble := both_le l m k
            obtain ⟨As, cs, rfl⟩ := own_slice hown
            clear hown
            go_wp2
            go_loopw [8, 10] (fun bv i wq => bv = .slice As (bothL (l.take k) m).length cs ∧ ∃ j : Nat, j ≤ m.length ∧ i = .int .i64 j ∧ l[k] ∉ m.take j ∧ ∃ nd, wq = wr.drewN nd) (fun _ i _ => m.length - (intOf i).toNat)
            case atStart => exact ⟨rfl, 0, Nat.zero_le _, rfl, by simp, 0, rfl⟩
            case round =>
              obtain ⟨rfl, j, hj, rfl, hno, nd, rfl⟩ := hrel
              have HNO := Lib.hid hno
              clear hno
              by_cases hlt2 : j < m.length
              · obtain ⟨A', c', e, -, -, hx⟩ := (HYc.out.below hbel (Nat.le_refl _)).open
                injection e with e e2 e3
                subst e
                clear e2 e3
                obtain ⟨ad2, rfl, hcell2⟩ := hx j hlt2
                clear hx
                by_cases heq : l[k] = m[j]
                · have HT := Lib.hid (both_hit l m k hlt (by rw [heq]; exact List.getElem_mem hlt2))
                  rw [← heq] at hcell2
                  clear heq
                  go_wp2
                  go_quiet (fail)
                  obtain ⟨wq, hwq⟩ : ∃ wq, wq = (wr.drewN nd).drewN nq := ⟨_, rfl⟩
                  have hbq : Below w1.heap.size w1 wq := by rw [hwq]; exact below_drewN (below_drewN hbel _) _
                  have hoq : wq.ownsRow w1.heap.size 3 1 (.slice As (bothL (l.take k) m).length cs) (bothL (l.take k) m).length ((bothL (l.take k) m).map ic) := by rw [hwq]; exact HO.out
                  have hcq : wq.cell? (ad.add k) = some (.int .i64 l[k]) := by rw [hwq]; exact hcell
                  rw [← hwq]
                  clear hwq hcell hcell2
                  have hownB := hoq.kept (World.grownBy_alloc wq (.cells #[.int .i64 l[k]] 3) none) (by cases h : (Value.slice As (bothL (l.take k) m).length cs).ownBlock <;> simp)
                  go_wp2_with (first
                    | (at_builtin; refine wpList_append_rd _ rfl (.tmp 60) (.tmp 65) 50 rfl w1.heap.size 3 i0 (.int .i64 0) 8 Try.underlying50 hi hz0 hz1 hz2 rfl _ _ _ rfl hownB _ _ rfl (Rd.one _ _ _) (by intro u hu; simp at hu; subst hu; rfl) (by simp; unfold maxLen; omega) (by simp; omega) (by have := hbq.size; simp; omega) ?_; intro v2 w2 hown2 hg2))
                  have hB2 : Below w1.heap.size w1 w2 := (hbq.alloc hbq.size _).grown hg2 (by have := hbq.size; simp; omega) (fun g hg => (hownB.lt g hg).1)
                  have hown3 : w2.ownsRow w1.heap.size 3 1 v2 (bothL (l.take (k + 1)) m).length ((bothL (l.take (k + 1)) m).map ic) := by
                    rw [HT.out]
                    simpa [ic] using hown2
                  clear hg2 hown2 hownB hoq
                  go_roundw
                  case rel => exact ⟨k + 1, by omega, by go_num, hown3, hB2⟩
                  case measure => simp [intOf]; omega
                · have HNX := Lib.hid (show l[k] ∉ m.take (j + 1) from fun hi => by rcases (mem_take hlt2).1 hi with hi | hi; exact HNO.out hi; exact heq hi)
                  have heqI : (l[k] == m[j]) = false := by simpa using heq
                  go_wp2
                  go_quiet (fail)
                  go_wp2
                  go_roundw
                  case rel => exact ⟨rfl, j + 1, by omega, by go_num, HNX.out, nd + nq, by simp⟩
                  case measure => simp [intOf]; omega
              · obtain rfl : j = m.length := by omega
                have HT := Lib.hid (both_miss l m k hlt (by have := HNO.out; rwa [List.take_length] at this))
                go_wp2
                go_roundw
                case rel => exact ⟨k + 1, by omega, by go_num, by rw [HT.out]; exact HO.out, below_drewN hbel _⟩
                case measure => simp [intOf]; omega
          · obtain rfl : k = l.length := by omega
            rw [List.take_length] at hown
            have hNs : Ns wr u8 (bothL l m) := Rd.of_own hown
            have hCb := auCount_any g bm f c u8 _ wr (HA.out.1.below hbel (Nat.le_refl _)) hNs
            have hW := Weak_any (HA.out.1.below hbel (Nat.le_refl _))
            have hF := F_any (HA.out.1.below hbel (Nat.le_refl _))
            have hN := N_any (HA.out.1.below hbel (Nat.le_refl _))
            have hQr := Quorum_any (HA.out.1.below hbel (Nat.le_refl _))
            have hge := HBOTH.out
            have hfi := HFI.out
            generalize (cntP f (bothL l m) : Int) = r at *
            have hd1 : decide (f < r) = true := by simp; omega
            have hd2 : decide (f + 1 ≤ r) = true := by simpa using hge
            have hd3 : decide (2 * f + 1 ≤ 3 * f + 1 - f) = true := by simp; omega
            have hwr : IntKind.i64.wrap (3 * f + 1 - f) = 3 * f + 1 - f := by rw [IntKind.wrap_i64]; omega
            have HCb := Lib.hid hCb
            have HW := Lib.hid hW
            have HF := Lib.hid hF
            have HN := Lib.hid hN
            have HQr := Lib.hid hQr
            clear hCb hW hF hN hQr hown hNs
            go_wp2_with (first
              | (go_at_call 22; refine HCb.out.mono ?_; rintro e w' ⟨rfl, hww⟩; rw [hww]; clear hww w')
              | (go_at_call 28; refine HW.out.mono ?_; rintro e w' ⟨rfl, hww⟩; rw [hww]; clear hww w')
              | (go_at_call 27; refine HF.out.mono ?_; rintro e w' ⟨rfl, hww⟩; rw [hww]; clear hww w')
              | (go_at_call 29; refine HN.out.mono ?_; rintro e w' ⟨rfl, hww⟩; rw [hww]; clear hww w')
              | (go_at_call 26; refine HQr.out.mono ?_; rintro e w' ⟨rfl, hww⟩; rw [hww]; clear hww w')
              | (go_at_call 14; refine (awake3_any _).mono ?_; rintro e w8 ⟨rfl, hb8⟩))
            go_ret
            have h2 := hB1.trans (hbel.mono hB1.size)
            exact ⟨rfl, h2.trans (hb8.mono h2.size)⟩
  · rcases (show 1000 < l.length ∨ (l.length ≤ 1000 ∧ 1000 < m.length) by omega) with h | ⟨h1, h⟩
    all_goals
      go_enter Try.func8, Try.ntmps8
      go_wp2
      go_ret
      exact ⟨rfl, hb1⟩
end Go.Proofs.Ytlbbehhjehpefaa
