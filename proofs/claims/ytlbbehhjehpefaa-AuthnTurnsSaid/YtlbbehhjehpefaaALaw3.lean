/- Layer 3: AuthnTurns, AuthnLong. -/
import Derived.Test.YtlbbehhjehpefaaALaw1
namespace Go.Proofs.Ytlbbehhjehpefaa
open Go.RowKit
set_option linter.unusedVariables false

theorem turn_snoc (f v : Int) (k : Nat) : (List.range (k + 1)).map (fun i : Nat => primE f (v + i)) = (List.range k).map (fun i : Nat => primE f (v + i)) ++ [primE f (v + k)] := by
  rw [List.range_succ, List.map_append, List.map_singleton]

set_option maxHeartbeats 1000000 in
theorem AuthnTurns_any (F C s : Int) (w : World) (hs : ok64 s) : Calls Try.prog 9 #[.agg #[.int .i64 F, .int .i64 C], .int .i64 s] w (Yes3 w) := by
  obtain ⟨i0, hi, hz0, hz1, hz2⟩ := info_parts intinfo
  have hb0 : Below w.heap.size w (w.alloc (.cells #[.int .i64 F, .int .i64 C] 23)) := (Below.refl _ _).alloc (Nat.le_refl _) _
  go_enter Try.func9, Try.ntmps9
  go_upto_region 2 with (first
    | (go_at_call 10; refine (New3_any F C _).mono ?_; rintro e w1 ⟨g, bm, rfl, hg, hbm, hA, hbA⟩))
  have hB1 : Below w.heap.size w w1 := hb0.trans (hbA.mono hb0.size)
  go_cut [1] from 13 to 15 (fun s1 wx => ∃ v0 : Int, s1 = .int .i64 v0 ∧ 0 ≤ v0 ∧ v0 ≤ 1099511627776 ∧ wx = w1)
  case first =>
    go_wp2_with fail
    all_goals
      go_meet
      exact ⟨_, rfl, by omega, by omega, rfl⟩
  case rest =>
  obtain ⟨v0, rfl, hv0, hv9, rfl⟩ := hcut
  have hAf := hA.1.2
  obtain ⟨f, hf⟩ : ∃ f, f = max 0 (min F 2) := ⟨_, rfl⟩
  obtain ⟨c, hc⟩ : ∃ c, c = max 0 (min C 8) := ⟨_, rfl⟩
  rw [← hf, ← hc] at hA hAf
  obtain ⟨n, hn⟩ : ∃ n : Nat, 3 * f + 1 = n := ⟨(3 * f + 1).toNat, by omega⟩
  have hn7 : n ≤ 7 := by omega
  have hn1 : 1 ≤ n := by omega
  have hcnt : cntP f ((List.range n).map fun i : Nat => primE f (v0 + i)) = n := by
    have := cnt_turns f hAf.1 hAf.2.1 v0 hv0
    rw [hn] at this
    exact this
  have HCNT := Lib.hid hcnt
  have HN : ∀ W, Below wc.heap.size wc W → Calls Try.prog 29 #[.pointer (some ⟨g, 0, none⟩)] W (Says (.int .i64 n) W) := fun W hb => by
    have := N_any (hA.1.below hb (Nat.le_refl _))
    rwa [hn] at this
  have hN' := Lib.hid HN
  have HA := Lib.hid hA
  clear hcnt HN hA hAf hf hc hn
  go_wp2
  go_loopw [6, 7] (fun lv i wr => ∃ k : Nat, k ≤ n ∧ i = .int .i64 k ∧ wr.ownsRow wc.heap.size 3 1 lv k (((List.range k).map fun i : Nat => primE f (v0 + i)).map ic) ∧ Below wc.heap.size wc wr) (fun _ i _ => n - (intOf i).toNat)
  case atStart => exact ⟨0, Nat.zero_le _, rfl, World.ownsRow_nil _ _ _ _, Below.refl _ _⟩
  case round =>
    obtain ⟨k, hk, rfl, hown, hbel⟩ := hrel
    have hNk := Lib.hid (hN'.out wr hbel)
    by_cases hlt : k < n
    · have hw : IntKind.i64.wrap (v0 + (k : Int)) = v0 + k := by rw [IntKind.wrap_i64]; omega
      have hP := Primary_any (HA.out.1.below hbel (Nat.le_refl _)) (v0 + k) (by unfold ok64; omega)
      have HP := Lib.hid hP
      have hT := turn_snoc f v0 k
      have HT := Lib.hid hT
      have hkl : (List.range k).length = k := List.length_range
      have HKL := Lib.hid hkl
      have hownB := hown.kept (World.grownBy_alloc wr (.cells #[.int .i64 (primE f (v0 + k))] 3) none) (by cases h : u6.ownBlock <;> simp)
      obtain ⟨As, cs, rfl⟩ := own_slice hown
      clear hP hT hkl
      go_wp2_with (first
        | (go_at_call 29; refine hNk.out.mono ?_; rintro e w' ⟨rfl, hww⟩; rw [hww]; clear hww w')
        | (go_at_call 30; refine HP.out.mono ?_; rintro e w' ⟨rfl, hww⟩; rw [hww]; clear hww w')
        | (at_builtin; refine wpList_append_rd _ rfl (.tmp 22) (.tmp 28) 50 rfl wc.heap.size 3 i0 (.int .i64 0) 8 Try.underlying50 hi hz0 hz1 hz2 rfl _ _ _ rfl hownB _ _ rfl (Rd.one _ _ _) (by intro u hu; simp at hu; subst hu; rfl) (by simp; unfold maxLen; omega) (by simp; omega) (by have := hbel.size; simp; omega) ?_; intro v2 w2 hown2 hg2))
      have hB2 : Below wc.heap.size wc w2 := (hbel.alloc hbel.size _).grown hg2 (by have := hbel.size; simp; omega) (fun g hg => (hownB.lt g hg).1)
      have hown3 : w2.ownsRow wc.heap.size 3 1 v2 (k + 1) (((List.range (k + 1)).map fun i : Nat => primE f (v0 + i)).map ic) := by
        rw [HT.out]
        simpa [ic] using hown2
      clear hg2 hown2 hownB hown
      go_roundw
      case rel => exact ⟨k + 1, by omega, by go_num, hown3, hB2⟩
      case measure => simp [intOf]; omega
    · obtain rfl : k = n := by omega
      have hNs : Ns wr u6 ((List.range k).map fun i : Nat => primE f (v0 + i)) := Rd.of_own hown
      have hCo := auCount_any g bm f c u6 _ wr (HA.out.1.below hbel (Nat.le_refl _)) hNs
      rw [HCNT.out] at hCo
      have HCo := Lib.hid hCo
      have hk0 : (0 : Int) < (k : Int) := by omega
      clear hCo hNs hown
      go_wp2_with (first
        | (go_at_call 29; refine hNk.out.mono ?_; rintro e w' ⟨rfl, hww⟩; rw [hww]; clear hww w')
        | (go_at_call 22; refine HCo.out.mono ?_; rintro e w' ⟨rfl, hww⟩; rw [hww]; clear hww w')
        | (go_at_call 14; refine (awake3_any _).mono ?_; rintro e w3 ⟨rfl, hb3⟩))
      go_ret
      have h2 := hB1.trans (hbel.mono hB1.size)
      exact ⟨rfl, h2.trans (hb3.mono h2.size)⟩
end Go.Proofs.Ytlbbehhjehpefaa
