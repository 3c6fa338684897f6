/- Layer 3: are envelopes of distinct replicas, by the document. -/
import Derived.Test.YtlbbehhjehpefaaADist
namespace Go.Proofs.Ytlbbehhjehpefaa
open Go.RowKit
set_option linter.unusedVariables false

set_option maxHeartbeats 1000000 in
theorem rDistinct_any (g : Nat) (f c : Int) (va v : Value) (xs : List (Int × Value)) (w : World) (h : RaH w g f c va) (hv : Es w v xs) (hl : xs.length ≤ 1000000) :
    Calls Try.prog 25 #[.pointer (some ⟨g, 0, none⟩), v] w fun e w' => e = .returned (.int .i64 (disE f (xs.map (·.1)))) ∧ Below w.heap.size w w' := by
  obtain ⟨i0, hi, hz0, hz1, hz2⟩ := info_parts intinfo
  have H := Lib.hid h
  have HV := Lib.hid hv
  obtain ⟨A, cc, rfl, -, -, -⟩ := hv.open
  have hzl : (xs.map (·.1)).length = xs.length := List.length_map _
  have HZL := Lib.hid hzl
  obtain ⟨L, hL⟩ : ∃ L, L = xs.map (·.1) := ⟨_, rfl⟩
  have HL := Lib.hid hL
  rw [← hL] at HZL ⊢
  clear h hv hzl hL
  go_enter Try.func25, Try.ntmps25
  go_wp2
  go_loopw [5, 6] (fun sv i wr => ∃ k : Nat, k ≤ xs.length ∧ i = .int .i64 k ∧ wr.ownsRow w.heap.size 3 1 sv k ((L.take k).map ic) ∧ (∀ j, j < k → badAt f L j = false) ∧ Below w.heap.size w wr) (fun _ i _ => xs.length - (intOf i).toNat)
  case atStart => exact ⟨0, Nat.zero_le _, rfl, World.ownsRow_nil _ _ _ _, by intro j hj; omega, Below.refl _ _⟩
  case round =>
    obtain ⟨k, hk, rfl, hown, hall, hbel⟩ := hrel
    have HALL := Lib.hid hall
    clear hall
    by_cases hlt : k < xs.length
    · obtain ⟨A', c', e, -, -, hx⟩ := (HV.out.below hbel (Nat.le_refl _)).open
      injection e with e e2 e3
      subst e
      clear e2 e3
      obtain ⟨ad, rfl, hcell, -⟩ := hx k hlt
      clear hx
      have hltL : k < L.length := by rw [HZL.out]; exact hlt
      have hLk : L[k] = xs[k].1 := by simp [HL.out]
      have hgd : L.getD k 0 = xs[k].1 := by simp [hltL, hLk]
      have hR := rReplica_any (w := wr) (g := g) (c := c) (v := va) ⟨(hbel.block g (Array.getElem?_eq_some_iff.1 H.out.1).1).trans H.out.1, H.out.2⟩ xs[k].1
      have hNs : Ns wr u5 (L.take k) := Rd.of_own hown
      have hI := in_any u5 (L.take k) xs[k].1 wr hNs
      rcases hr : repB f xs[k].1 with _ | _
      · rw [hr] at hR
        have hres : disE f L = 30 := by
          rw [disE_at (k := k) hltL HALL.out (by unfold badAt; rw [hgd, hr]; rfl)]
          simp [hLk, hr]
        have HRES := Lib.hid hres
        have HR := Lib.hid hR
        clear hR hr hI hNs hown hres hgd hLk
        go_wp2_with (first
          | (go_at_call 41; refine HR.out.mono ?_; rintro e w' ⟨rfl, hww⟩; rw [hww]; clear hww w'))
        go_ret
        exact ⟨ret_int HRES.out.symm, hbel⟩
      · rcases hd : decide (xs[k].1 ∈ L.take k) with _ | _
        · rw [hr] at hR
          rw [hd] at hI
          have HST := Lib.hid (show ∀ j, j < k + 1 → badAt f L j = false from fun j hj => by
            by_cases h : j < k
            · exact HALL.out j h
            · obtain rfl : j = k := by omega
              unfold badAt
              rw [hgd, hr, hd]; rfl)
          have HT := Lib.hid (show L.take (k + 1) = L.take k ++ [xs[k].1] by rw [List.take_succ_eq_append_getElem hltL, hLk])
          have HR := Lib.hid hR
          have HI := Lib.hid hI
          have hkl : (L.take k).length = k := by rw [List.length_take]; omega
          obtain ⟨As, cs, e, -, -, -⟩ := hNs.open
          rw [hkl] at e
          subst e
          clear hR hr hI hd hNs hgd hLk hkl
          have hownB := hown.kept (World.grownBy_alloc wr (.cells #[.int .i64 xs[k].1] 3) none) (by cases h : (Value.slice As k cs).ownBlock <;> simp)
          go_wp2_with (first
            | (go_at_call 41; refine HR.out.mono ?_; rintro e w' ⟨rfl, hww⟩; rw [hww]; clear hww w')
            | (go_at_call 45; refine HI.out.mono ?_; rintro e w' ⟨rfl, hww⟩; rw [hww]; clear hww w')
            | (at_builtin; refine wpList_append_rd _ rfl (.tmp 28) (.tmp 34) 50 rfl w.heap.size 3 i0 (.int .i64 0) 8 Try.underlying50 hi hz0 hz1 hz2 rfl _ _ _ rfl hownB _ _ rfl (Rd.one _ _ _) (by intro u hu; simp at hu; subst hu; rfl) (by simp; unfold maxLen; omega) (by simp; omega) (by have := hbel.size; simp; omega) ?_; intro v2 w2 hown2 hg2))
          have hB2 : Below w.heap.size w w2 := (hbel.alloc hbel.size _).grown hg2 (by have := hbel.size; simp; omega) (fun g hg => (hownB.lt g hg).1)
          have hown3 : w2.ownsRow w.heap.size 3 1 v2 (k + 1) ((L.take (k + 1)).map ic) := by
            rw [HT.out]
            simpa [ic] using hown2
          clear hg2 hown2 hownB hown
          go_roundw
          case rel => exact ⟨k + 1, by omega, by go_num, hown3, HST.out, hB2⟩
          case measure => simp [intOf]; omega
        · have hres : disE f L = 33 := by
            rw [disE_at (k := k) hltL HALL.out (by unfold badAt; rw [hgd, hd]; simp)]
            simp [hLk, hr]
          have HRES := Lib.hid hres
          rw [hr] at hR
          rw [hd] at hI
          have HR := Lib.hid hR
          have HI := Lib.hid hI
          clear hR hr hI hd hNs hown hgd hLk hres
          go_wp2_with (first
            | (go_at_call 41; refine HR.out.mono ?_; rintro e w' ⟨rfl, hww⟩; rw [hww]; clear hww w')
            | (go_at_call 45; refine HI.out.mono ?_; rintro e w' ⟨rfl, hww⟩; rw [hww]; clear hww w'))
          go_ret
          exact ⟨ret_int HRES.out.symm, hbel⟩
    · obtain rfl : k = xs.length := by omega
      have hres : disE f L = 0 := disE_ok (by rw [HZL.out]; exact HALL.out)
      have HRES := Lib.hid hres
      clear hres hown
      go_wp2
      go_ret
      exact ⟨ret_int HRES.out.symm, hbel⟩
end Go.Proofs.Ytlbbehhjehpefaa
