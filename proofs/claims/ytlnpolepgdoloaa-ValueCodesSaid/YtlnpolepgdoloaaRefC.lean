/- The document's reader: rows of bytes. -/
import Derived.Test.YtlnpolepgdoloaaRefB
namespace Go.Proofs.Ytlnpolepgdoloaa
open Go.RowKit
set_option linter.unusedVariables false
set_option maxRecDepth 20000

/-- what Bytes of the document's reader leaves: the row lies in new memory -/
def DidRN (h : Nat) (l rest : List UInt8) (err : Int) (w : World) (e : Ending) (w' : World) : Prop := ∃ v, e = .returned v ∧ Bs w' v l ∧ RfS w' h rest err ∧ Only h w w' ∧ New w.heap.size v

set_option maxHeartbeats 1000000 in
theorem rfBytes_any (h : Nat) (rest : List UInt8) (e : Int) (most : Int) (h0 : -9223372036854775808 ≤ most) (h9 : most ≤ 9223372036854775807) (w : World) (hr : RfS w h rest e) :
    Calls Try.prog 70 #[.pointer (some ⟨h, 0, none⟩), .int .i64 most] w
      (DidRN h (bytesF most rest e).1 (bytesF most rest e).2.1 (bytesF most rest e).2.2 w) := by
  obtain ⟨i0, hi0, hz0, hz1, hz2⟩ := info_parts u8info
  obtain ⟨bs, i, hr, rfl⟩ := hr
  have hcount := rfCount_at h bs i e most h0 h9 w hr
  obtain ⟨A, c, -, -, -, hi, h99, hc0, hc1, hc2, hf, hlt, -⟩ := hr.open
  by_cases hs : (stepF 4 (alCount most) (bs.drop i) e).2.2 = 0
  · obtain ⟨rfl, h4, -, -⟩ := stepF_ok hs
    by_cases hn : (bs.drop i).length - 4 < (stepF 4 (alCount most) (bs.drop i) 0).1
    · rw [bytesF_short most _ hs hn]
      have hd : (bs.drop i).length - 4 = ((stepF 4 (alCount most) (bs.drop i) 0).2.1).length := by obtain ⟨-, -, -, h5⟩ := stepF_ok hs; rw [h5]; simp only [List.length_drop]
      generalize stepF 4 (alCount most) (bs.drop i) 0 = s at *
      obtain ⟨n, r2, e2⟩ := s
      simp only at hs hcount hn hd ⊢
      subst hs
      have hb1 : ((0 : Int) == 0) = true := rfl
      have HC := Lib.hid hcount
      rw [hd] at hn
      clear hcount hc0 hc2 hf hd h4
      go_enter Try.func70, Try.ntmps70
      go_wp2_with (go_at_call 97; refine HC.out.mono ?_; rintro e w1 ⟨rfl, ⟨i', hr1, hd1⟩, ho1⟩; obtain ⟨A1, c1, -, -, -, hi1, -, hd0, hd1', hd2, hf1, hlt1, -⟩ := hr1.open; have hn1 : (bs.length : Int) - i' < n := by rw [← hd1, List.length_drop] at hn; omega)
      go_quiet (fail)
      go_wp2
      go_ret
      exact ⟨_, rfl, Bs.nil _, ⟨bs, i, ((hr1.drewN _).setErr 10).setAt i hi, rfl⟩, ((Only.below ho1 (below_drewN (Below.refl _ _) _)).set _ _).set _ _, New.nil _⟩
    · rw [bytesF_good most _ hs (by omega)]
      have hd : (bs.drop i).length - 4 = ((stepF 4 (alCount most) (bs.drop i) 0).2.1).length ∧ (stepF 4 (alCount most) (bs.drop i) 0).2.1 = (bs.drop i).drop 4 := by obtain ⟨-, -, -, h5⟩ := stepF_ok hs; rw [h5]; exact ⟨by simp only [List.length_drop], rfl⟩
      rw [← hd.2]
      replace hd := hd.1
      generalize stepF 4 (alCount most) (bs.drop i) 0 = s at *
      obtain ⟨n, r2, e2⟩ := s
      simp only at hs hcount hn hd ⊢
      subst hs
      have hb1 : ((0 : Int) == 0) = true := rfl
      have hb2 : ((0 : Int) != 0) = false := rfl
      have HC := Lib.hid hcount
      rw [hd] at hn
      have hbs : bs ≠ [] := by rintro rfl; simp at h4
      clear hcount hc0 hc2 hf hd h4
      go_enter Try.func70, Try.ntmps70
      go_wp2_with (go_at_call 97; refine HC.out.mono ?_; rintro e w1 ⟨rfl, ⟨i', hr1, hd1⟩, ho1⟩; obtain ⟨A1, c1, hbv, hc1c, hmx, hi1, h999, hd0, hd1', hd2, hf1, hlt1, hx1⟩ := hr1.open; obtain ⟨ad, rfl, -⟩ := hx1 hbs; clear hx1; have hn1 : n ≤ bs.length - i' := by rw [← hd1, List.length_drop] at hn; omega)
      go_quiet (fail)
      go_wp2
      obtain ⟨hin, -, hm1, hm2⟩ := cut_len bs i' n hn1 hi1 h999
      obtain ⟨hw', hk0, hk1, hk2⟩ := cut_facts i' n bs.length c1 hin hc1c h999
      have hsc := run_cut ad bs.length c1 i' n (Nat.le_trans hin hc1c)
      have hmax : n ≤ 1000000000000 := Nat.le_trans (Nat.le_trans (Nat.le_add_left _ _) hin) h999
      obtain ⟨w2, hw2⟩ : ∃ w2, w2 = w1.drewN nq := ⟨_, rfl⟩
      rw [← hw2]
      have hr2 : RfG w2 h bs i' 0 := by rw [hw2]; exact hr1.drewN nq
      have ho2 : Only h w w2 := by rw [hw2]; exact Only.below ho1 (below_drewN (Below.refl _ _) _)
      have hl2 := hr2.lt
      have hsl : Bs w2 (.slice (some (if c1 = i' then ad else ad.add i')) n (c1 - i')) ((bs.drop i').take n) := by
        rw [hw2]
        exact Bs.take (Bs.drop (Rd.drewN hbv nq) hi1) (by rw [List.length_drop]; exact hn1)
      have hq0 : w2.cell? ⟨h, 0, none⟩ = some (.slice (some ad) bs.length c1) := by rw [hw2]; exact hd0
      have hq1 : w2.cell? ⟨h, 1, none⟩ = some (.int .i64 i') := by rw [hw2]; exact hd1'
      clear hd0 hd1' hd2 hf1 hlt1 hr1 hbv hw2 ho1 hr hlt hc1
      have hsa : ∀ w, (Instr.sliceAt 42 (.slice (some ad) bs.length c1) (some (.int .i64 (i' : Int))) (some (.int .i64 ((i' : Int) + n))) none).run Try.prog w = .ok (.slice (some (if c1 = i' then ad else ad.add i')) n (c1 - i')) w := fun w => (run_sliceAt_slice (P := Try.prog) w _ _ _ _ _ Try.underlying42).trans (hsc w)
      obtain ⟨AD, hAD⟩ : ∃ AD, AD = if c1 = i' then ad else ad.add i' := ⟨_, rfl⟩
      rw [← hAD] at hsl hsc hsa
      have HSL := Lib.hid hsl
      have HM1 := Lib.hid hm1
      have HM2 := Lib.hid hm2
      have HN1 := Lib.hid hn1
      have HI1 := Lib.hid hi1
      clear hsl hm1 hm2 hAD hk0 hk1 hk2 hn1 hi1 HC hc1c h999 hmx hn hbs h99
      have hS0 : Below w2.heap.size w2 w2.drew ∧ w2.drew.cell? ⟨h, 0, none⟩ = some (.slice (some ad) bs.length c1) ∧ w2.drew.cell? ⟨h, 1, none⟩ = some (.int .i64 i') := ⟨(Below.refl _ _).drew, hq0, hq1⟩
      have hEmpty := own_empty w2.drew 5 w2.heap.size w2.heap.size (Nat.le_refl _) rfl
      have hEB : Below w2.heap.size w2 (w2.drew.alloc (.cells #[] 5)) := ((Below.refl w2.heap.size w2).drew).alloc (Nat.le_refl _) _
      have hEK := keep2_alloc (o := .cells #[] 5) hS0 hl2
      go_region_held3 (fun W => Below w2.heap.size w2 W ∧ W.cell? ⟨h, 0, none⟩ = some (.slice (some ad) bs.length c1) ∧ W.cell? ⟨h, 1, none⟩ = some (.int .i64 i')) (first | assumption | exact hS0 | exact hlater | exact keep2_alloc (by assumption) hl2) (first | (refine step_append_rd rfl (.tmp 46) (.tmp 61) 42 rfl w2.heap.size 5 i0 (.int .u8 0) 1 Try.underlying42 hi0 hz0 hz1 hz2 rfl _ 0 [] rfl hEmpty _ _ rfl (Rd.below HSL.out hEB (Nat.le_refl _)) (bc_one _) HM1.out HM2.out hEB.size ?_; intro v3 w3 hown3 hg3 ho3; have hlater := keep2 (W' := w3) hEK hl2 (((Below.refl w2.heap.size _).grown hg3 hEB.size (by intro k h; injection h with h; exact Nat.le_of_eq h)))))
      have hS : Below w2.heap.size w2 w3 ∧ w3.cell? ⟨h, 0, none⟩ = some (.slice (some ad) bs.length c1) ∧ w3.cell? ⟨h, 1, none⟩ = some (.int .i64 i') := by assumption
      have hr3 := hr2.below hS.1
      obtain ⟨A3, c3, -, -, -, -, -, he0, he1, -, hf3, hl3, -⟩ := hr3.open
      have hb3 : Bs w3 v3 ((bs.drop i').take n) := Rd.of_own (by simpa using hown3)
      have hnw3 : New w.heap.size v3 := (New.of_own hown3).mono ho2.size
      have ho3 := Only.below ho2 hS.1
      have hin' : ((i' : Int) + n) = ((i' + n : Nat) : Int) := by rw [Int.natCast_add]
      have HIN' := Lib.hid hin'
      clear hin' hown3 hg3 hEK hEB hEmpty hS0 hq0 hq1 hsc hsa hS
      go_wp2
      go_ret
      refine ⟨_, rfl, by rw [← hd1]; exact hr3.keepBs hb3 _ _, ⟨bs, i' + n, ?_, by rw [← hd1, List.drop_drop]⟩, ho3.set _ _, hnw3⟩
      rw [HIN'.out]
      exact hr3.setAt (i' + n) hin
  · rw [bytesF_err most _ e hs]
    generalize stepF 4 (alCount most) (bs.drop i) e = s at *
    obtain ⟨n, r2, e2⟩ := s
    simp only at hs hcount ⊢
    have hb1 : (e2 == 0) = false := by simpa using hs
    have hb2 : (e2 != 0) = true := by simpa using hs
    have HC := Lib.hid hcount
    clear hcount hs hc0 hc2 hf
    go_enter Try.func70, Try.ntmps70
    go_wp2_with (go_at_call 97; refine HC.out.mono ?_; rintro e w1 ⟨rfl, ⟨i', hr1, hd1⟩, ho1⟩; obtain ⟨A1, c1, -, -, -, -, -, hd0, hd1', hd2, hf1, hlt1, -⟩ := hr1.open)
    go_quiet (fail)
    go_wp2
    go_ret
    exact ⟨_, rfl, Bs.nil _, ⟨bs, i', hr1.drewN _, hd1⟩, Only.below ho1 (below_drewN (Below.refl _ _) _), New.nil _⟩
end Go.Proofs.Ytlnpolepgdoloaa
