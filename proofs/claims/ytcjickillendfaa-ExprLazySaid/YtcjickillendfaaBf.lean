/- Bf: ERFit ESound (made by bundle.py). -/
import Derived.Test.YtcjickillendfaaBe
/- Layer 5: do values fit fields, by the program and by the document. (Made by gen/genfit.py.) -/
namespace Go.Proofs.Ytcjickillendfaa
open Go.RowKit
set_option linter.unusedVariables false
set_option linter.unusedSimpArgs false
set_option maxRecDepth 20000

set_option maxHeartbeats 2000000 in
theorem fit_doc (FA : Option Addr) (FC : Nat) (fs : List Fd) (VA : Option Addr) (VC : Nat) (vs : List Vl) (w : World) (hf : FdK w FA FC fs) (hv : VlK w VA VC vs) :
    Calls Try.prog 8 #[.slice FA fs.length FC, .slice VA vs.length VC] w (VMk (.bool (fitX fs vs)) w) := by
  obtain ⟨f1, f2, f3, f4⟩ := hf
  obtain ⟨v1, v2, v3, v4⟩ := hv
  unfold maxLen at f2 v2
  have hfl : fs.length ≤ 9223372036854775807 := by omega
  have hvl : vs.length ≤ 9223372036854775807 := by omega
  have F4 := Lib.hid f4
  have V4 := Lib.hid v4
  clear f1 f2 f3 f4 v1 v2 v3 v4
  have hsf := fun (w : World) (a : Addr) (m : Mode) (b : Nat) => run_store Try.prog w a (.float .f64 b) m rfl
  by_cases hl : fs.length = vs.length
  · have hne : ((fs.length : Int) != (vs.length : Int)) = false := by simp [hl]
    have HALLF := Lib.hid (fit_all fs vs hl)
    have HNOF := Lib.hid (fit_no fs vs)
    have HL := Lib.hid hl
    clear hl
    go_enter Try.func8, Try.ntmps8
    go_wp2
    go_loopw [5] (fun i wr => ∃ k : Nat, k ≤ vs.length ∧ i = .int .i64 k ∧ (∀ (j : Nat) (hj : j < fs.length) (hj' : j < vs.length), j < k → fitB fs[j] vs[j] = true) ∧ Below w.heap.size w wr) (fun i _ => vs.length - (intOf i).toNat)
    case atStart => exact ⟨0, Nat.zero_le _, rfl, fun j hj hj' h => absurd h (Nat.not_lt_zero _), Below.refl _ _⟩
    case round =>
      obtain ⟨k, hk, rfl, hall, hb⟩ := hrel
      by_cases hlt : k < vs.length
      · have hlf : k < fs.length := by rw [HL.out]; exact hlt
        have hltF : (k : Int) < (fs.length : Int) := by omega
        have hltV : (k : Int) < (vs.length : Int) := by omega
        have hi0 : (0 : Int) ≤ (k : Int) := by omega
        obtain ⟨fad, A', n', c', y, rfl, hbl, hq⟩ := F4.out k hlf
        obtain ⟨vad, rfl, hbl2, hq2⟩ := V4.out k hlt
        have hqf := fun W (h : Below w.heap.size w W) => (hq.below h (by rw [block_add]; exact hbl)).2.1
        have hqv := fun W (h : Below w.heap.size w W) => hq2.below h (by rw [block_add]; exact hbl2)
        have hall2 : fitB fs[k] vs[k] = true → ∀ (j : Nat) (hj : j < fs.length) (hj' : j < vs.length), j < k + 1 → fitB fs[j] vs[j] = true := fun h j hj hj' hjk => by
          by_cases e : j < k
          · exact hall j hj hj' e
          · obtain rfl : j = k := by omega
            exact h
        have hno : fitB fs[k] vs[k] = false → fitX fs vs = false := HNOF.out k hlf hlt
        unfold fitB at hall2 hno
        have hg := rGood_val vs[k]
        clear hall hq hq2
        generalize fs[k].kind = fk at *
        generalize vs[k] = vv at *
        have HQF := Lib.hid hqf
        have HQV := Lib.hid hqv
        generalize goodV vv = gv at hg hall2 hno
        have HG := Lib.hid hg
        clear hg hqf hqv
        have HK := Lib.hid (fun (W W' : World) (h : Below w.heap.size w W ∧ W.cell? ⟨(fad.add (k * 8)).block, (fad.add (k * 8)).off + 1, none⟩ = some (.int .i64 fk) ∧ W.cell? (vad.add (k * 5)) = some (.int .i64 vv.k) ∧ W.cell? ⟨(vad.add (k * 5)).block, (vad.add (k * 5)).off + 1, none⟩ = some (.int .i64 vv.i) ∧ W.cell? ⟨(vad.add (k * 5)).block, (vad.add (k * 5)).off + 2, none⟩ = some (.bool vv.b) ∧ W.cell? ⟨(vad.add (k * 5)).block, (vad.add (k * 5)).off + 3, none⟩ = some (.string vv.s) ∧ W.cell? ⟨(vad.add (k * 5)).block, (vad.add (k * 5)).off + 4, none⟩ = some (.float .f64 vv.n)) (hb : Below W.heap.size W W') => (show Below w.heap.size w W' ∧ W'.cell? ⟨(fad.add (k * 8)).block, (fad.add (k * 8)).off + 1, none⟩ = some (.int .i64 fk) ∧ W'.cell? (vad.add (k * 5)) = some (.int .i64 vv.k) ∧ W'.cell? ⟨(vad.add (k * 5)).block, (vad.add (k * 5)).off + 1, none⟩ = some (.int .i64 vv.i) ∧ W'.cell? ⟨(vad.add (k * 5)).block, (vad.add (k * 5)).off + 2, none⟩ = some (.bool vv.b) ∧ W'.cell? ⟨(vad.add (k * 5)).block, (vad.add (k * 5)).off + 3, none⟩ = some (.string vv.s) ∧ W'.cell? ⟨(vad.add (k * 5)).block, (vad.add (k * 5)).off + 4, none⟩ = some (.float .f64 vv.n) from ⟨h.1.trans (hb.mono h.1.size), HQF.out _ (h.1.trans (hb.mono h.1.size)), HQV.out _ (h.1.trans (hb.mono h.1.size))⟩))
        have hS1 : (fun W => Below w.heap.size w W ∧ W.cell? ⟨(fad.add (k * 8)).block, (fad.add (k * 8)).off + 1, none⟩ = some (.int .i64 fk) ∧ W.cell? (vad.add (k * 5)) = some (.int .i64 vv.k) ∧ W.cell? ⟨(vad.add (k * 5)).block, (vad.add (k * 5)).off + 1, none⟩ = some (.int .i64 vv.i) ∧ W.cell? ⟨(vad.add (k * 5)).block, (vad.add (k * 5)).off + 2, none⟩ = some (.bool vv.b) ∧ W.cell? ⟨(vad.add (k * 5)).block, (vad.add (k * 5)).off + 3, none⟩ = some (.string vv.s) ∧ W.cell? ⟨(vad.add (k * 5)).block, (vad.add (k * 5)).off + 4, none⟩ = some (.float .f64 vv.n)) wr.drew := ⟨hb.drew, HQF.out _ hb.drew, HQV.out _ hb.drew⟩
        rcases gv with _ | _
        · have HNO := Lib.hid (hno (by rfl))
          clear hall2 hno
          go_wp2_with fail
          refine wp_region_held_drew (S := (fun W => Below w.heap.size w W ∧ W.cell? ⟨(fad.add (k * 8)).block, (fad.add (k * 8)).off + 1, none⟩ = some (.int .i64 fk) ∧ W.cell? (vad.add (k * 5)) = some (.int .i64 vv.k) ∧ W.cell? ⟨(vad.add (k * 5)).block, (vad.add (k * 5)).off + 1, none⟩ = some (.int .i64 vv.i) ∧ W.cell? ⟨(vad.add (k * 5)).block, (vad.add (k * 5)).off + 2, none⟩ = some (.bool vv.b) ∧ W.cell? ⟨(vad.add (k * 5)).block, (vad.add (k * 5)).off + 3, none⟩ = some (.string vv.s) ∧ W.cell? ⟨(vad.add (k * 5)).block, (vad.add (k * 5)).off + 4, none⟩ = some (.float .f64 vv.n))) (by kernel_rfl) (hS1) (fun hHeld => ?_)
          refine wpAnyH_take (i := 0) (oi := ?oi40) (v := ?v40) ?hi40 (by kernel_rfl) (by kernel_rfl) (by kernel_rfl) ?hQ40 (Or.inl ⟨?hw40, ?hy40⟩) (by assumption) ?rest40
          case hi40 => (simp only [List.getElem?_toArray, List.getElem?_cons_succ, List.getElem?_cons_zero]; rfl)
          case hQ40 => exact fun _ _ _ h => h
          case hw40 => rfl
          case hy40 => (intro w hSw; (try dsimp only at hSw); go_simp; try with_reducible rfl)
          (try simp only [Act.put, List.setIfInBounds_toArray, List.set_cons_zero, List.set_cons_succ])
          refine wpAnyH_take (i := 1) (oi := ?oi41) (v := ?v41) ?hi41 (by kernel_rfl) (by kernel_rfl) (by kernel_rfl) ?hQ41 (Or.inl ⟨?hw41, ?hy41⟩) (by assumption) ?rest41
          case hi41 => (simp only [List.getElem?_toArray, List.getElem?_cons_succ, List.getElem?_cons_zero]; rfl)
          case hQ41 => exact fun _ _ _ h => h
          case hw41 => rfl
          case hy41 => (intro w hSw; (try dsimp only at hSw); go_simp; try with_reducible rfl)
          (try simp only [Act.put, List.setIfInBounds_toArray, List.set_cons_zero, List.set_cons_succ])
          refine wpAnyH_take (i := 2) (oi := ?oi42) (v := ?v42) ?hi42 (by kernel_rfl) (by kernel_rfl) (by kernel_rfl) ?hQ42 (Or.inl ⟨?hw42, ?hy42⟩) (by assumption) ?rest42
          case hi42 => (simp only [List.getElem?_toArray, List.getElem?_cons_succ, List.getElem?_cons_zero]; rfl)
          case hQ42 => exact fun _ _ _ h => h
          case hw42 => rfl
          case hy42 => (intro w hSw; (try dsimp only at hSw); go_simp; try with_reducible rfl)
          (try simp only [Act.put, List.setIfInBounds_toArray, List.set_cons_zero, List.set_cons_succ])
          refine wpAnyH_take (i := 3) (oi := ?oi43) (v := ?v43) ?hi43 (by kernel_rfl) (by kernel_rfl) (by kernel_rfl) ?hQ43 (Or.inl ⟨?hw43, ?hy43⟩) (by assumption) ?rest43
          case hi43 => (simp only [List.getElem?_toArray, List.getElem?_cons_succ, List.getElem?_cons_zero]; rfl)
          case hQ43 => exact fun _ _ _ h => h
          case hw43 => rfl
          case hy43 => (intro w hSw; (try dsimp only at hSw); go_simp; try with_reducible rfl)
          (try simp only [Act.put, List.setIfInBounds_toArray, List.set_cons_zero, List.set_cons_succ])
          refine wpAnyH_ready (rs := [4]) (by kernel_rfl) (by simp) ?_
          refine AllReadyH.cons (o := ?o44) ?ho44 (fun K hK => ?st44) AllReadyH.nil
          case ho44 => (simp only [List.getElem?_toArray, List.getElem?_cons_succ, List.getElem?_cons_zero]; rfl)
          go_simp
          refine (HG.out _).mono ?_; rintro e w2 ⟨rfl, hb2⟩
          refine hK.out _ _ ?_ (fun hHeld => ?_)
          · (try dsimp only); exact HK.out _ _ hHeld hb2
          clear hK K
          (try simp only [Act.put, List.setIfInBounds_toArray, List.set_cons_zero, List.set_cons_succ])
          refine wpAnyH_take (i := 5) (oi := ?oi45) (v := ?v45) ?hi45 (by kernel_rfl) (by kernel_rfl) (by kernel_rfl) ?hQ45 (Or.inl ⟨?hw45, ?hy45⟩) (by assumption) ?rest45
          case hi45 => (simp only [List.getElem?_toArray, List.getElem?_cons_succ, List.getElem?_cons_zero]; rfl)
          case hQ45 => exact fun _ _ _ h => h
          case hw45 => rfl
          case hy45 => (intro w hSw; (try dsimp only at hSw); go_simp; try with_reducible rfl)
          (try simp only [Act.put, List.setIfInBounds_toArray, List.set_cons_zero, List.set_cons_succ])
          refine wpAnyH_take (i := 6) (oi := ?oi46) (v := ?v46) ?hi46 (by kernel_rfl) (by kernel_rfl) (by kernel_rfl) ?hQ46 (Or.inl ⟨?hw46, ?hy46⟩) (by assumption) ?rest46
          case hi46 => (simp only [List.getElem?_toArray, List.getElem?_cons_succ, List.getElem?_cons_zero]; rfl)
          case hQ46 => exact fun _ _ _ h => h
          case hw46 => rfl
          case hy46 => (intro w hSw; (try dsimp only at hSw); go_simp; try with_reducible rfl)
          (try simp only [Act.put, List.setIfInBounds_toArray, List.set_cons_zero, List.set_cons_succ])
          refine wpAnyH_take (i := 7) (oi := ?oi47) (v := undef) ?hi47 (by kernel_rfl) (by kernel_rfl) (by kernel_rfl) ?hQ47 (Or.inr ⟨?hw47, rfl⟩) (by assumption) ?rest47
          case hi47 => (simp only [List.getElem?_toArray, List.getElem?_cons_succ, List.getElem?_cons_zero]; rfl)
          case hQ47 => exact fun _ _ _ h => h
          case hw47 => rfl
          (try simp only [Act.put, List.setIfInBounds_toArray, List.set_cons_zero, List.set_cons_succ])
          refine wpAnyH_take (i := 8) (oi := ?oi48) (v := undef) ?hi48 (by kernel_rfl) (by kernel_rfl) (by kernel_rfl) ?hQ48 (Or.inr ⟨?hw48, rfl⟩) (by assumption) ?rest48
          case hi48 => (simp only [List.getElem?_toArray, List.getElem?_cons_succ, List.getElem?_cons_zero]; rfl)
          case hQ48 => exact fun _ _ _ h => h
          case hw48 => rfl
          (try simp only [Act.put, List.setIfInBounds_toArray, List.set_cons_zero, List.set_cons_succ])
          refine wpAnyH_take (i := 9) (oi := ?oi49) (v := undef) ?hi49 (by kernel_rfl) (by kernel_rfl) (by kernel_rfl) ?hQ49 (Or.inr ⟨?hw49, rfl⟩) (by assumption) ?rest49
          case hi49 => (simp only [List.getElem?_toArray, List.getElem?_cons_succ, List.getElem?_cons_zero]; rfl)
          case hQ49 => exact fun _ _ _ h => h
          case hw49 => rfl
          (try simp only [Act.put, List.setIfInBounds_toArray, List.set_cons_zero, List.set_cons_succ])
          refine wpAnyH_take (i := 10) (oi := ?oi50) (v := undef) ?hi50 (by kernel_rfl) (by kernel_rfl) (by kernel_rfl) ?hQ50 (Or.inr ⟨?hw50, rfl⟩) (by assumption) ?rest50
          case hi50 => (simp only [List.getElem?_toArray, List.getElem?_cons_succ, List.getElem?_cons_zero]; rfl)
          case hQ50 => exact fun _ _ _ h => h
          case hw50 => rfl
          (try simp only [Act.put, List.setIfInBounds_toArray, List.set_cons_zero, List.set_cons_succ])
          refine wpAnyH_take (i := 11) (oi := ?oi51) (v := undef) ?hi51 (by kernel_rfl) (by kernel_rfl) (by kernel_rfl) ?hQ51 (Or.inr ⟨?hw51, rfl⟩) (by assumption) ?rest51
          case hi51 => (simp only [List.getElem?_toArray, List.getElem?_cons_succ, List.getElem?_cons_zero]; rfl)
          case hQ51 => exact fun _ _ _ h => h
          case hw51 => rfl
          (try simp only [Act.put, List.setIfInBounds_toArray, List.set_cons_zero, List.set_cons_succ])
          refine wpAnyH_take (i := 12) (oi := ?oi52) (v := undef) ?hi52 (by kernel_rfl) (by kernel_rfl) (by kernel_rfl) ?hQ52 (Or.inr ⟨?hw52, rfl⟩) (by assumption) ?rest52
          case hi52 => (simp only [List.getElem?_toArray, List.getElem?_cons_succ, List.getElem?_cons_zero]; rfl)
          case hQ52 => exact fun _ _ _ h => h
          case hw52 => rfl
          (try simp only [Act.put, List.setIfInBounds_toArray, List.set_cons_zero, List.set_cons_succ])
          refine wpAnyH_take (i := 13) (oi := ?oi53) (v := undef) ?hi53 (by kernel_rfl) (by kernel_rfl) (by kernel_rfl) ?hQ53 (Or.inr ⟨?hw53, rfl⟩) (by assumption) ?rest53
          case hi53 => (simp only [List.getElem?_toArray, List.getElem?_cons_succ, List.getElem?_cons_zero]; rfl)
          case hQ53 => exact fun _ _ _ h => h
          case hw53 => rfl
          (try simp only [Act.put, List.setIfInBounds_toArray, List.set_cons_zero, List.set_cons_succ])
          refine wpAnyH_take (i := 14) (oi := ?oi54) (v := undef) ?hi54 (by kernel_rfl) (by kernel_rfl) (by kernel_rfl) ?hQ54 (Or.inr ⟨?hw54, rfl⟩) (by assumption) ?rest54
          case hi54 => (simp only [List.getElem?_toArray, List.getElem?_cons_succ, List.getElem?_cons_zero]; rfl)
          case hQ54 => exact fun _ _ _ h => h
          case hw54 => rfl
          (try simp only [Act.put, List.setIfInBounds_toArray, List.set_cons_zero, List.set_cons_succ])
          refine wpAnyH_take (i := 15) (oi := ?oi55) (v := undef) ?hi55 (by kernel_rfl) (by kernel_rfl) (by kernel_rfl) ?hQ55 (Or.inr ⟨?hw55, rfl⟩) (by assumption) ?rest55
          case hi55 => (simp only [List.getElem?_toArray, List.getElem?_cons_succ, List.getElem?_cons_zero]; rfl)
          case hQ55 => exact fun _ _ _ h => h
          case hw55 => rfl
          (try simp only [Act.put, List.setIfInBounds_toArray, List.set_cons_zero, List.set_cons_succ])
          refine wpAnyH_take (i := 16) (oi := ?oi56) (v := undef) ?hi56 (by kernel_rfl) (by kernel_rfl) (by kernel_rfl) ?hQ56 (Or.inr ⟨?hw56, rfl⟩) (by assumption) ?rest56
          case hi56 => (simp only [List.getElem?_toArray, List.getElem?_cons_succ, List.getElem?_cons_zero]; rfl)
          case hQ56 => exact fun _ _ _ h => h
          case hw56 => rfl
          (try simp only [Act.put, List.setIfInBounds_toArray, List.set_cons_zero, List.set_cons_succ])
          refine wpAnyH_take (i := 17) (oi := ?oi57) (v := undef) ?hi57 (by kernel_rfl) (by kernel_rfl) (by kernel_rfl) ?hQ57 (Or.inr ⟨?hw57, rfl⟩) (by assumption) ?rest57
          case hi57 => (simp only [List.getElem?_toArray, List.getElem?_cons_succ, List.getElem?_cons_zero]; rfl)
          case hQ57 => exact fun _ _ _ h => h
          case hw57 => rfl
          (try simp only [Act.put, List.setIfInBounds_toArray, List.set_cons_zero, List.set_cons_succ])
          refine wpAnyH_take (i := 18) (oi := ?oi58) (v := ?v58) ?hi58 (by kernel_rfl) (by kernel_rfl) (by kernel_rfl) ?hQ58 (Or.inl ⟨?hw58, ?hy58⟩) (by assumption) ?rest58
          case hi58 => (simp only [List.getElem?_toArray, List.getElem?_cons_succ, List.getElem?_cons_zero]; rfl)
          case hQ58 => exact fun _ _ _ h => h
          case hw58 => rfl
          case hy58 => (intro w hSw; (try dsimp only at hSw); go_simp; try with_reducible rfl)
          (try simp only [Act.put, List.setIfInBounds_toArray, List.set_cons_zero, List.set_cons_succ])
          refine wpAnyH_done (by kernel_rfl) ?_ _
          go_wp2_with fail
          go_ret
          exact ⟨ret_bool HNO.out.symm, hHeld.1⟩
        · rcases hk : (vv.k == fk) with _ | _
          · have hkk : (vv.k != fk) = true := by rw [bne, hk]; rfl
            have HNO := Lib.hid (hno (by rw [hk]; rfl))
            clear hall2 hno
            go_wp2_with fail
            refine wp_region_held_drew (S := (fun W => Below w.heap.size w W ∧ W.cell? ⟨(fad.add (k * 8)).block, (fad.add (k * 8)).off + 1, none⟩ = some (.int .i64 fk) ∧ W.cell? (vad.add (k * 5)) = some (.int .i64 vv.k) ∧ W.cell? ⟨(vad.add (k * 5)).block, (vad.add (k * 5)).off + 1, none⟩ = some (.int .i64 vv.i) ∧ W.cell? ⟨(vad.add (k * 5)).block, (vad.add (k * 5)).off + 2, none⟩ = some (.bool vv.b) ∧ W.cell? ⟨(vad.add (k * 5)).block, (vad.add (k * 5)).off + 3, none⟩ = some (.string vv.s) ∧ W.cell? ⟨(vad.add (k * 5)).block, (vad.add (k * 5)).off + 4, none⟩ = some (.float .f64 vv.n))) (by kernel_rfl) (hS1) (fun hHeld => ?_)
            refine wpAnyH_take (i := 0) (oi := ?oi59) (v := ?v59) ?hi59 (by kernel_rfl) (by kernel_rfl) (by kernel_rfl) ?hQ59 (Or.inl ⟨?hw59, ?hy59⟩) (by assumption) ?rest59
            case hi59 => (simp only [List.getElem?_toArray, List.getElem?_cons_succ, List.getElem?_cons_zero]; rfl)
            case hQ59 => exact fun _ _ _ h => h
            case hw59 => rfl
            case hy59 => (intro w hSw; (try dsimp only at hSw); go_simp; try with_reducible rfl)
            (try simp only [Act.put, List.setIfInBounds_toArray, List.set_cons_zero, List.set_cons_succ])
            refine wpAnyH_take (i := 1) (oi := ?oi60) (v := ?v60) ?hi60 (by kernel_rfl) (by kernel_rfl) (by kernel_rfl) ?hQ60 (Or.inl ⟨?hw60, ?hy60⟩) (by assumption) ?rest60
            case hi60 => (simp only [List.getElem?_toArray, List.getElem?_cons_succ, List.getElem?_cons_zero]; rfl)
            case hQ60 => exact fun _ _ _ h => h
            case hw60 => rfl
            case hy60 => (intro w hSw; (try dsimp only at hSw); go_simp; try with_reducible rfl)
            (try simp only [Act.put, List.setIfInBounds_toArray, List.set_cons_zero, List.set_cons_succ])
            refine wpAnyH_take (i := 2) (oi := ?oi61) (v := ?v61) ?hi61 (by kernel_rfl) (by kernel_rfl) (by kernel_rfl) ?hQ61 (Or.inl ⟨?hw61, ?hy61⟩) (by assumption) ?rest61
            case hi61 => (simp only [List.getElem?_toArray, List.getElem?_cons_succ, List.getElem?_cons_zero]; rfl)
            case hQ61 => exact fun _ _ _ h => h
            case hw61 => rfl
            case hy61 => (intro w hSw; (try dsimp only at hSw); go_simp; try with_reducible rfl)
            (try simp only [Act.put, List.setIfInBounds_toArray, List.set_cons_zero, List.set_cons_succ])
            refine wpAnyH_take (i := 3) (oi := ?oi62) (v := ?v62) ?hi62 (by kernel_rfl) (by kernel_rfl) (by kernel_rfl) ?hQ62 (Or.inl ⟨?hw62, ?hy62⟩) (by assumption) ?rest62
            case hi62 => (simp only [List.getElem?_toArray, List.getElem?_cons_succ, List.getElem?_cons_zero]; rfl)
            case hQ62 => exact fun _ _ _ h => h
            case hw62 => rfl
            case hy62 => (intro w hSw; (try dsimp only at hSw); go_simp; try with_reducible rfl)
            (try simp only [Act.put, List.setIfInBounds_toArray, List.set_cons_zero, List.set_cons_succ])
            refine wpAnyH_ready (rs := [4]) (by kernel_rfl) (by simp) ?_
            refine AllReadyH.cons (o := ?o63) ?ho63 (fun K hK => ?st63) AllReadyH.nil
            case ho63 => (simp only [List.getElem?_toArray, List.getElem?_cons_succ, List.getElem?_cons_zero]; rfl)
            go_simp
            refine (HG.out _).mono ?_; rintro e w2 ⟨rfl, hb2⟩
            refine hK.out _ _ ?_ (fun hHeld => ?_)
            · (try dsimp only); exact HK.out _ _ hHeld hb2
            clear hK K
            (try simp only [Act.put, List.setIfInBounds_toArray, List.set_cons_zero, List.set_cons_succ])
            refine wpAnyH_take (i := 5) (oi := ?oi64) (v := ?v64) ?hi64 (by kernel_rfl) (by kernel_rfl) (by kernel_rfl) ?hQ64 (Or.inl ⟨?hw64, ?hy64⟩) (by assumption) ?rest64
            case hi64 => (simp only [List.getElem?_toArray, List.getElem?_cons_succ, List.getElem?_cons_zero]; rfl)
            case hQ64 => exact fun _ _ _ h => h
            case hw64 => rfl
            case hy64 => (intro w hSw; (try dsimp only at hSw); go_simp; try with_reducible rfl)
            (try simp only [Act.put, List.setIfInBounds_toArray, List.set_cons_zero, List.set_cons_succ])
            refine wpAnyH_take (i := 6) (oi := ?oi65) (v := ?v65) ?hi65 (by kernel_rfl) (by kernel_rfl) (by kernel_rfl) ?hQ65 (Or.inl ⟨?hw65, ?hy65⟩) (by assumption) ?rest65
            case hi65 => (simp only [List.getElem?_toArray, List.getElem?_cons_succ, List.getElem?_cons_zero]; rfl)
            case hQ65 => exact fun _ _ _ h => h
            case hw65 => rfl
            case hy65 => (intro w hSw; (try dsimp only at hSw); go_simp; try with_reducible rfl)
            (try simp only [Act.put, List.setIfInBounds_toArray, List.set_cons_zero, List.set_cons_succ])
            refine wpAnyH_take (i := 7) (oi := ?oi66) (v := ?v66) ?hi66 (by kernel_rfl) (by kernel_rfl) (by kernel_rfl) ?hQ66 (Or.inl ⟨?hw66, ?hy66⟩) (by assumption) ?rest66
            case hi66 => (simp only [List.getElem?_toArray, List.getElem?_cons_succ, List.getElem?_cons_zero]; rfl)
            case hQ66 => exact fun _ _ _ h => h
            case hw66 => rfl
            case hy66 => (intro w hSw; (try dsimp only at hSw); go_simp; try with_reducible rfl)
            (try simp only [Act.put, List.setIfInBounds_toArray, List.set_cons_zero, List.set_cons_succ])
            refine wpAnyH_take (i := 8) (oi := ?oi67) (v := ?v67) ?hi67 (by kernel_rfl) (by kernel_rfl) (by kernel_rfl) ?hQ67 (Or.inl ⟨?hw67, ?hy67⟩) (by assumption) ?rest67
            case hi67 => (simp only [List.getElem?_toArray, List.getElem?_cons_succ, List.getElem?_cons_zero]; rfl)
            case hQ67 => exact fun _ _ _ h => h
            case hw67 => rfl
            case hy67 => (intro w hSw; (try dsimp only at hSw); go_simp; try with_reducible rfl)
            (try simp only [Act.put, List.setIfInBounds_toArray, List.set_cons_zero, List.set_cons_succ])
            refine wpAnyH_take (i := 9) (oi := ?oi68) (v := ?v68) ?hi68 (by kernel_rfl) (by kernel_rfl) (by kernel_rfl) ?hQ68 (Or.inl ⟨?hw68, ?hy68⟩) (by assumption) ?rest68
            case hi68 => (simp only [List.getElem?_toArray, List.getElem?_cons_succ, List.getElem?_cons_zero]; rfl)
            case hQ68 => exact fun _ _ _ h => h
            case hw68 => rfl
            case hy68 => (intro w hSw; (try dsimp only at hSw); go_simp; try with_reducible rfl)
            (try simp only [Act.put, List.setIfInBounds_toArray, List.set_cons_zero, List.set_cons_succ])
            refine wpAnyH_take (i := 10) (oi := ?oi69) (v := ?v69) ?hi69 (by kernel_rfl) (by kernel_rfl) (by kernel_rfl) ?hQ69 (Or.inl ⟨?hw69, ?hy69⟩) (by assumption) ?rest69
            case hi69 => (simp only [List.getElem?_toArray, List.getElem?_cons_succ, List.getElem?_cons_zero]; rfl)
            case hQ69 => exact fun _ _ _ h => h
            case hw69 => rfl
            case hy69 => (intro w hSw; (try dsimp only at hSw); go_simp; try with_reducible rfl)
            (try simp only [Act.put, List.setIfInBounds_toArray, List.set_cons_zero, List.set_cons_succ])
            refine wpAnyH_take (i := 11) (oi := ?oi70) (v := ?v70) ?hi70 (by kernel_rfl) (by kernel_rfl) (by kernel_rfl) ?hQ70 (Or.inl ⟨?hw70, ?hy70⟩) (by assumption) ?rest70
            case hi70 => (simp only [List.getElem?_toArray, List.getElem?_cons_succ, List.getElem?_cons_zero]; rfl)
            case hQ70 => exact fun _ _ _ h => h
            case hw70 => rfl
            case hy70 => (intro w hSw; (try dsimp only at hSw); go_simp; try with_reducible rfl)
            (try simp only [Act.put, List.setIfInBounds_toArray, List.set_cons_zero, List.set_cons_succ])
            refine wpAnyH_take (i := 12) (oi := ?oi71) (v := ?v71) ?hi71 (by kernel_rfl) (by kernel_rfl) (by kernel_rfl) ?hQ71 (Or.inl ⟨?hw71, ?hy71⟩) (by assumption) ?rest71
            case hi71 => (simp only [List.getElem?_toArray, List.getElem?_cons_succ, List.getElem?_cons_zero]; rfl)
            case hQ71 => exact fun _ _ _ h => h
            case hw71 => rfl
            case hy71 => (intro w hSw; (try dsimp only at hSw); go_simp; try with_reducible rfl)
            (try simp only [Act.put, List.setIfInBounds_toArray, List.set_cons_zero, List.set_cons_succ])
            refine wpAnyH_take (i := 13) (oi := ?oi72) (v := ?v72) ?hi72 (by kernel_rfl) (by kernel_rfl) (by kernel_rfl) ?hQ72 (Or.inl ⟨?hw72, ?hy72⟩) (by assumption) ?rest72
            case hi72 => (simp only [List.getElem?_toArray, List.getElem?_cons_succ, List.getElem?_cons_zero]; rfl)
            case hQ72 => exact fun _ _ _ h => h
            case hw72 => rfl
            case hy72 => (intro w hSw; (try dsimp only at hSw); go_simp; try with_reducible rfl)
            (try simp only [Act.put, List.setIfInBounds_toArray, List.set_cons_zero, List.set_cons_succ])
            refine wpAnyH_take (i := 14) (oi := ?oi73) (v := ?v73) ?hi73 (by kernel_rfl) (by kernel_rfl) (by kernel_rfl) ?hQ73 (Or.inl ⟨?hw73, ?hy73⟩) (by assumption) ?rest73
            case hi73 => (simp only [List.getElem?_toArray, List.getElem?_cons_succ, List.getElem?_cons_zero]; rfl)
            case hQ73 => exact fun _ _ _ h => h
            case hw73 => rfl
            case hy73 => (intro w hSw; (try dsimp only at hSw); go_simp; try with_reducible rfl)
            (try simp only [Act.put, List.setIfInBounds_toArray, List.set_cons_zero, List.set_cons_succ])
            refine wpAnyH_take (i := 15) (oi := ?oi74) (v := ?v74) ?hi74 (by kernel_rfl) (by kernel_rfl) (by kernel_rfl) ?hQ74 (Or.inl ⟨?hw74, ?hy74⟩) (by assumption) ?rest74
            case hi74 => (simp only [List.getElem?_toArray, List.getElem?_cons_succ, List.getElem?_cons_zero]; rfl)
            case hQ74 => exact fun _ _ _ h => h
            case hw74 => rfl
            case hy74 => (intro w hSw; (try dsimp only at hSw); go_simp; try with_reducible rfl)
            (try simp only [Act.put, List.setIfInBounds_toArray, List.set_cons_zero, List.set_cons_succ])
            refine wpAnyH_take (i := 16) (oi := ?oi75) (v := ?v75) ?hi75 (by kernel_rfl) (by kernel_rfl) (by kernel_rfl) ?hQ75 (Or.inl ⟨?hw75, ?hy75⟩) (by assumption) ?rest75
            case hi75 => (simp only [List.getElem?_toArray, List.getElem?_cons_succ, List.getElem?_cons_zero]; rfl)
            case hQ75 => exact fun _ _ _ h => h
            case hw75 => rfl
            case hy75 => (intro w hSw; (try dsimp only at hSw); go_simp; try with_reducible rfl)
            (try simp only [Act.put, List.setIfInBounds_toArray, List.set_cons_zero, List.set_cons_succ])
            refine wpAnyH_take (i := 17) (oi := ?oi76) (v := ?v76) ?hi76 (by kernel_rfl) (by kernel_rfl) (by kernel_rfl) ?hQ76 (Or.inl ⟨?hw76, ?hy76⟩) (by assumption) ?rest76
            case hi76 => (simp only [List.getElem?_toArray, List.getElem?_cons_succ, List.getElem?_cons_zero]; rfl)
            case hQ76 => exact fun _ _ _ h => h
            case hw76 => rfl
            case hy76 => (intro w hSw; (try dsimp only at hSw); go_simp; try with_reducible rfl)
            (try simp only [Act.put, List.setIfInBounds_toArray, List.set_cons_zero, List.set_cons_succ])
            refine wpAnyH_take (i := 18) (oi := ?oi77) (v := ?v77) ?hi77 (by kernel_rfl) (by kernel_rfl) (by kernel_rfl) ?hQ77 (Or.inl ⟨?hw77, ?hy77⟩) (by assumption) ?rest77
            case hi77 => (simp only [List.getElem?_toArray, List.getElem?_cons_succ, List.getElem?_cons_zero]; rfl)
            case hQ77 => exact fun _ _ _ h => h
            case hw77 => rfl
            case hy77 => (intro w hSw; (try dsimp only at hSw); go_simp; try with_reducible rfl)
            (try simp only [Act.put, List.setIfInBounds_toArray, List.set_cons_zero, List.set_cons_succ])
            refine wpAnyH_done (by kernel_rfl) ?_ _
            go_wp2_with fail
            go_ret
            exact ⟨ret_bool HNO.out.symm, hHeld.1⟩
          · have hkk : (vv.k != fk) = false := by rw [bne, hk]; rfl
            have HALL := Lib.hid (hall2 (by rw [hk]; rfl))
            clear hall2 hno
            go_wp2_with fail
            refine wp_region_held_drew (S := (fun W => Below w.heap.size w W ∧ W.cell? ⟨(fad.add (k * 8)).block, (fad.add (k * 8)).off + 1, none⟩ = some (.int .i64 fk) ∧ W.cell? (vad.add (k * 5)) = some (.int .i64 vv.k) ∧ W.cell? ⟨(vad.add (k * 5)).block, (vad.add (k * 5)).off + 1, none⟩ = some (.int .i64 vv.i) ∧ W.cell? ⟨(vad.add (k * 5)).block, (vad.add (k * 5)).off + 2, none⟩ = some (.bool vv.b) ∧ W.cell? ⟨(vad.add (k * 5)).block, (vad.add (k * 5)).off + 3, none⟩ = some (.string vv.s) ∧ W.cell? ⟨(vad.add (k * 5)).block, (vad.add (k * 5)).off + 4, none⟩ = some (.float .f64 vv.n))) (by kernel_rfl) (hS1) (fun hHeld => ?_)
            refine wpAnyH_take (i := 0) (oi := ?oi78) (v := ?v78) ?hi78 (by kernel_rfl) (by kernel_rfl) (by kernel_rfl) ?hQ78 (Or.inl ⟨?hw78, ?hy78⟩) (by assumption) ?rest78
            case hi78 => (simp only [List.getElem?_toArray, List.getElem?_cons_succ, List.getElem?_cons_zero]; rfl)
            case hQ78 => exact fun _ _ _ h => h
            case hw78 => rfl
            case hy78 => (intro w hSw; (try dsimp only at hSw); go_simp; try with_reducible rfl)
            (try simp only [Act.put, List.setIfInBounds_toArray, List.set_cons_zero, List.set_cons_succ])
            refine wpAnyH_take (i := 1) (oi := ?oi79) (v := ?v79) ?hi79 (by kernel_rfl) (by kernel_rfl) (by kernel_rfl) ?hQ79 (Or.inl ⟨?hw79, ?hy79⟩) (by assumption) ?rest79
            case hi79 => (simp only [List.getElem?_toArray, List.getElem?_cons_succ, List.getElem?_cons_zero]; rfl)
            case hQ79 => exact fun _ _ _ h => h
            case hw79 => rfl
            case hy79 => (intro w hSw; (try dsimp only at hSw); go_simp; try with_reducible rfl)
            (try simp only [Act.put, List.setIfInBounds_toArray, List.set_cons_zero, List.set_cons_succ])
            refine wpAnyH_take (i := 2) (oi := ?oi80) (v := ?v80) ?hi80 (by kernel_rfl) (by kernel_rfl) (by kernel_rfl) ?hQ80 (Or.inl ⟨?hw80, ?hy80⟩) (by assumption) ?rest80
            case hi80 => (simp only [List.getElem?_toArray, List.getElem?_cons_succ, List.getElem?_cons_zero]; rfl)
            case hQ80 => exact fun _ _ _ h => h
            case hw80 => rfl
            case hy80 => (intro w hSw; (try dsimp only at hSw); go_simp; try with_reducible rfl)
            (try simp only [Act.put, List.setIfInBounds_toArray, List.set_cons_zero, List.set_cons_succ])
            refine wpAnyH_take (i := 3) (oi := ?oi81) (v := ?v81) ?hi81 (by kernel_rfl) (by kernel_rfl) (by kernel_rfl) ?hQ81 (Or.inl ⟨?hw81, ?hy81⟩) (by assumption) ?rest81
            case hi81 => (simp only [List.getElem?_toArray, List.getElem?_cons_succ, List.getElem?_cons_zero]; rfl)
            case hQ81 => exact fun _ _ _ h => h
            case hw81 => rfl
            case hy81 => (intro w hSw; (try dsimp only at hSw); go_simp; try with_reducible rfl)
            (try simp only [Act.put, List.setIfInBounds_toArray, List.set_cons_zero, List.set_cons_succ])
            refine wpAnyH_ready (rs := [4]) (by kernel_rfl) (by simp) ?_
            refine AllReadyH.cons (o := ?o82) ?ho82 (fun K hK => ?st82) AllReadyH.nil
            case ho82 => (simp only [List.getElem?_toArray, List.getElem?_cons_succ, List.getElem?_cons_zero]; rfl)
            go_simp
            refine (HG.out _).mono ?_; rintro e w2 ⟨rfl, hb2⟩
            refine hK.out _ _ ?_ (fun hHeld => ?_)
            · (try dsimp only); exact HK.out _ _ hHeld hb2
            clear hK K
            (try simp only [Act.put, List.setIfInBounds_toArray, List.set_cons_zero, List.set_cons_succ])
            refine wpAnyH_take (i := 5) (oi := ?oi83) (v := ?v83) ?hi83 (by kernel_rfl) (by kernel_rfl) (by kernel_rfl) ?hQ83 (Or.inl ⟨?hw83, ?hy83⟩) (by assumption) ?rest83
            case hi83 => (simp only [List.getElem?_toArray, List.getElem?_cons_succ, List.getElem?_cons_zero]; rfl)
            case hQ83 => exact fun _ _ _ h => h
            case hw83 => rfl
            case hy83 => (intro w hSw; (try dsimp only at hSw); go_simp; try with_reducible rfl)
            (try simp only [Act.put, List.setIfInBounds_toArray, List.set_cons_zero, List.set_cons_succ])
            refine wpAnyH_take (i := 6) (oi := ?oi84) (v := ?v84) ?hi84 (by kernel_rfl) (by kernel_rfl) (by kernel_rfl) ?hQ84 (Or.inl ⟨?hw84, ?hy84⟩) (by assumption) ?rest84
            case hi84 => (simp only [List.getElem?_toArray, List.getElem?_cons_succ, List.getElem?_cons_zero]; rfl)
            case hQ84 => exact fun _ _ _ h => h
            case hw84 => rfl
            case hy84 => (intro w hSw; (try dsimp only at hSw); go_simp; try with_reducible rfl)
            (try simp only [Act.put, List.setIfInBounds_toArray, List.set_cons_zero, List.set_cons_succ])
            refine wpAnyH_take (i := 7) (oi := ?oi85) (v := ?v85) ?hi85 (by kernel_rfl) (by kernel_rfl) (by kernel_rfl) ?hQ85 (Or.inl ⟨?hw85, ?hy85⟩) (by assumption) ?rest85
            case hi85 => (simp only [List.getElem?_toArray, List.getElem?_cons_succ, List.getElem?_cons_zero]; rfl)
            case hQ85 => exact fun _ _ _ h => h
            case hw85 => rfl
            case hy85 => (intro w hSw; (try dsimp only at hSw); go_simp; try with_reducible rfl)
            (try simp only [Act.put, List.setIfInBounds_toArray, List.set_cons_zero, List.set_cons_succ])
            refine wpAnyH_take (i := 8) (oi := ?oi86) (v := ?v86) ?hi86 (by kernel_rfl) (by kernel_rfl) (by kernel_rfl) ?hQ86 (Or.inl ⟨?hw86, ?hy86⟩) (by assumption) ?rest86
            case hi86 => (simp only [List.getElem?_toArray, List.getElem?_cons_succ, List.getElem?_cons_zero]; rfl)
            case hQ86 => exact fun _ _ _ h => h
            case hw86 => rfl
            case hy86 => (intro w hSw; (try dsimp only at hSw); go_simp; try with_reducible rfl)
            (try simp only [Act.put, List.setIfInBounds_toArray, List.set_cons_zero, List.set_cons_succ])
            refine wpAnyH_take (i := 9) (oi := ?oi87) (v := ?v87) ?hi87 (by kernel_rfl) (by kernel_rfl) (by kernel_rfl) ?hQ87 (Or.inl ⟨?hw87, ?hy87⟩) (by assumption) ?rest87
            case hi87 => (simp only [List.getElem?_toArray, List.getElem?_cons_succ, List.getElem?_cons_zero]; rfl)
            case hQ87 => exact fun _ _ _ h => h
            case hw87 => rfl
            case hy87 => (intro w hSw; (try dsimp only at hSw); go_simp; try with_reducible rfl)
            (try simp only [Act.put, List.setIfInBounds_toArray, List.set_cons_zero, List.set_cons_succ])
            refine wpAnyH_take (i := 10) (oi := ?oi88) (v := ?v88) ?hi88 (by kernel_rfl) (by kernel_rfl) (by kernel_rfl) ?hQ88 (Or.inl ⟨?hw88, ?hy88⟩) (by assumption) ?rest88
            case hi88 => (simp only [List.getElem?_toArray, List.getElem?_cons_succ, List.getElem?_cons_zero]; rfl)
            case hQ88 => exact fun _ _ _ h => h
            case hw88 => rfl
            case hy88 => (intro w hSw; (try dsimp only at hSw); go_simp; try with_reducible rfl)
            (try simp only [Act.put, List.setIfInBounds_toArray, List.set_cons_zero, List.set_cons_succ])
            refine wpAnyH_take (i := 11) (oi := ?oi89) (v := ?v89) ?hi89 (by kernel_rfl) (by kernel_rfl) (by kernel_rfl) ?hQ89 (Or.inl ⟨?hw89, ?hy89⟩) (by assumption) ?rest89
            case hi89 => (simp only [List.getElem?_toArray, List.getElem?_cons_succ, List.getElem?_cons_zero]; rfl)
            case hQ89 => exact fun _ _ _ h => h
            case hw89 => rfl
            case hy89 => (intro w hSw; (try dsimp only at hSw); go_simp; try with_reducible rfl)
            (try simp only [Act.put, List.setIfInBounds_toArray, List.set_cons_zero, List.set_cons_succ])
            refine wpAnyH_take (i := 12) (oi := ?oi90) (v := ?v90) ?hi90 (by kernel_rfl) (by kernel_rfl) (by kernel_rfl) ?hQ90 (Or.inl ⟨?hw90, ?hy90⟩) (by assumption) ?rest90
            case hi90 => (simp only [List.getElem?_toArray, List.getElem?_cons_succ, List.getElem?_cons_zero]; rfl)
            case hQ90 => exact fun _ _ _ h => h
            case hw90 => rfl
            case hy90 => (intro w hSw; (try dsimp only at hSw); go_simp; try with_reducible rfl)
            (try simp only [Act.put, List.setIfInBounds_toArray, List.set_cons_zero, List.set_cons_succ])
            refine wpAnyH_take (i := 13) (oi := ?oi91) (v := ?v91) ?hi91 (by kernel_rfl) (by kernel_rfl) (by kernel_rfl) ?hQ91 (Or.inl ⟨?hw91, ?hy91⟩) (by assumption) ?rest91
            case hi91 => (simp only [List.getElem?_toArray, List.getElem?_cons_succ, List.getElem?_cons_zero]; rfl)
            case hQ91 => exact fun _ _ _ h => h
            case hw91 => rfl
            case hy91 => (intro w hSw; (try dsimp only at hSw); go_simp; try with_reducible rfl)
            (try simp only [Act.put, List.setIfInBounds_toArray, List.set_cons_zero, List.set_cons_succ])
            refine wpAnyH_take (i := 14) (oi := ?oi92) (v := ?v92) ?hi92 (by kernel_rfl) (by kernel_rfl) (by kernel_rfl) ?hQ92 (Or.inl ⟨?hw92, ?hy92⟩) (by assumption) ?rest92
            case hi92 => (simp only [List.getElem?_toArray, List.getElem?_cons_succ, List.getElem?_cons_zero]; rfl)
            case hQ92 => exact fun _ _ _ h => h
            case hw92 => rfl
            case hy92 => (intro w hSw; (try dsimp only at hSw); go_simp; try with_reducible rfl)
            (try simp only [Act.put, List.setIfInBounds_toArray, List.set_cons_zero, List.set_cons_succ])
            refine wpAnyH_take (i := 15) (oi := ?oi93) (v := ?v93) ?hi93 (by kernel_rfl) (by kernel_rfl) (by kernel_rfl) ?hQ93 (Or.inl ⟨?hw93, ?hy93⟩) (by assumption) ?rest93
            case hi93 => (simp only [List.getElem?_toArray, List.getElem?_cons_succ, List.getElem?_cons_zero]; rfl)
            case hQ93 => exact fun _ _ _ h => h
            case hw93 => rfl
            case hy93 => (intro w hSw; (try dsimp only at hSw); go_simp; try with_reducible rfl)
            (try simp only [Act.put, List.setIfInBounds_toArray, List.set_cons_zero, List.set_cons_succ])
            refine wpAnyH_take (i := 16) (oi := ?oi94) (v := ?v94) ?hi94 (by kernel_rfl) (by kernel_rfl) (by kernel_rfl) ?hQ94 (Or.inl ⟨?hw94, ?hy94⟩) (by assumption) ?rest94
            case hi94 => (simp only [List.getElem?_toArray, List.getElem?_cons_succ, List.getElem?_cons_zero]; rfl)
            case hQ94 => exact fun _ _ _ h => h
            case hw94 => rfl
            case hy94 => (intro w hSw; (try dsimp only at hSw); go_simp; try with_reducible rfl)
            (try simp only [Act.put, List.setIfInBounds_toArray, List.set_cons_zero, List.set_cons_succ])
            refine wpAnyH_take (i := 17) (oi := ?oi95) (v := ?v95) ?hi95 (by kernel_rfl) (by kernel_rfl) (by kernel_rfl) ?hQ95 (Or.inl ⟨?hw95, ?hy95⟩) (by assumption) ?rest95
            case hi95 => (simp only [List.getElem?_toArray, List.getElem?_cons_succ, List.getElem?_cons_zero]; rfl)
            case hQ95 => exact fun _ _ _ h => h
            case hw95 => rfl
            case hy95 => (intro w hSw; (try dsimp only at hSw); go_simp; try with_reducible rfl)
            (try simp only [Act.put, List.setIfInBounds_toArray, List.set_cons_zero, List.set_cons_succ])
            refine wpAnyH_take (i := 18) (oi := ?oi96) (v := ?v96) ?hi96 (by kernel_rfl) (by kernel_rfl) (by kernel_rfl) ?hQ96 (Or.inl ⟨?hw96, ?hy96⟩) (by assumption) ?rest96
            case hi96 => (simp only [List.getElem?_toArray, List.getElem?_cons_succ, List.getElem?_cons_zero]; rfl)
            case hQ96 => exact fun _ _ _ h => h
            case hw96 => rfl
            case hy96 => (intro w hSw; (try dsimp only at hSw); go_simp; try with_reducible rfl)
            (try simp only [Act.put, List.setIfInBounds_toArray, List.set_cons_zero, List.set_cons_succ])
            refine wpAnyH_done (by kernel_rfl) ?_ _
            go_wp2_with fail
            go_roundw
            case rel => exact ⟨k + 1, by omega, by go_num, HALL.out, hHeld.1⟩
            case measure => simp [intOf]; omega
      · have HF := Lib.hid (HALLF.out fun j hj hj' => hall j hj hj' (by omega))
        have hkl : k = vs.length := by omega
        have hkf : ¬ (k : Int) < (fs.length : Int) := by rw [HL.out]; omega
        have hkv : ¬ (k : Int) < (vs.length : Int) := by omega
        clear hall hkl
        go_wp2
        go_ret
        exact ⟨ret_bool HF.out.symm, hb⟩
  · have hne : ((fs.length : Int) != (vs.length : Int)) = true := by simp; omega
    have HNO := Lib.hid (fit_len fs vs hl)
    clear hl
    go_enter Try.func8, Try.ntmps8
    go_wp2
    go_ret
    exact ⟨ret_bool HNO.out.symm, Below.refl _ _⟩
end Go.Proofs.Ytcjickillendfaa

/- Layer 5: ExprSound. -/
namespace Go.Proofs.Ytcjickillendfaa
open Go.RowKit
set_option linter.unusedVariables false
set_option linter.unusedSimpArgs false
set_option maxRecDepth 20000

theorem setV_good {v : Vl} (h : goodV v = true) : goodV (setV v) = true ∧ (setV v).k = v.k := by
  unfold setV
  by_cases h4 : v.k = 4
  · rw [if_pos h4, reck_self h h4]
    exact ⟨good_num _, h4.symm⟩
  · rw [if_neg h4]
    exact ⟨h, rfl⟩
theorem sound_pure {e : Ex} {fs : List Fd} {vs : List Vl} {k : Int} (hc : checkX e fs = (k, 0)) (hf : fitX fs vs = true) (hok : okX 6 e) (hvs : ∀ v ∈ vs, okV v) :
    ((evalP e fs vs).2 = 0 ∧ (evalP e fs vs).1.k = k ∧ goodV (evalP e fs vs).1 = true) ∨ ((evalP e fs vs).2 = 41 ∨ (evalP e fs vs).2 = 42) := by
  have hsm : smallX e = true := by
    cases hs : smallX e with
    | true => rfl
    | false =>
      have : checkX e fs = (0, 51) := by unfold checkX; rw [hs]; rfl
      rw [this] at hc; exact absurd hc (by intro h; injection h with _ h; exact absurd h (by decide))
  have hck : chkX 6 e fs = (k, 0) := by
    have : checkX e fs = chkX 6 e fs := by unfold checkX; rw [hsm]; rfl
    rw [← this]; exact hc
  have hs := ev_sound fs vs hf hvs 6 e k hok ((smallX_iff e).1 hsm).1 hck
  have he : evalP e fs vs = endV (evX 6 e fs vs) := by
    unfold evalP
    rw [hc, if_neg (fun h => h rfl), if_pos hf]
  rw [he]
  unfold endV
  rcases hs with ⟨h0, h1, h2, h3⟩ | ⟨h1, h2⟩
  · rw [if_pos h0]
    exact .inl ⟨rfl, by rw [(setV_good h1).2]; exact h3, (setV_good h1).1⟩
  · rw [if_neg (by omega)]
    exact .inr h1

/-- a law's two boxes: the expression, the scope -/
structure SB (w : World) (FA : Option Addr) (fn FC : Nat) (VA : Option Addr) (vn VC : Nat) (op : Int) (A : Option Addr) (n c : Nat) (nm : ByteArray) (v : Vl) (W : World) : Prop where
  bel : Below w.heap.size w W
  ex : CellsX W w.heap.size op A n c nm v
  f : W.cell? ⟨w.heap.size + 1, 0, none⟩ = some (.slice FA fn FC)
  v : W.cell? ⟨w.heap.size + 1, 1, none⟩ = some (.slice VA vn VC)
  lt : w.heap.size + 2 ≤ W.heap.size
theorem SB.below {w : World} {FA : Option Addr} {fn FC : Nat} {VA : Option Addr} {vn VC : Nat} {op : Int} {A : Option Addr} {n c : Nat} {nm : ByteArray} {v : Vl} {W W' : World} (h : SB w FA fn FC VA vn VC op A n c nm v W) (hb : Below W.heap.size W W') : SB w FA fn FC VA vn VC op A n c nm v W' :=
  ⟨h.bel.trans (hb.mono h.bel.size), h.ex.below hb, keepc hb (by have := h.lt; omega) h.f, keepc hb (by have := h.lt; omega) h.v, Nat.le_trans h.lt hb.size⟩
theorem SB.new (w : World) (FA : Option Addr) (fn FC : Nat) (VA : Option Addr) (vn VC : Nat) (op : Int) (A : Option Addr) (n c : Nat) (nm : ByteArray) (v : Vl) (t : TypeId) :
    SB w FA fn FC VA vn VC op A n c nm v ((w.alloc (bxX op A n c nm v)).alloc (.cells #[.slice FA fn FC, .slice VA vn VC] t)) := by
  have h2 := heap_alloc_new (w.alloc (bxX op A n c nm v)) (.cells #[.slice FA fn FC, .slice VA vn VC] t)
  have hs : (w.alloc (bxX op A n c nm v)).heap.size = w.heap.size + 1 := by simp
  rw [hs] at h2
  exact ⟨vbox2 w _ _, (Kid_new w op A n c nm v).below (alloc1 _ _), (cell_of_row _ _ 0 _ _ (0, 0) h2).trans rfl, (cell_of_row _ _ 1 _ _ (0, 0) h2).trans rfl, by simp⟩
set_option maxHeartbeats 400000 in
theorem ExprSound_any (FA : Option Addr) (FC : Nat) (fs : List Fd) (VA : Option Addr) (VC : Nat) (vs : List Vl) (D : Nat) (e : Ex) (A : Option Addr) (c : Nat) (w : World) (hx : ExK w D A c e) (hf : FdK w FA FC fs) (hv : VlK w VA VC vs) (hok : okX 6 e) (hvs : ∀ v ∈ vs, okV v) (awk : ∀ W, Calls Try.prog 9 #[] W (VMk (.bool true) W)) :
    Calls Try.prog 3 #[agX e.op A e.kids.length c e.name e.val, .agg #[.slice FA fs.length FC, .slice VA vs.length VC]] w (VMk (.bool true) w) := by
  have hsf := fun (w : World) (a : Addr) (m : Mode) (b : Nat) => run_store Try.prog w a (.float .f64 b) m rfl
  have FEW := Lib.hid (fun W (hb : Below w.heap.size w W) => few5_any FA FC fs VA VC vs W (hf.below hb (Nat.le_refl _)) (hv.below hb (Nat.le_refl _)))
  have hchk := (fun W (hb : Below w.heap.size w W) => eCheck_any FA FC fs D e A c W (hx.below hb (Nat.le_refl _)) (hf.below hb (Nat.le_refl _)))
  have hfit := (fun W (hb : Below w.heap.size w W) => fit_doc FA FC fs VA VC vs W (hf.below hb (Nat.le_refl _)) (hv.below hb (Nat.le_refl _)))
  have hev := (fun W (hb : Below w.heap.size w W) => Eval_any FA FC fs VA VC vs D e A c W (hx.below hb (Nat.le_refl _)) (hf.below hb (Nat.le_refl _)) (hv.below hb (Nat.le_refl _)) hok hvs)
  have hsound := fun k (hc : checkX e fs = (k, 0)) (hf : fitX fs vs = true) => sound_pure hc hf hok hvs
  have AWK := Lib.hid awk
  clear awk
  clear hx hf hv hok hvs
  generalize evalP e fs vs = r at hev hsound
  generalize checkX e fs = ck at hchk hsound
  generalize fitX fs vs = ft at hfit hsound
  generalize e.kids.length = n at *
  generalize e.op = eop at *
  generalize e.name = enm at *
  generalize e.val = ev at *
  obtain ⟨k, x⟩ := ck
  obtain ⟨v, y⟩ := r
  have CHK := Lib.hid hchk
  have FIT := Lib.hid hfit
  have EV := Lib.hid hev
  have SND := Lib.hid hsound
  clear hchk hfit hev hsound
  have hbn := Lib.hid (SB.new w FA fs.length FC VA vs.length VC eop A n c enm ev 31)
  go_enter Try.func3, Try.ntmps3
  go_wp2_with fail
  refine (FEW.out _ hbn.out.bel).mono ?_
  rintro _ w1 ⟨bb, rfl, hb1, -⟩
  have S1 := Lib.hid (hbn.out.below hb1)
  clear hbn hb1
  rcases bb with _ | _
  · go_wp2
    go_ret
    exact ⟨rfl, S1.out.bel⟩
  obtain ⟨d0, d1, d2, d3, d4, d5, d6, d7⟩ := S1.out.ex
  have sf := S1.out.f
  have sv := S1.out.v
  go_wp2_with fail
  refine (CHK.out _ S1.out.bel).mono ?_
  rintro _ w2 ⟨rfl, hb2⟩
  clear d0 d1 d2 d3 d4 d5 d6 d7 sf sv
  have S2 := Lib.hid (S1.out.below hb2)
  clear S1 hb2 CHK
  have sf := S2.out.f
  have sv := S2.out.v
  by_cases hx0 : x = 0
  · subst hx0
    have hxb : (((0 : Int)) != 0) = false := rfl
    go_wp2_with fail
    refine (FIT.out _ S2.out.bel).mono ?_
    rintro _ w3 ⟨rfl, hb3⟩
    clear sf sv
    have S3 := Lib.hid (S2.out.below hb3)
    clear S2 hb3 FIT
    rcases ft with _ | _
    · go_wp2_with fail
      refine (AWK.out _).mono ?_
      rintro _ w4 ⟨rfl, hb4⟩
      go_wp2
      go_ret
      exact ⟨rfl, (S3.out.below hb4).bel⟩
    obtain ⟨d0, d1, d2, d3, d4, d5, d6, d7⟩ := S3.out.ex
    have sf := S3.out.f
    have sv := S3.out.v
    go_wp2_with fail
    refine (EV.out _ S3.out.bel).mono ?_
    rintro _ w4 ⟨rfl, hb4⟩
    clear d0 d1 d2 d3 d4 d5 d6 d7 sf sv
    have S4 := Lib.hid (S3.out.below hb4)
    clear S3 hb4 EV
    have hs := SND.out k (by first | rfl | trivial) (by first | rfl | trivial)
    clear SND
    rcases hs with ⟨h1, h2, h3⟩ | h1
    · have h1 : y = 0 := h1
      have h2 : v.k = k := h2
      have h3 : goodV v = true := h3
      subst h1
      have hg := fun W => rGood_val v W
      rw [h3] at hg
      have HG := Lib.hid hg
      subst h2
      clear h3 hg
      go_wp2_with fail
      refine (HG.out _).mono ?_
      rintro _ w5 ⟨rfl, hb5⟩
      have S5 := Lib.hid ((S4.out.below (alloc1 _ _)).below hb5)
      clear S4 hb5
      go_wp2_with fail
      refine (AWK.out _).mono ?_
      rintro _ w6 ⟨rfl, hb6⟩
      go_wp2
      go_ret
      exact ⟨rfl, (S5.out.below hb6).bel⟩
    · have h1 : y = 41 ∨ y = 42 := h1
      rcases h1 with h1 | h1
      · subst h1
        go_wp2_with fail
        refine (AWK.out _).mono ?_
        rintro _ w5 ⟨rfl, hb5⟩
        go_wp2
        go_ret
        exact ⟨rfl, ((S4.out.below (alloc1 _ _)).below hb5).bel⟩
      · subst h1
        go_wp2_with fail
        refine (AWK.out _).mono ?_
        rintro _ w5 ⟨rfl, hb5⟩
        go_wp2
        go_ret
        exact ⟨rfl, ((S4.out.below (alloc1 _ _)).below hb5).bel⟩
  · have hxb : (x != 0) = true := by simpa using hx0
    go_wp2_with fail
    refine (AWK.out _).mono ?_
    rintro _ w3 ⟨rfl, hb3⟩
    go_wp2
    go_ret
    exact ⟨rfl, (S2.out.below hb3).bel⟩
end Go.Proofs.Ytcjickillendfaa
