/- Bd: EFit ETell9 ELaw EAw0 EArgs (made by bundle.py). -/
import Derived.Test.YtkhpgejammgolaaBc
/- Layer 5: do values fit fields, by the program and by the document. (Made by gen/genfit.py.) -/
namespace Go.Proofs.Ytkhpgejammgolaa
open Go.RowKit
set_option linter.unusedVariables false
set_option linter.unusedSimpArgs false
set_option maxRecDepth 20000

def fitB (f : Fd) (v : Vl) : Bool := goodV v && (v.k == f.kind)
theorem fit_all (fs : List Fd) (vs : List Vl) (h : fs.length = vs.length) (ha : ∀ (j : Nat) (hj : j < fs.length) (hj' : j < vs.length), fitB fs[j] vs[j] = true) : fitX fs vs = true := by
  unfold fitX
  rw [Bool.and_eq_true, List.all_eq_true]
  refine ⟨by simpa using h, fun p hp => ?_⟩
  obtain ⟨j, hj, e⟩ := List.getElem_of_mem hp
  rw [List.length_zip] at hj
  have := ha j (by omega) (by omega)
  rw [← e, List.getElem_zip]
  exact this
theorem fit_len (fs : List Fd) (vs : List Vl) (h : fs.length ≠ vs.length) : fitX fs vs = false := by
  unfold fitX
  rw [show (fs.length == vs.length) = false by simpa using h]; rfl
theorem fit_no (fs : List Fd) (vs : List Vl) (j : Nat) (hj : j < fs.length) (hj' : j < vs.length) (ha : fitB fs[j] vs[j] = false) : fitX fs vs = false := by
  unfold fitX
  rw [Bool.and_eq_false_iff]
  refine .inr ?_
  rw [← Bool.not_eq_true, List.all_eq_true]
  intro h
  have := h (fs[j], vs[j]) (by rw [List.mem_iff_getElem]; exact ⟨j, by rw [List.length_zip]; omega, List.getElem_zip⟩)
  unfold fitB at ha
  rw [ha] at this
  cases this
set_option maxHeartbeats 2000000 in
theorem fit_prog (FA : Option Addr) (FC : Nat) (fs : List Fd) (VA : Option Addr) (VC : Nat) (vs : List Vl) (w : World) (hf : FdK w FA FC fs) (hv : VlK w VA VC vs) :
    Calls Try.prog 12 #[.slice VA vs.length VC, .slice FA fs.length FC] w (VMk (.bool (fitX fs vs)) w) := by
  obtain ⟨f1, f2, f3, f4⟩ := hf
  obtain ⟨v1, v2, v3, v4⟩ := hv
  unfold maxLen at f2 v2
  have hfl : fs.length ≤ 9223372036854775807 := by omega
  have hvl : vs.length ≤ 9223372036854775807 := by omega
  have F4 := Lib.hid f4
  have V4 := Lib.hid v4
  clear f1 f2 f3 f4 v1 v2 v3 v4
  have hsf := fun (w : World) (a : Addr) (m : Mode) (b : Nat) => run_store Try.prog w a (.float .f64 b) m rfl
  by_cases hl : fs.length = vs.length
  · have hne : ((vs.length : Int) != (fs.length : Int)) = false := by simp [hl]
    have HALLF := Lib.hid (fit_all fs vs hl)
    have HNOF := Lib.hid (fit_no fs vs)
    have HL := Lib.hid hl
    clear hl
    go_enter Try.func12, Try.ntmps12
    go_wp2
    go_loopw [14] (fun i wr => ∃ k : Nat, k ≤ vs.length ∧ i = .int .i64 k ∧ (∀ (j : Nat) (hj : j < fs.length) (hj' : j < vs.length), j < k → fitB fs[j] vs[j] = true) ∧ Below w.heap.size w wr) (fun i _ => vs.length - (intOf i).toNat)
    case atStart => exact ⟨0, Nat.zero_le _, rfl, fun j hj hj' h => absurd h (Nat.not_lt_zero _), Below.refl _ _⟩
    case round =>
      obtain ⟨k, hk, rfl, hall, hb⟩ := hrel
      by_cases hlt : k < vs.length
      · have hlf : k < fs.length := by rw [HL.out]; exact hlt
        have hltF : (k : Int) < (fs.length : Int) := by omega
        have hltV : (k : Int) < (vs.length : Int) := by omega
        have hi0 : (0 : Int) ≤ (k : Int) := by omega
        obtain ⟨fad, A', n', c', y, rfl, hbl, hq⟩ := F4.out k hlf
        obtain ⟨vad, rfl, hbl2, hq2⟩ := V4.out k hlt
        have hqf := fun W (h : Below w.heap.size w W) => (hq.below h (by rw [block_add]; exact hbl)).2.1
        have hqv := fun W (h : Below w.heap.size w W) => hq2.below h (by rw [block_add]; exact hbl2)
        have hall2 : fitB fs[k] vs[k] = true → ∀ (j : Nat) (hj : j < fs.length) (hj' : j < vs.length), j < k + 1 → fitB fs[j] vs[j] = true := fun h j hj hj' hjk => by
          by_cases e : j < k
          · exact hall j hj hj' e
          · obtain rfl : j = k := by omega
            exact h
        have hno : fitB fs[k] vs[k] = false → fitX fs vs = false := HNOF.out k hlf hlt
        unfold fitB at hall2 hno
        have hg := Good_val vs[k]
        clear hall hq hq2
        generalize fs[k].kind = fk at *
        generalize vs[k] = vv at *
        have HQF := Lib.hid hqf
        have HQV := Lib.hid hqv
        generalize goodV vv = gv at hg hall2 hno
        have HG := Lib.hid hg
        clear hg hqf hqv
        obtain ⟨q0, q1, q2, q3, q4⟩ := HQV.out _ hb
        have hbox := Bx.new wr vv
        have HK := Lib.hid (fun (W W' : World) (h : Below w.heap.size w W ∧ W.cell? ⟨(fad.add (k * 8)).block, (fad.add (k * 8)).off + 1, none⟩ = some (.int .i64 fk) ∧ W.cell? ⟨wr.heap.size, 0, none⟩ = some (.int .i64 vv.k) ∧ W.cell? ⟨wr.heap.size, 1, none⟩ = some (.int .i64 vv.i) ∧ W.cell? ⟨wr.heap.size, 2, none⟩ = some (.bool vv.b) ∧ W.cell? ⟨wr.heap.size, 3, none⟩ = some (.string vv.s) ∧ W.cell? ⟨wr.heap.size, 4, none⟩ = some (.float .f64 vv.n)) (hb : Below W.heap.size W W') => (show Below w.heap.size w W' ∧ W'.cell? ⟨(fad.add (k * 8)).block, (fad.add (k * 8)).off + 1, none⟩ = some (.int .i64 fk) ∧ W'.cell? ⟨wr.heap.size, 0, none⟩ = some (.int .i64 vv.k) ∧ W'.cell? ⟨wr.heap.size, 1, none⟩ = some (.int .i64 vv.i) ∧ W'.cell? ⟨wr.heap.size, 2, none⟩ = some (.bool vv.b) ∧ W'.cell? ⟨wr.heap.size, 3, none⟩ = some (.string vv.s) ∧ W'.cell? ⟨wr.heap.size, 4, none⟩ = some (.float .f64 vv.n) from ⟨h.1.trans (hb.mono h.1.size), HQF.out _ (h.1.trans (hb.mono h.1.size)), (show Bx W wr.heap.size vv from h.2.2).below hb⟩))
        have hS1 : (fun W => Below w.heap.size w W ∧ W.cell? ⟨(fad.add (k * 8)).block, (fad.add (k * 8)).off + 1, none⟩ = some (.int .i64 fk) ∧ W.cell? ⟨wr.heap.size, 0, none⟩ = some (.int .i64 vv.k) ∧ W.cell? ⟨wr.heap.size, 1, none⟩ = some (.int .i64 vv.i) ∧ W.cell? ⟨wr.heap.size, 2, none⟩ = some (.bool vv.b) ∧ W.cell? ⟨wr.heap.size, 3, none⟩ = some (.string vv.s) ∧ W.cell? ⟨wr.heap.size, 4, none⟩ = some (.float .f64 vv.n)) (wr.alloc (.cells #[.int .i64 vv.k, .int .i64 vv.i, .bool vv.b, .string vv.s, .float .f64 vv.n] 25)).drew := ⟨(hb.alloc hb.size _).drew, HQF.out _ (hb.alloc hb.size _).drew, hbox⟩
        clear hbox
        rcases gv with _ | _
        · have HNO := Lib.hid (hno (by rfl))
          clear hall2 hno
          go_wp2_with fail
          refine wp_region_held_drew (S := (fun W => Below w.heap.size w W ∧ W.cell? ⟨(fad.add (k * 8)).block, (fad.add (k * 8)).off + 1, none⟩ = some (.int .i64 fk) ∧ W.cell? ⟨wr.heap.size, 0, none⟩ = some (.int .i64 vv.k) ∧ W.cell? ⟨wr.heap.size, 1, none⟩ = some (.int .i64 vv.i) ∧ W.cell? ⟨wr.heap.size, 2, none⟩ = some (.bool vv.b) ∧ W.cell? ⟨wr.heap.size, 3, none⟩ = some (.string vv.s) ∧ W.cell? ⟨wr.heap.size, 4, none⟩ = some (.float .f64 vv.n))) (by kernel_rfl) (hS1) (fun hHeld => ?_)
          refine wpAnyH_take (i := 0) (oi := ?oi1) (v := ?v1) ?hi1 (by kernel_rfl) (by kernel_rfl) (by kernel_rfl) ?hQ1 (Or.inl ⟨?hw1, ?hy1⟩) (by assumption) ?rest1
          case hi1 => (simp only [List.getElem?_toArray, List.getElem?_cons_succ, List.getElem?_cons_zero]; rfl)
          case hQ1 => exact fun _ _ _ h => h
          case hw1 => rfl
          case hy1 => (intro w hSw; (try dsimp only at hSw); go_simp; try with_reducible rfl)
          (try simp only [Act.put, List.setIfInBounds_toArray, List.set_cons_zero, List.set_cons_succ])
          refine wpAnyH_ready (rs := [1]) (by kernel_rfl) (by simp) ?_
          refine AllReadyH.cons (o := ?o2) ?ho2 (fun K hK => ?st2) AllReadyH.nil
          case ho2 => (simp only [List.getElem?_toArray, List.getElem?_cons_succ, List.getElem?_cons_zero]; rfl)
          go_simp
          refine (HG.out _).mono ?_; rintro e w2 ⟨rfl, hb2⟩
          refine hK.out _ _ ?_ (fun hHeld => ?_)
          · (try dsimp only); exact HK.out _ _ hHeld hb2
          clear hK K
          (try simp only [Act.put, List.setIfInBounds_toArray, List.set_cons_zero, List.set_cons_succ])
          refine wpAnyH_take (i := 2) (oi := ?oi3) (v := ?v3) ?hi3 (by kernel_rfl) (by kernel_rfl) (by kernel_rfl) ?hQ3 (Or.inl ⟨?hw3, ?hy3⟩) (by assumption) ?rest3
          case hi3 => (simp only [List.getElem?_toArray, List.getElem?_cons_succ, List.getElem?_cons_zero]; rfl)
          case hQ3 => exact fun _ _ _ h => h
          case hw3 => rfl
          case hy3 => (intro w hSw; (try dsimp only at hSw); go_simp; try with_reducible rfl)
          (try simp only [Act.put, List.setIfInBounds_toArray, List.set_cons_zero, List.set_cons_succ])
          refine wpAnyH_take (i := 3) (oi := ?oi4) (v := ?v4) ?hi4 (by kernel_rfl) (by kernel_rfl) (by kernel_rfl) ?hQ4 (Or.inl ⟨?hw4, ?hy4⟩) (by assumption) ?rest4
          case hi4 => (simp only [List.getElem?_toArray, List.getElem?_cons_succ, List.getElem?_cons_zero]; rfl)
          case hQ4 => exact fun _ _ _ h => h
          case hw4 => rfl
          case hy4 => (intro w hSw; (try dsimp only at hSw); go_simp; try with_reducible rfl)
          (try simp only [Act.put, List.setIfInBounds_toArray, List.set_cons_zero, List.set_cons_succ])
          refine wpAnyH_take (i := 4) (oi := ?oi5) (v := undef) ?hi5 (by kernel_rfl) (by kernel_rfl) (by kernel_rfl) ?hQ5 (Or.inr ⟨?hw5, rfl⟩) (by assumption) ?rest5
          case hi5 => (simp only [List.getElem?_toArray, List.getElem?_cons_succ, List.getElem?_cons_zero]; rfl)
          case hQ5 => exact fun _ _ _ h => h
          case hw5 => rfl
          (try simp only [Act.put, List.setIfInBounds_toArray, List.set_cons_zero, List.set_cons_succ])
          refine wpAnyH_take (i := 5) (oi := ?oi6) (v := undef) ?hi6 (by kernel_rfl) (by kernel_rfl) (by kernel_rfl) ?hQ6 (Or.inr ⟨?hw6, rfl⟩) (by assumption) ?rest6
          case hi6 => (simp only [List.getElem?_toArray, List.getElem?_cons_succ, List.getElem?_cons_zero]; rfl)
          case hQ6 => exact fun _ _ _ h => h
          case hw6 => rfl
          (try simp only [Act.put, List.setIfInBounds_toArray, List.set_cons_zero, List.set_cons_succ])
          refine wpAnyH_take (i := 6) (oi := ?oi7) (v := undef) ?hi7 (by kernel_rfl) (by kernel_rfl) (by kernel_rfl) ?hQ7 (Or.inr ⟨?hw7, rfl⟩) (by assumption) ?rest7
          case hi7 => (simp only [List.getElem?_toArray, List.getElem?_cons_succ, List.getElem?_cons_zero]; rfl)
          case hQ7 => exact fun _ _ _ h => h
          case hw7 => rfl
          (try simp only [Act.put, List.setIfInBounds_toArray, List.set_cons_zero, List.set_cons_succ])
          refine wpAnyH_take (i := 7) (oi := ?oi8) (v := undef) ?hi8 (by kernel_rfl) (by kernel_rfl) (by kernel_rfl) ?hQ8 (Or.inr ⟨?hw8, rfl⟩) (by assumption) ?rest8
          case hi8 => (simp only [List.getElem?_toArray, List.getElem?_cons_succ, List.getElem?_cons_zero]; rfl)
          case hQ8 => exact fun _ _ _ h => h
          case hw8 => rfl
          (try simp only [Act.put, List.setIfInBounds_toArray, List.set_cons_zero, List.set_cons_succ])
          refine wpAnyH_take (i := 8) (oi := ?oi9) (v := undef) ?hi9 (by kernel_rfl) (by kernel_rfl) (by kernel_rfl) ?hQ9 (Or.inr ⟨?hw9, rfl⟩) (by assumption) ?rest9
          case hi9 => (simp only [List.getElem?_toArray, List.getElem?_cons_succ, List.getElem?_cons_zero]; rfl)
          case hQ9 => exact fun _ _ _ h => h
          case hw9 => rfl
          (try simp only [Act.put, List.setIfInBounds_toArray, List.set_cons_zero, List.set_cons_succ])
          refine wpAnyH_take (i := 9) (oi := ?oi10) (v := undef) ?hi10 (by kernel_rfl) (by kernel_rfl) (by kernel_rfl) ?hQ10 (Or.inr ⟨?hw10, rfl⟩) (by assumption) ?rest10
          case hi10 => (simp only [List.getElem?_toArray, List.getElem?_cons_succ, List.getElem?_cons_zero]; rfl)
          case hQ10 => exact fun _ _ _ h => h
          case hw10 => rfl
          (try simp only [Act.put, List.setIfInBounds_toArray, List.set_cons_zero, List.set_cons_succ])
          refine wpAnyH_take (i := 10) (oi := ?oi11) (v := undef) ?hi11 (by kernel_rfl) (by kernel_rfl) (by kernel_rfl) ?hQ11 (Or.inr ⟨?hw11, rfl⟩) (by assumption) ?rest11
          case hi11 => (simp only [List.getElem?_toArray, List.getElem?_cons_succ, List.getElem?_cons_zero]; rfl)
          case hQ11 => exact fun _ _ _ h => h
          case hw11 => rfl
          (try simp only [Act.put, List.setIfInBounds_toArray, List.set_cons_zero, List.set_cons_succ])
          refine wpAnyH_take (i := 11) (oi := ?oi12) (v := undef) ?hi12 (by kernel_rfl) (by kernel_rfl) (by kernel_rfl) ?hQ12 (Or.inr ⟨?hw12, rfl⟩) (by assumption) ?rest12
          case hi12 => (simp only [List.getElem?_toArray, List.getElem?_cons_succ, List.getElem?_cons_zero]; rfl)
          case hQ12 => exact fun _ _ _ h => h
          case hw12 => rfl
          (try simp only [Act.put, List.setIfInBounds_toArray, List.set_cons_zero, List.set_cons_succ])
          refine wpAnyH_take (i := 12) (oi := ?oi13) (v := ?v13) ?hi13 (by kernel_rfl) (by kernel_rfl) (by kernel_rfl) ?hQ13 (Or.inl ⟨?hw13, ?hy13⟩) (by assumption) ?rest13
          case hi13 => (simp only [List.getElem?_toArray, List.getElem?_cons_succ, List.getElem?_cons_zero]; rfl)
          case hQ13 => exact fun _ _ _ h => h
          case hw13 => rfl
          case hy13 => (intro w hSw; (try dsimp only at hSw); go_simp; try with_reducible rfl)
          (try simp only [Act.put, List.setIfInBounds_toArray, List.set_cons_zero, List.set_cons_succ])
          refine wpAnyH_done (by kernel_rfl) ?_ _
          go_wp2_with fail
          go_ret
          exact ⟨ret_bool HNO.out.symm, hHeld.1⟩
        · rcases hk : (vv.k == fk) with _ | _
          · have hkk : (vv.k != fk) = true := by rw [bne, hk]; rfl
            have HNO := Lib.hid (hno (by rw [hk]; rfl))
            clear hall2 hno
            go_wp2_with fail
            refine wp_region_held_drew (S := (fun W => Below w.heap.size w W ∧ W.cell? ⟨(fad.add (k * 8)).block, (fad.add (k * 8)).off + 1, none⟩ = some (.int .i64 fk) ∧ W.cell? ⟨wr.heap.size, 0, none⟩ = some (.int .i64 vv.k) ∧ W.cell? ⟨wr.heap.size, 1, none⟩ = some (.int .i64 vv.i) ∧ W.cell? ⟨wr.heap.size, 2, none⟩ = some (.bool vv.b) ∧ W.cell? ⟨wr.heap.size, 3, none⟩ = some (.string vv.s) ∧ W.cell? ⟨wr.heap.size, 4, none⟩ = some (.float .f64 vv.n))) (by kernel_rfl) (hS1) (fun hHeld => ?_)
            refine wpAnyH_take (i := 0) (oi := ?oi14) (v := ?v14) ?hi14 (by kernel_rfl) (by kernel_rfl) (by kernel_rfl) ?hQ14 (Or.inl ⟨?hw14, ?hy14⟩) (by assumption) ?rest14
            case hi14 => (simp only [List.getElem?_toArray, List.getElem?_cons_succ, List.getElem?_cons_zero]; rfl)
            case hQ14 => exact fun _ _ _ h => h
            case hw14 => rfl
            case hy14 => (intro w hSw; (try dsimp only at hSw); go_simp; try with_reducible rfl)
            (try simp only [Act.put, List.setIfInBounds_toArray, List.set_cons_zero, List.set_cons_succ])
            refine wpAnyH_ready (rs := [1]) (by kernel_rfl) (by simp) ?_
            refine AllReadyH.cons (o := ?o15) ?ho15 (fun K hK => ?st15) AllReadyH.nil
            case ho15 => (simp only [List.getElem?_toArray, List.getElem?_cons_succ, List.getElem?_cons_zero]; rfl)
            go_simp
            refine (HG.out _).mono ?_; rintro e w2 ⟨rfl, hb2⟩
            refine hK.out _ _ ?_ (fun hHeld => ?_)
            · (try dsimp only); exact HK.out _ _ hHeld hb2
            clear hK K
            (try simp only [Act.put, List.setIfInBounds_toArray, List.set_cons_zero, List.set_cons_succ])
            refine wpAnyH_take (i := 2) (oi := ?oi16) (v := ?v16) ?hi16 (by kernel_rfl) (by kernel_rfl) (by kernel_rfl) ?hQ16 (Or.inl ⟨?hw16, ?hy16⟩) (by assumption) ?rest16
            case hi16 => (simp only [List.getElem?_toArray, List.getElem?_cons_succ, List.getElem?_cons_zero]; rfl)
            case hQ16 => exact fun _ _ _ h => h
            case hw16 => rfl
            case hy16 => (intro w hSw; (try dsimp only at hSw); go_simp; try with_reducible rfl)
            (try simp only [Act.put, List.setIfInBounds_toArray, List.set_cons_zero, List.set_cons_succ])
            refine wpAnyH_take (i := 3) (oi := ?oi17) (v := ?v17) ?hi17 (by kernel_rfl) (by kernel_rfl) (by kernel_rfl) ?hQ17 (Or.inl ⟨?hw17, ?hy17⟩) (by assumption) ?rest17
            case hi17 => (simp only [List.getElem?_toArray, List.getElem?_cons_succ, List.getElem?_cons_zero]; rfl)
            case hQ17 => exact fun _ _ _ h => h
            case hw17 => rfl
            case hy17 => (intro w hSw; (try dsimp only at hSw); go_simp; try with_reducible rfl)
            (try simp only [Act.put, List.setIfInBounds_toArray, List.set_cons_zero, List.set_cons_succ])
            refine wpAnyH_take (i := 4) (oi := ?oi18) (v := ?v18) ?hi18 (by kernel_rfl) (by kernel_rfl) (by kernel_rfl) ?hQ18 (Or.inl ⟨?hw18, ?hy18⟩) (by assumption) ?rest18
            case hi18 => (simp only [List.getElem?_toArray, List.getElem?_cons_succ, List.getElem?_cons_zero]; rfl)
            case hQ18 => exact fun _ _ _ h => h
            case hw18 => rfl
            case hy18 => (intro w hSw; (try dsimp only at hSw); go_simp; try with_reducible rfl)
            (try simp only [Act.put, List.setIfInBounds_toArray, List.set_cons_zero, List.set_cons_succ])
            refine wpAnyH_take (i := 5) (oi := ?oi19) (v := ?v19) ?hi19 (by kernel_rfl) (by kernel_rfl) (by kernel_rfl) ?hQ19 (Or.inl ⟨?hw19, ?hy19⟩) (by assumption) ?rest19
            case hi19 => (simp only [List.getElem?_toArray, List.getElem?_cons_succ, List.getElem?_cons_zero]; rfl)
            case hQ19 => exact fun _ _ _ h => h
            case hw19 => rfl
            case hy19 => (intro w hSw; (try dsimp only at hSw); go_simp; try with_reducible rfl)
            (try simp only [Act.put, List.setIfInBounds_toArray, List.set_cons_zero, List.set_cons_succ])
            refine wpAnyH_take (i := 6) (oi := ?oi20) (v := ?v20) ?hi20 (by kernel_rfl) (by kernel_rfl) (by kernel_rfl) ?hQ20 (Or.inl ⟨?hw20, ?hy20⟩) (by assumption) ?rest20
            case hi20 => (simp only [List.getElem?_toArray, List.getElem?_cons_succ, List.getElem?_cons_zero]; rfl)
            case hQ20 => exact fun _ _ _ h => h
            case hw20 => rfl
            case hy20 => (intro w hSw; (try dsimp only at hSw); go_simp; try with_reducible rfl)
            (try simp only [Act.put, List.setIfInBounds_toArray, List.set_cons_zero, List.set_cons_succ])
            refine wpAnyH_take (i := 7) (oi := ?oi21) (v := ?v21) ?hi21 (by kernel_rfl) (by kernel_rfl) (by kernel_rfl) ?hQ21 (Or.inl ⟨?hw21, ?hy21⟩) (by assumption) ?rest21
            case hi21 => (simp only [List.getElem?_toArray, List.getElem?_cons_succ, List.getElem?_cons_zero]; rfl)
            case hQ21 => exact fun _ _ _ h => h
            case hw21 => rfl
            case hy21 => (intro w hSw; (try dsimp only at hSw); go_simp; try with_reducible rfl)
            (try simp only [Act.put, List.setIfInBounds_toArray, List.set_cons_zero, List.set_cons_succ])
            refine wpAnyH_take (i := 8) (oi := ?oi22) (v := ?v22) ?hi22 (by kernel_rfl) (by kernel_rfl) (by kernel_rfl) ?hQ22 (Or.inl ⟨?hw22, ?hy22⟩) (by assumption) ?rest22
            case hi22 => (simp only [List.getElem?_toArray, List.getElem?_cons_succ, List.getElem?_cons_zero]; rfl)
            case hQ22 => exact fun _ _ _ h => h
            case hw22 => rfl
            case hy22 => (intro w hSw; (try dsimp only at hSw); go_simp; try with_reducible rfl)
            (try simp only [Act.put, List.setIfInBounds_toArray, List.set_cons_zero, List.set_cons_succ])
            refine wpAnyH_take (i := 9) (oi := ?oi23) (v := ?v23) ?hi23 (by kernel_rfl) (by kernel_rfl) (by kernel_rfl) ?hQ23 (Or.inl ⟨?hw23, ?hy23⟩) (by assumption) ?rest23
            case hi23 => (simp only [List.getElem?_toArray, List.getElem?_cons_succ, List.getElem?_cons_zero]; rfl)
            case hQ23 => exact fun _ _ _ h => h
            case hw23 => rfl
            case hy23 => (intro w hSw; (try dsimp only at hSw); go_simp; try with_reducible rfl)
            (try simp only [Act.put, List.setIfInBounds_toArray, List.set_cons_zero, List.set_cons_succ])
            refine wpAnyH_take (i := 10) (oi := ?oi24) (v := ?v24) ?hi24 (by kernel_rfl) (by kernel_rfl) (by kernel_rfl) ?hQ24 (Or.inl ⟨?hw24, ?hy24⟩) (by assumption) ?rest24
            case hi24 => (simp only [List.getElem?_toArray, List.getElem?_cons_succ, List.getElem?_cons_zero]; rfl)
            case hQ24 => exact fun _ _ _ h => h
            case hw24 => rfl
            case hy24 => (intro w hSw; (try dsimp only at hSw); go_simp; try with_reducible rfl)
            (try simp only [Act.put, List.setIfInBounds_toArray, List.set_cons_zero, List.set_cons_succ])
            refine wpAnyH_take (i := 11) (oi := ?oi25) (v := ?v25) ?hi25 (by kernel_rfl) (by kernel_rfl) (by kernel_rfl) ?hQ25 (Or.inl ⟨?hw25, ?hy25⟩) (by assumption) ?rest25
            case hi25 => (simp only [List.getElem?_toArray, List.getElem?_cons_succ, List.getElem?_cons_zero]; rfl)
            case hQ25 => exact fun _ _ _ h => h
            case hw25 => rfl
            case hy25 => (intro w hSw; (try dsimp only at hSw); go_simp; try with_reducible rfl)
            (try simp only [Act.put, List.setIfInBounds_toArray, List.set_cons_zero, List.set_cons_succ])
            refine wpAnyH_take (i := 12) (oi := ?oi26) (v := ?v26) ?hi26 (by kernel_rfl) (by kernel_rfl) (by kernel_rfl) ?hQ26 (Or.inl ⟨?hw26, ?hy26⟩) (by assumption) ?rest26
            case hi26 => (simp only [List.getElem?_toArray, List.getElem?_cons_succ, List.getElem?_cons_zero]; rfl)
            case hQ26 => exact fun _ _ _ h => h
            case hw26 => rfl
            case hy26 => (intro w hSw; (try dsimp only at hSw); go_simp; try with_reducible rfl)
            (try simp only [Act.put, List.setIfInBounds_toArray, List.set_cons_zero, List.set_cons_succ])
            refine wpAnyH_done (by kernel_rfl) ?_ _
            go_wp2_with fail
            go_ret
            exact ⟨ret_bool HNO.out.symm, hHeld.1⟩
          · have hkk : (vv.k != fk) = false := by rw [bne, hk]; rfl
            have HALL := Lib.hid (hall2 (by rw [hk]; rfl))
            clear hall2 hno
            go_wp2_with fail
            refine wp_region_held_drew (S := (fun W => Below w.heap.size w W ∧ W.cell? ⟨(fad.add (k * 8)).block, (fad.add (k * 8)).off + 1, none⟩ = some (.int .i64 fk) ∧ W.cell? ⟨wr.heap.size, 0, none⟩ = some (.int .i64 vv.k) ∧ W.cell? ⟨wr.heap.size, 1, none⟩ = some (.int .i64 vv.i) ∧ W.cell? ⟨wr.heap.size, 2, none⟩ = some (.bool vv.b) ∧ W.cell? ⟨wr.heap.size, 3, none⟩ = some (.string vv.s) ∧ W.cell? ⟨wr.heap.size, 4, none⟩ = some (.float .f64 vv.n))) (by kernel_rfl) (hS1) (fun hHeld => ?_)
            refine wpAnyH_take (i := 0) (oi := ?oi27) (v := ?v27) ?hi27 (by kernel_rfl) (by kernel_rfl) (by kernel_rfl) ?hQ27 (Or.inl ⟨?hw27, ?hy27⟩) (by assumption) ?rest27
            case hi27 => (simp only [List.getElem?_toArray, List.getElem?_cons_succ, List.getElem?_cons_zero]; rfl)
            case hQ27 => exact fun _ _ _ h => h
            case hw27 => rfl
            case hy27 => (intro w hSw; (try dsimp only at hSw); go_simp; try with_reducible rfl)
            (try simp only [Act.put, List.setIfInBounds_toArray, List.set_cons_zero, List.set_cons_succ])
            refine wpAnyH_ready (rs := [1]) (by kernel_rfl) (by simp) ?_
            refine AllReadyH.cons (o := ?o28) ?ho28 (fun K hK => ?st28) AllReadyH.nil
            case ho28 => (simp only [List.getElem?_toArray, List.getElem?_cons_succ, List.getElem?_cons_zero]; rfl)
            go_simp
            refine (HG.out _).mono ?_; rintro e w2 ⟨rfl, hb2⟩
            refine hK.out _ _ ?_ (fun hHeld => ?_)
            · (try dsimp only); exact HK.out _ _ hHeld hb2
            clear hK K
            (try simp only [Act.put, List.setIfInBounds_toArray, List.set_cons_zero, List.set_cons_succ])
            refine wpAnyH_take (i := 2) (oi := ?oi29) (v := ?v29) ?hi29 (by kernel_rfl) (by kernel_rfl) (by kernel_rfl) ?hQ29 (Or.inl ⟨?hw29, ?hy29⟩) (by assumption) ?rest29
            case hi29 => (simp only [List.getElem?_toArray, List.getElem?_cons_succ, List.getElem?_cons_zero]; rfl)
            case hQ29 => exact fun _ _ _ h => h
            case hw29 => rfl
            case hy29 => (intro w hSw; (try dsimp only at hSw); go_simp; try with_reducible rfl)
            (try simp only [Act.put, List.setIfInBounds_toArray, List.set_cons_zero, List.set_cons_succ])
            refine wpAnyH_take (i := 3) (oi := ?oi30) (v := ?v30) ?hi30 (by kernel_rfl) (by kernel_rfl) (by kernel_rfl) ?hQ30 (Or.inl ⟨?hw30, ?hy30⟩) (by assumption) ?rest30
            case hi30 => (simp only [List.getElem?_toArray, List.getElem?_cons_succ, List.getElem?_cons_zero]; rfl)
            case hQ30 => exact fun _ _ _ h => h
            case hw30 => rfl
            case hy30 => (intro w hSw; (try dsimp only at hSw); go_simp; try with_reducible rfl)
            (try simp only [Act.put, List.setIfInBounds_toArray, List.set_cons_zero, List.set_cons_succ])
            refine wpAnyH_take (i := 4) (oi := ?oi31) (v := ?v31) ?hi31 (by kernel_rfl) (by kernel_rfl) (by kernel_rfl) ?hQ31 (Or.inl ⟨?hw31, ?hy31⟩) (by assumption) ?rest31
            case hi31 => (simp only [List.getElem?_toArray, List.getElem?_cons_succ, List.getElem?_cons_zero]; rfl)
            case hQ31 => exact fun _ _ _ h => h
            case hw31 => rfl
            case hy31 => (intro w hSw; (try dsimp only at hSw); go_simp; try with_reducible rfl)
            (try simp only [Act.put, List.setIfInBounds_toArray, List.set_cons_zero, List.set_cons_succ])
            refine wpAnyH_take (i := 5) (oi := ?oi32) (v := ?v32) ?hi32 (by kernel_rfl) (by kernel_rfl) (by kernel_rfl) ?hQ32 (Or.inl ⟨?hw32, ?hy32⟩) (by assumption) ?rest32
            case hi32 => (simp only [List.getElem?_toArray, List.getElem?_cons_succ, List.getElem?_cons_zero]; rfl)
            case hQ32 => exact fun _ _ _ h => h
            case hw32 => rfl
            case hy32 => (intro w hSw; (try dsimp only at hSw); go_simp; try with_reducible rfl)
            (try simp only [Act.put, List.setIfInBounds_toArray, List.set_cons_zero, List.set_cons_succ])
            refine wpAnyH_take (i := 6) (oi := ?oi33) (v := ?v33) ?hi33 (by kernel_rfl) (by kernel_rfl) (by kernel_rfl) ?hQ33 (Or.inl ⟨?hw33, ?hy33⟩) (by assumption) ?rest33
            case hi33 => (simp only [List.getElem?_toArray, List.getElem?_cons_succ, List.getElem?_cons_zero]; rfl)
            case hQ33 => exact fun _ _ _ h => h
            case hw33 => rfl
            case hy33 => (intro w hSw; (try dsimp only at hSw); go_simp; try with_reducible rfl)
            (try simp only [Act.put, List.setIfInBounds_toArray, List.set_cons_zero, List.set_cons_succ])
            refine wpAnyH_take (i := 7) (oi := ?oi34) (v := ?v34) ?hi34 (by kernel_rfl) (by kernel_rfl) (by kernel_rfl) ?hQ34 (Or.inl ⟨?hw34, ?hy34⟩) (by assumption) ?rest34
            case hi34 => (simp only [List.getElem?_toArray, List.getElem?_cons_succ, List.getElem?_cons_zero]; rfl)
            case hQ34 => exact fun _ _ _ h => h
            case hw34 => rfl
            case hy34 => (intro w hSw; (try dsimp only at hSw); go_simp; try with_reducible rfl)
            (try simp only [Act.put, List.setIfInBounds_toArray, List.set_cons_zero, List.set_cons_succ])
            refine wpAnyH_take (i := 8) (oi := ?oi35) (v := ?v35) ?hi35 (by kernel_rfl) (by kernel_rfl) (by kernel_rfl) ?hQ35 (Or.inl ⟨?hw35, ?hy35⟩) (by assumption) ?rest35
            case hi35 => (simp only [List.getElem?_toArray, List.getElem?_cons_succ, List.getElem?_cons_zero]; rfl)
            case hQ35 => exact fun _ _ _ h => h
            case hw35 => rfl
            case hy35 => (intro w hSw; (try dsimp only at hSw); go_simp; try with_reducible rfl)
            (try simp only [Act.put, List.setIfInBounds_toArray, List.set_cons_zero, List.set_cons_succ])
            refine wpAnyH_take (i := 9) (oi := ?oi36) (v := ?v36) ?hi36 (by kernel_rfl) (by kernel_rfl) (by kernel_rfl) ?hQ36 (Or.inl ⟨?hw36, ?hy36⟩) (by assumption) ?rest36
            case hi36 => (simp only [List.getElem?_toArray, List.getElem?_cons_succ, List.getElem?_cons_zero]; rfl)
            case hQ36 => exact fun _ _ _ h => h
            case hw36 => rfl
            case hy36 => (intro w hSw; (try dsimp only at hSw); go_simp; try with_reducible rfl)
            (try simp only [Act.put, List.setIfInBounds_toArray, List.set_cons_zero, List.set_cons_succ])
            refine wpAnyH_take (i := 10) (oi := ?oi37) (v := ?v37) ?hi37 (by kernel_rfl) (by kernel_rfl) (by kernel_rfl) ?hQ37 (Or.inl ⟨?hw37, ?hy37⟩) (by assumption) ?rest37
            case hi37 => (simp only [List.getElem?_toArray, List.getElem?_cons_succ, List.getElem?_cons_zero]; rfl)
            case hQ37 => exact fun _ _ _ h => h
            case hw37 => rfl
            case hy37 => (intro w hSw; (try dsimp only at hSw); go_simp; try with_reducible rfl)
            (try simp only [Act.put, List.setIfInBounds_toArray, List.set_cons_zero, List.set_cons_succ])
            refine wpAnyH_take (i := 11) (oi := ?oi38) (v := ?v38) ?hi38 (by kernel_rfl) (by kernel_rfl) (by kernel_rfl) ?hQ38 (Or.inl ⟨?hw38, ?hy38⟩) (by assumption) ?rest38
            case hi38 => (simp only [List.getElem?_toArray, List.getElem?_cons_succ, List.getElem?_cons_zero]; rfl)
            case hQ38 => exact fun _ _ _ h => h
            case hw38 => rfl
            case hy38 => (intro w hSw; (try dsimp only at hSw); go_simp; try with_reducible rfl)
            (try simp only [Act.put, List.setIfInBounds_toArray, List.set_cons_zero, List.set_cons_succ])
            refine wpAnyH_take (i := 12) (oi := ?oi39) (v := ?v39) ?hi39 (by kernel_rfl) (by kernel_rfl) (by kernel_rfl) ?hQ39 (Or.inl ⟨?hw39, ?hy39⟩) (by assumption) ?rest39
            case hi39 => (simp only [List.getElem?_toArray, List.getElem?_cons_succ, List.getElem?_cons_zero]; rfl)
            case hQ39 => exact fun _ _ _ h => h
            case hw39 => rfl
            case hy39 => (intro w hSw; (try dsimp only at hSw); go_simp; try with_reducible rfl)
            (try simp only [Act.put, List.setIfInBounds_toArray, List.set_cons_zero, List.set_cons_succ])
            refine wpAnyH_done (by kernel_rfl) ?_ _
            go_wp2_with fail
            go_roundw
            case rel => exact ⟨k + 1, by omega, by go_num, HALL.out, hHeld.1⟩
            case measure => simp [intOf]; omega
      · have HF := Lib.hid (HALLF.out fun j hj hj' => hall j hj hj' (by omega))
        have hkl : k = vs.length := by omega
        have hkf : ¬ (k : Int) < (fs.length : Int) := by rw [HL.out]; omega
        have hkv : ¬ (k : Int) < (vs.length : Int) := by omega
        clear hall hkl
        go_wp2
        go_ret
        exact ⟨ret_bool HF.out.symm, hb⟩
  · have hne : ((vs.length : Int) != (fs.length : Int)) = true := by simp; omega
    have HNO := Lib.hid (fit_len fs vs hl)
    clear hl
    go_enter Try.func12, Try.ntmps12
    go_wp2
    go_ret
    exact ⟨ret_bool HNO.out.symm, Below.refl _ _⟩
end Go.Proofs.Ytkhpgejammgolaa

/- Layer 5: Eval, by the program. -/
namespace Go.Proofs.Ytkhpgejammgolaa
open Go.RowKit
set_option linter.unusedVariables false
set_option linter.unusedSimpArgs false
set_option maxRecDepth 20000

/-- 5.2, a NaN's bits settled -/
def evalP (e : Ex) (fs : List Fd) (vs : List Vl) : Vl × Int := if (checkX e fs).2 ≠ 0 then (vZero, (checkX e fs).2) else if fitX fs vs = true then endV (evX 6 e fs vs) else (vZero, 1)
set_option maxHeartbeats 1000000 in
theorem Eval_any (FA : Option Addr) (FC : Nat) (fs : List Fd) (VA : Option Addr) (VC : Nat) (vs : List Vl) (D : Nat) (e : Ex) (A : Option Addr) (c : Nat) (w : World) (hx : ExK w D A c e) (hf : FdK w FA FC fs) (hv : VlK w VA VC vs) (hok : okX 6 e) (hvs : ∀ v ∈ vs, okV v) :
    Calls Try.prog 5 #[agX e.op A e.kids.length c e.name e.val, .slice FA fs.length FC, .slice VA vs.length VC] w (VMk (pairVE (evalP e fs vs).1 (evalP e fs vs).2) w) := by
  have hsf := fun (w : World) (a : Addr) (m : Mode) (b : Nat) => run_store Try.prog w a (.float .f64 b) m rfl
  have hc : ∀ W, Below w.heap.size w W → Calls Try.prog 11 #[agX e.op A e.kids.length c e.name e.val, .slice FA fs.length FC] W (VMk (pairII (checkX e fs)) W) := fun W hb => eCheck_any FA FC fs D e A c W (hx.below hb (Nat.le_refl _)) (hf.below hb (Nat.le_refl _))
  have hfit : ∀ W, Below w.heap.size w W → Calls Try.prog 12 #[.slice VA vs.length VC, .slice FA fs.length FC] W (VMk (.bool (fitX fs vs)) W) := fun W hb => fit_prog FA FC fs VA VC vs W (hf.below hb (Nat.le_refl _)) (hv.below hb (Nat.le_refl _))
  have hrk : (checkX e fs).2 = 0 → fitX fs vs = true → ∀ W, Below w.heap.size w W → Calls Try.prog 13 #[agR FA fs.length FC VA vs.length VC, agX e.op A e.kids.length c e.name e.val] W (VMk (pairVE (endV (evX 6 e fs vs)).1 (endV (evX 6 e fs vs)).2) W) := fun h0 hft W hb => by
    have hsm : smallX e = true := by
      cases hs : smallX e with
      | true => rfl
      | false =>
        have : checkX e fs = (0, 51) := by unfold checkX; rw [hs]; rfl
        rw [this] at h0; exact absurd h0 (by decide)
    have hck : chkX 6 e fs = ((chkX 6 e fs).1, 0) := by
      have : checkX e fs = chkX 6 e fs := by unfold checkX; rw [hsm]; rfl
      rw [this] at h0
      exact pair_of h0
    have hdp := ((smallX_iff e).1 hsm).1
    have hsd := ev_sound fs vs hft hvs 6 e _ hok hdp hck
    exact reckon_any FA fs.length FC VA vs.length VC e.op A e.kids.length c e.name e.val W (evX 6 e fs vs) (fun h => ⟨(snd_ok hsd h).1, (snd_ok hsd h).2.1⟩) (fun W' hb' => tell_any FA FC fs VA VC vs hft hvs D 6 e A c _ W' (hx.below (hb.trans (hb'.mono hb.size)) (Nat.le_refl _)) (hf.below (hb.trans (hb'.mono hb.size)) (Nat.le_refl _)) (hv.below (hb.trans (hb'.mono hb.size)) (Nat.le_refl _)) hok hdp hck)
  have hev : evalP e fs vs = if (checkX e fs).2 ≠ 0 then (vZero, (checkX e fs).2) else if fitX fs vs = true then endV (evX 6 e fs vs) else (vZero, 1) := rfl
  rw [hev]
  clear hev hx hf hv hok hvs
  generalize endV (evX 6 e fs vs) = r at hrk ⊢
  generalize checkX e fs = ck at hc hrk ⊢
  generalize fitX fs vs = ft at hfit hrk ⊢
  generalize e.kids.length = n at *
  generalize e.op = eop at *
  generalize e.name = enm at *
  generalize e.val = ev at *
  obtain ⟨ck1, ck2⟩ := ck
  have HC := Lib.hid hc
  have HF := Lib.hid hfit
  clear hc hfit
  by_cases h0 : ck2 = 0
  · subst h0
    rw [if_neg (fun h => h rfl)]
    rcases ft with _ | _
    · rw [if_neg (by decide)]
      clear hrk
      go_enter Try.func5, Try.ntmps5
      go_wp2_with (first
        | (go_at_call 11; refine (HC.out _ (vbox2 w _ _)).mono ?_; rintro e w1 ⟨rfl, hb1⟩; have B1 : Below w.heap.size w w1 := (vbox2 w _ _).trans (hb1.mono (by simp; omega)); have hz : w.heap.size + 1 < w1.heap.size := by { have := hb1.size; simp at this; omega }; obtain ⟨hc1, hf1⟩ := bcell hb1)
        | (go_at_call 12; refine (HF.out _ B1).mono ?_; rintro e w2 ⟨rfl, hb2⟩; obtain ⟨hc2, hf2⟩ := bcell hb2; have hz2 : w.heap.size + 1 < w2.heap.size := by { have := hb2.size; omega }))
      exact bodyPost_ret (v := pairVE vZero 1) (by simp [results, Try.results5, go_sem, hc1, hc2, hz, hz2]) rfl ⟨rfl, vbox2_set w _ _ hb1 hb2 _ _ _ _ _⟩
    · rw [if_pos rfl]
      have hrk := hrk rfl rfl
      have HR := Lib.hid hrk
      clear hrk
      obtain ⟨r1, r2⟩ := r
      have hbx := (Kid_new w eop A n c enm ev).below (alloc1 _ (.cells #[.int .i64 0, .int .i64 0, .bool false, .string { data := #[] }, .float .f64 0] 25))
      have HBX := Lib.hid hbx
      clear hbx
      go_enter Try.func5, Try.ntmps5
      go_wp2_with (first
        | (go_at_call 11; refine (HC.out _ (vbox2 w _ _)).mono ?_; rintro e w1 ⟨rfl, hb1⟩; have B1 : Below w.heap.size w w1 := (vbox2 w _ _).trans (hb1.mono (by simp; omega)); have hz : w.heap.size + 1 < w1.heap.size := by { have := hb1.size; simp at this; omega }; have HB1 := Lib.hid (HBX.out.below hb1); obtain ⟨hc1, hf1⟩ := bcell hb1)
        | (go_at_call 12; refine (HF.out _ B1).mono ?_; rintro e w2 ⟨rfl, hb2⟩; have B2 : Below w.heap.size w w2 := B1.trans (hb2.mono B1.size); obtain ⟨d0, d1, d2, d3, d4, d5, d6, d7⟩ := HB1.out.below hb2; obtain ⟨hc2, hf2⟩ := bcell hb2; have hz2 : w.heap.size + 1 < w2.heap.size := by { have := hb2.size; omega })
        | (go_at_call 13; refine (HR.out _ B2).mono ?_; rintro e w3 ⟨rfl, hb3⟩; obtain ⟨hc3, hf3⟩ := bcell hb3; have hz3 : w.heap.size + 1 < w3.heap.size := by { have := hb3.size; omega }))
      exact bodyPost_ret (v := pairVE r1 r2) (by simp [results, Try.results5, go_sem, hc1, hc2, hc3, hz, hz2, hz3]) rfl ⟨rfl, below_set5 (B2.trans (hb3.mono B2.size)) (by omega) _ _ _ _ _⟩
  · rw [if_pos h0]
    have hne : (ck2 != 0) = true := by simpa using h0
    clear hrk h0
    go_enter Try.func5, Try.ntmps5
    go_wp2_with (first
      | (go_at_call 11; refine (HC.out _ (vbox2 w _ _)).mono ?_; rintro e w1 ⟨rfl, hb1⟩; obtain ⟨hc1, hf1⟩ := bcell hb1; have hz : w.heap.size + 1 < w1.heap.size := by { have := hb1.size; simp at this; omega }))
    exact bodyPost_ret (v := pairVE vZero ck2) (by simp [results, Try.results5, go_sem, hc1, hz]) rfl ⟨rfl, vbox2_set w _ _ hb1 (Below.refl _ _) _ _ _ _ _⟩
end Go.Proofs.Ytkhpgejammgolaa

/- Layer 5: what the laws begin with. -/
namespace Go.Proofs.Ytkhpgejammgolaa
open Go.RowKit
set_option linter.unusedVariables false
set_option linter.unusedSimpArgs false
set_option maxRecDepth 20000

theorem con_any (v : Vl) (w : World) : Calls Try.prog 16 #[agV v] w (VMk (agX 1 none 0 0 ⟨#[]⟩ v) w) := by
  have hsf := fun (w : World) (a : Addr) (m : Mode) (b : Nat) => run_store Try.prog w a (.float .f64 b) m rfl
  go_enter Try.func16, Try.ntmps16
  go_wp2
  exact bodyPost_ret (v := agX 1 none 0 0 ⟨#[]⟩ v) (by simp [results, Try.results16, go_sem]) rfl ⟨rfl, vbox2 w _ _⟩
theorem op_any (o : Int) (A : Option Addr) (n c : Nat) (w : World) : Calls Try.prog 18 #[.int .i64 o, .slice A n c] w (VMk (agX o A n c ⟨#[]⟩ vZero) w) := by
  have hsf := fun (w : World) (a : Addr) (m : Mode) (b : Nat) => run_store Try.prog w a (.float .f64 b) m rfl
  go_enter Try.func18, Try.ntmps18
  go_wp2
  exact bodyPost_ret (v := agX o A n c ⟨#[]⟩ vZero) (by simp [results, Try.results18, go_sem]) rfl ⟨rfl, (Below.refl _ _).alloc (Nat.le_refl _) _⟩

/-- few says no, or few -/
def FewP (fs : List Fd) (vs : List Vl) (w : World) (e : Ending) (w' : World) : Prop := ∃ b, e = .returned (.bool b) ∧ Below w.heap.size w w' ∧ (b = true → fs.length ≤ 20 ∧ vs.length ≤ 20 ∧ (∀ (j : Nat) (hj : j < fs.length), fs[j].name.size ≤ 200) ∧ (∀ (j : Nat) (hj : j < vs.length), vs[j].s.size ≤ 200))
set_option maxHeartbeats 1000000 in
theorem few5_any (FA : Option Addr) (FC : Nat) (fs : List Fd) (VA : Option Addr) (VC : Nat) (vs : List Vl) (w : World) (hf : FdK w FA FC fs) (hv : VlK w VA VC vs) :
    Calls Try.prog 4 #[.agg #[.slice FA fs.length FC, .slice VA vs.length VC]] w (FewP fs vs w) := by
  obtain ⟨-, -, -, f4⟩ := hf
  obtain ⟨-, -, -, v4⟩ := hv
  have hb0 : ∀ o, Below w.heap.size w (w.alloc o) := fun o => (Below.refl _ _).alloc (Nat.le_refl _) _
  have hF : ∀ (j : Nat) (hj : j < fs.length), ∃ ad, FA = some ad ∧ ∀ o, (w.alloc o).cell? (ad.add (j * 8)) = some (.string fs[j].name) := fun j hj => by
    obtain ⟨ad, A', n', c', y, h1, h2, h3⟩ := f4 j hj
    exact ⟨ad, h1, fun o => (h3.below (hb0 o) (by rw [block_add]; exact h2)).1⟩
  have hV : ∀ (j : Nat) (hj : j < vs.length), ∃ ad, VA = some ad ∧ ∀ o, (w.alloc o).cell? ⟨(ad.add (j * 5)).block, (ad.add (j * 5)).off + 3, none⟩ = some (.string vs[j].s) := fun j hj => by
    obtain ⟨ad, h1, h2, h3⟩ := v4 j hj
    exact ⟨ad, h1, fun o => (h3.below (hb0 o) (by rw [block_add]; exact h2)).2.2.2.1⟩
  have F4 := Lib.hid hF
  have V4 := Lib.hid hV
  clear hF hV
  clear f4 v4
  by_cases hl : fs.length ≤ 20 ∧ vs.length ≤ 20
  · have hl1 : ¬ (20 : Int) < (fs.length : Int) := by omega
    have hl2 : ¬ (20 : Int) < (vs.length : Int) := by omega
    have hd1 : decide ((20 : Int) < (fs.length : Int)) = false := decide_eq_false hl1
    have HL := Lib.hid hl
    have hfl : fs.length ≤ 9223372036854775807 := by omega
    have hvl : vs.length ≤ 9223372036854775807 := by omega
    clear hl
    go_enter Try.func4, Try.ntmps4
    go_wp2
    go_loop [3] (fun i => ∃ k : Nat, k ≤ fs.length ∧ i = .int .i64 k ∧ ∀ (j : Nat) (hj : j < fs.length), j < k → fs[j].name.size ≤ 200) (fun i => fs.length - (intOf i).toNat)
    case atStart => exact ⟨0, Nat.zero_le _, rfl, fun j hj h => absurd h (Nat.not_lt_zero _)⟩
    case round =>
      obtain ⟨k, hk, rfl, hall⟩ := hrel
      have HALL := Lib.hid hall
      clear hall
      by_cases hlt : k < fs.length
      · obtain ⟨ad, rfl, hcell⟩ := F4.out k hlt
        have hltI : (k : Int) < (fs.length : Int) := by omega
        by_cases hb : fs[k].name.size ≤ 200
        · have hbI : ¬ (200 : Int) < (fs[k].name.size : Int) := by omega
          have HN := Lib.hid (show ∀ (j : Nat) (hj : j < fs.length), j < k + 1 → fs[j].name.size ≤ 200 from fun j hj h => by
            by_cases e : j < k
            · exact HALL.out j hj e
            · obtain rfl : j = k := by omega
              exact hb)
          clear hb
          go_wp2
          go_round
          case rel => exact ⟨k + 1, by omega, by go_num, HN.out⟩
          case measure => simp [intOf]; omega
        · have hbI : (200 : Int) < (fs[k].name.size : Int) := by omega
          clear hb
          go_wp2
          go_ret
          exact ⟨false, rfl, hb0 _, fun h => by cases h⟩
      · have hnI : ¬ (k : Int) < (fs.length : Int) := by omega
        have HNM := Lib.hid (show ∀ (j : Nat) (hj : j < fs.length), fs[j].name.size ≤ 200 from fun j hj => HALL.out j hj (by omega))
        clear HALL F4
        go_wp2
        go_loop [4] (fun i => ∃ k : Nat, k ≤ vs.length ∧ i = .int .i64 k ∧ ∀ (j : Nat) (hj : j < vs.length), j < k → vs[j].s.size ≤ 200) (fun i => vs.length - (intOf i).toNat)
        case atStart => exact ⟨0, Nat.zero_le _, rfl, fun j hj h => absurd h (Nat.not_lt_zero _)⟩
        case round =>
          obtain ⟨m, hm, rfl, hall⟩ := hrel
          have HALL := Lib.hid hall
          clear hall
          by_cases hlt2 : m < vs.length
          · obtain ⟨ad, rfl, hcell⟩ := V4.out m hlt2
            have hltI : (m : Int) < (vs.length : Int) := by omega
            by_cases hb : vs[m].s.size ≤ 200
            · have hbI : ¬ (200 : Int) < (vs[m].s.size : Int) := by omega
              have HN := Lib.hid (show ∀ (j : Nat) (hj : j < vs.length), j < m + 1 → vs[j].s.size ≤ 200 from fun j hj h => by
                by_cases e : j < m
                · exact HALL.out j hj e
                · obtain rfl : j = m := by omega
                  exact hb)
              clear hb
              go_wp2
              go_round
              case rel => exact ⟨m + 1, by omega, by go_num, HN.out⟩
              case measure => simp [intOf]; omega
            · have hbI : (200 : Int) < (vs[m].s.size : Int) := by omega
              clear hb
              go_wp2
              go_ret
              exact ⟨false, rfl, hb0 _, fun h => by cases h⟩
          · have hnI2 : ¬ (m : Int) < (vs.length : Int) := by omega
            have HVM := Lib.hid (show ∀ (j : Nat) (hj : j < vs.length), vs[j].s.size ≤ 200 from fun j hj => HALL.out j hj (by omega))
            clear HALL V4
            go_wp2
            go_ret
            exact ⟨true, rfl, hb0 _, fun _ => ⟨HL.out.1, HL.out.2, HNM.out, HVM.out⟩⟩
  · by_cases h1 : fs.length ≤ 20
    · have hl1 : ¬ (20 : Int) < (fs.length : Int) := by omega
      have hd1 : decide ((20 : Int) < (fs.length : Int)) = false := decide_eq_false hl1
      have hl2 : (20 : Int) < (vs.length : Int) := by omega
      clear hl
      go_enter Try.func4, Try.ntmps4
      go_wp2
      go_ret
      exact ⟨false, rfl, hb0 _, fun h => by cases h⟩
    · have hl1 : (20 : Int) < (fs.length : Int) := by omega
      clear hl
      go_enter Try.func4, Try.ntmps4
      go_wp2
      go_ret
      exact ⟨false, rfl, hb0 _, fun h => by cases h⟩
end Go.Proofs.Ytkhpgejammgolaa

/- Layer 5: chapter 5's examples by definition; expressions that are built. -/
namespace Go.Proofs.Ytkhpgejammgolaa
open Go.RowKit
set_option linter.unusedVariables false
set_option linter.unusedSimpArgs false
set_option maxRecDepth 20000

def fA : Ex := .mk 2 ⟨#[97]⟩ vZero []
def fsA : List Fd := [⟨⟨#[97]⟩, 1⟩]
theorem find_a : findX ⟨#[97]⟩ fsA 0 = 0 := by
  unfold findX fsA
  exact if_pos (beq_self_eq_true _)
theorem form_a : formB fA = true := by
  unfold formB
  rw [show fA.op = 2 from rfl, show fA.val = vZero from rfl, show fA.kids = [] from rfl, show sameV vZero vZero = true from same_zero]
  rfl
theorem chk_a (d : Nat) : chkX (d + 1) fA fsA = (1, 0) := by
  show kindX fA [] fsA = (1, 0)
  rw [kindX_field fA [] fsA form_a rfl]
  unfold fieldX
  rw [show fA.name = ⟨#[97]⟩ from rfl, find_a]
  rfl
theorem ev_a (d : Nat) (v : Vl) : evX (d + 1) fA fsA [v] = (v, 0) := by
  rw [evX, if_neg (show ¬ fA.op = 1 by decide), if_pos (show fA.op = 2 from rfl), show fA.name = ⟨#[97]⟩ from rfl, find_a]
  rfl
theorem fit_a : fitX fsA [vInt 2] = true := fit_all fsA [vInt 2] rfl (fun j hj hj' => by
  have : j = 0 := by have : j < 1 := hj; omega
  subst this
  show (goodV (vInt 2) && ((1 : Int) == 1)) = true
  rw [good_int]; rfl)
theorem sm_1 : smallX (opX 4 [fA, conX (vInt 1)]) = true := rfl
theorem sm_2 : smallX (opX 9 [fA, conX (vNum 4609434218613702656)]) = true := rfl
theorem sm_3 : smallX (opX 10 [conX (vTruth false), nought]) = true := rfl
theorem sm_4 : smallX (opX 7 [conX (vInt 1), conX (vInt 0)]) = true := rfl
theorem ck_1 : checkX (opX 4 [fA, conX (vInt 1)]) fsA = (1, 0) := by
  unfold checkX
  rw [sm_1, if_pos rfl]
  refine chk_op (d := 5) (chkL_cons (chk_a 4) (chkL_cons (chk_con 4 _ fsA (good_int 1)) rfl)) ?_
  unfold kindX
  rw [if_neg (form_op (by decide))]
  rfl
theorem ck_2 : checkX (opX 9 [fA, conX (vNum 4609434218613702656)]) fsA = (0, 40) := by
  unfold checkX
  rw [sm_2, if_pos rfl]
  refine chk_op (d := 5) (chkL_cons (chk_a 4) (chkL_cons (chk_con 4 _ fsA (good_num _)) rfl)) ?_
  unfold kindX
  rw [if_neg (form_op (by decide))]
  rfl
theorem ck_3 : checkX (opX 10 [conX (vTruth false), nought]) [] = (2, 0) := by
  unfold checkX
  rw [sm_3, if_pos rfl]
  refine chk_op (d := 5) (chkL_cons (chk_con 4 _ [] (good_truth false)) (chkL_cons (chk_nought 2 []) rfl)) ?_
  exact kind_or _ 10 [] (.inl rfl) rfl
theorem ck_4 : checkX (opX 7 [conX (vInt 1), conX (vInt 0)]) [] = (1, 0) := by
  unfold checkX
  rw [sm_4, if_pos rfl]
  exact chk_op (d := 5) (chkL_cons (chk_con 4 _ [] (good_int 1)) (chkL_cons (chk_con 4 _ [] (good_int 0)) rfl)) (kind_div [])
theorem aw_1 : evalP (opX 4 [fA, conX (vInt 1)]) fsA [vInt 2] = (vInt 3, 0) := by
  unfold evalP
  rw [ck_1, if_neg (fun h => h rfl), fit_a, if_pos rfl, evX_two (e := opX 4 [fA, conX (vInt 1)]) rfl (.inl rfl), ev_a, ev_con, if_neg (fun h => h rfl), if_neg (fun h => h rfl), if_neg (by decide), if_neg (by decide)]
  have : reckV 4 (vInt 2) (vInt 1) = (vInt 3, 0) := by unfold reckV; rw [like_int]; rfl
  show endV (reckV 4 (vInt 2) (vInt 1)) = _
  rw [this]; rfl
theorem aw_3 : evalP (opX 10 [conX (vTruth false), nought]) [] [] = (vTruth false, 0) := by
  unfold evalP
  rw [ck_3, if_neg (fun h => h rfl), show fitX [] [] = true from rfl, if_pos rfl, evX_lazy (e := opX 10 [conX (vTruth false), nought]) rfl (.inl rfl), ev_con, if_neg (fun h => h rfl)]
  rfl
theorem aw_4 : evalP (opX 7 [conX (vInt 1), conX (vInt 0)]) [] [] = (vZero, 42) := by
  unfold evalP
  rw [ck_4, if_neg (fun h => h rfl), show fitX [] [] = true from rfl, if_pos rfl, evX_two (e := opX 7 [conX (vInt 1), conX (vInt 0)]) rfl (by decide), ev_con, ev_con, if_neg (fun h => h rfl), if_neg (fun h => h rfl), if_neg (by decide), if_neg (by decide)]
  show endV (reckV 7 (vInt 1) (vInt 0)) = _
  rw [ex6]; rfl
theorem aw_2 : checkX (opX 9 [fA, conX (vNum 4609434218613702656)]) fsA = (0, 40) := ck_2

/-! in memory -/
/-- e lies there to some depth -/
def ExE (w : World) (A : Option Addr) (c : Nat) (e : Ex) : Prop := ∃ D, ExK w D A c e
theorem ExK.more {w : World} : ∀ {D : Nat} {A : Option Addr} {c : Nat} {e : Ex}, ExK w D A c e → ExK w (D + 1) A c e
  | 0, _, _, _, h => False.elim h
  | D + 1, A, c, e, h => by
    obtain ⟨h1, h2, h3, h4⟩ := h
    refine ⟨h1, h2, h3, fun j hj => ?_⟩
    obtain ⟨ad, A', c', e1, e2, e3, e4⟩ := h4 j hj
    exact ⟨ad, A', c', e1, e2, e3, ExK.more e4⟩
theorem ExK.upto {w : World} {D : Nat} {A : Option Addr} {c : Nat} {e : Ex} (h : ExK w D A c e) : ∀ n, ExK w (D + n) A c e
  | 0 => h
  | n + 1 => (ExK.upto h n).more
theorem ExE.below {w w' : World} {A : Option Addr} {c : Nat} {e : Ex} (h : ExE w A c e) (hb : Below w.heap.size w w') : ExE w' A c e := let ⟨D, h⟩ := h; ⟨D, h.below hb (Nat.le_refl _)⟩
theorem ExE.leaf (w : World) (e : Ex) (h : e.kids = []) : ExE w none 0 e := ⟨1, ExK.leaf w 0 e h⟩
/-- eight cells of a row from cell i on -/
theorem kid_row (w : World) (g i : Nat) (cs : Array Value) (t : TypeId) (h : w.heap[g]? = some (.cells cs t (0, 0))) (op : Int) (A : Option Addr) (n c : Nat) (nm : ByteArray) (y : Vl)
    (h0 : cs[i]? = some (.int .i64 op)) (h1 : cs[i + 1]? = some (.slice A n c)) (h2 : cs[i + 2]? = some (.string nm)) (h3 : cs[i + 3]? = some (.int .i64 y.k)) (h4 : cs[i + 4]? = some (.int .i64 y.i)) (h5 : cs[i + 5]? = some (.bool y.b)) (h6 : cs[i + 6]? = some (.string y.s)) (h7 : cs[i + 7]? = some (.float .f64 y.n)) :
    Kid w ⟨g, i, none⟩ op A n c nm y :=
  ⟨(cell_of_row w g _ _ _ (0, 0) h).trans h0, (cell_of_row w g _ _ _ (0, 0) h).trans h1, (cell_of_row w g _ _ _ (0, 0) h).trans h2, (cell_of_row w g _ _ _ (0, 0) h).trans h3, (cell_of_row w g _ _ _ (0, 0) h).trans h4, (cell_of_row w g _ _ _ (0, 0) h).trans h5, (cell_of_row w g _ _ _ (0, 0) h).trans h6, (cell_of_row w g _ _ _ (0, 0) h).trans h7⟩
/-- two kids laid in a new row -/
abbrev row2 (p0 : Int) (A0 : Option Addr) (n0 c0 : Nat) (m0 : ByteArray) (y0 : Vl) (p1 : Int) (A1 : Option Addr) (n1 c1 : Nat) (m1 : ByteArray) (y1 : Vl) : Obj :=
  .cells #[.int .i64 p0, .slice A0 n0 c0, .string m0, .int .i64 y0.k, .int .i64 y0.i, .bool y0.b, .string y0.s, .float .f64 y0.n, .int .i64 p1, .slice A1 n1 c1, .string m1, .int .i64 y1.k, .int .i64 y1.i, .bool y1.b, .string y1.s, .float .f64 y1.n] 27
theorem ExE.two {w : World} {A0 A1 : Option Addr} {c0 c1 : Nat} {e0 e1 : Ex} (o : Int) (h0 : ExE w A0 c0 e0) (h1 : ExE w A1 c1 e1) :
    ExE (w.alloc (row2 e0.op A0 e0.kids.length c0 e0.name e0.val e1.op A1 e1.kids.length c1 e1.name e1.val)) (some ⟨w.heap.size, 0, none⟩) 2 (opX o [e0, e1]) := by
  obtain ⟨D0, h0⟩ := h0
  obtain ⟨D1, h1⟩ := h1
  have hn := heap_alloc_new w (row2 e0.op A0 e0.kids.length c0 e0.name e0.val e1.op A1 e1.kids.length c1 e1.name e1.val)
  have hb : Below w.heap.size w (w.alloc (row2 e0.op A0 e0.kids.length c0 e0.name e0.val e1.op A1 e1.kids.length c1 e1.name e1.val)) := alloc1 _ _
  have g0 := (h0.upto D1).below hb (Nat.le_refl _)
  have g1 := (h1.upto D0).below hb (Nat.le_refl _)
  rw [Nat.add_comm] at g1
  refine ⟨D0 + D1 + 1, Nat.le_refl _, by unfold maxLen; show 2 ≤ 2 ^ 63 - 1; omega, fun h => (by cases h), fun j hj => ?_⟩
  have hj2 : j < 2 := hj
  match j, hj2 with
  | 0, _ => exact ⟨_, A0, c0, rfl, by simp, by rw [Addr.add_lit]; exact kid_row _ _ _ _ _ hn _ _ _ _ _ _ rfl rfl rfl rfl rfl rfl rfl rfl, g0⟩
  | 1, _ => exact ⟨_, A1, c1, rfl, by simp, by rw [Addr.add_lit]; exact kid_row _ _ _ _ _ hn _ _ _ _ _ _ rfl rfl rfl rfl rfl rfl rfl rfl, g1⟩
theorem fdk_one (w : World) (nm : ByteArray) (fk : Int) (A : Option Addr) (n c : Nat) (y : Vl) : FdK (w.alloc (.cells #[.string nm, .int .i64 fk, .slice A n c, .int .i64 y.k, .int .i64 y.i, .bool y.b, .string y.s, .float .f64 y.n] 42)) (some ⟨w.heap.size, 0, none⟩) 1 [⟨nm, fk⟩] := by
  have h := heap_alloc_new w (.cells #[.string nm, .int .i64 fk, .slice A n c, .int .i64 y.k, .int .i64 y.i, .bool y.b, .string y.s, .float .f64 y.n] 42)
  refine ⟨Nat.le_refl _, by unfold maxLen; show 1 ≤ 2 ^ 63 - 1; omega, fun h => (by cases h), fun j hj => ?_⟩
  have hj2 : j < 1 := hj
  match j, hj2 with
  | 0, _ => exact ⟨_, A, n, c, y, rfl, by simp, by rw [Addr.add_lit]; exact ⟨(cell_of_row _ _ _ _ _ (0, 0) h).trans rfl, (cell_of_row _ _ _ _ _ (0, 0) h).trans rfl, (cell_of_row _ _ _ _ _ (0, 0) h).trans rfl, (cell_of_row _ _ _ _ _ (0, 0) h).trans rfl, (cell_of_row _ _ _ _ _ (0, 0) h).trans rfl, (cell_of_row _ _ _ _ _ (0, 0) h).trans rfl, (cell_of_row _ _ _ _ _ (0, 0) h).trans rfl, (cell_of_row _ _ _ _ _ (0, 0) h).trans rfl⟩⟩
theorem vlk_one (w : World) (y : Vl) : VlK (w.alloc (.cells #[.int .i64 y.k, .int .i64 y.i, .bool y.b, .string y.s, .float .f64 y.n] 25)) (some ⟨w.heap.size, 0, none⟩) 1 [y] := by
  have h := heap_alloc_new w (.cells #[.int .i64 y.k, .int .i64 y.i, .bool y.b, .string y.s, .float .f64 y.n] 25)
  refine ⟨Nat.le_refl _, by unfold maxLen; show 1 ≤ 2 ^ 63 - 1; omega, fun h => (by cases h), fun j hj => ?_⟩
  have hj2 : j < 1 := hj
  match j, hj2 with
  | 0, _ => exact ⟨_, rfl, by simp, by rw [Addr.add_lit]; exact ⟨(cell_of_row _ _ _ _ _ (0, 0) h).trans rfl, (cell_of_row _ _ _ _ _ (0, 0) h).trans rfl, (cell_of_row _ _ _ _ _ (0, 0) h).trans rfl, (cell_of_row _ _ _ _ _ (0, 0) h).trans rfl, (cell_of_row _ _ _ _ _ (0, 0) h).trans rfl⟩⟩
theorem fdk_none (w : World) : FdK w none 0 [] := ⟨Nat.le_refl _, Nat.zero_le _, fun _ => rfl, fun j hj => absurd hj (Nat.not_lt_zero _)⟩
theorem vlk_none (w : World) : VlK w none 0 [] := ⟨Nat.le_refl _, Nat.zero_le _, fun _ => rfl, fun j hj => absurd hj (Nat.not_lt_zero _)⟩
end Go.Proofs.Ytkhpgejammgolaa

/- Layer 5: the laws' arguments, opened. -/
namespace Go.Proofs.Ytkhpgejammgolaa
open Go.RowKit Go.ChangeShapes Go.WideShapes Go.ChangeAt
set_option linter.unusedVariables false
set_option linter.unusedSimpArgs false
set_option maxRecDepth 20000

section
variable {H : Type} {enc : TypeId × Value → H} {W : World} {sp : Nat → Bool} {hd : Bool} {base : Nat} {v : Value} {d : DataW H} {ps : List MemPlace}

theorem open_expr8 : ∀ (fuel : Nat) (cs : List Value) (x : DataW H × List MemPlace), DataW.trod enc Try.prog W 0 sp hd fuel 27 cs = some x → cs.length = 8 →
    ∃ (e : Ex) (A : Option Addr) (c D : Nat), cs = [.int .i64 e.op, .slice A e.kids.length c, .string e.name, .int .i64 e.val.k, .int .i64 e.val.i, .bool e.val.b, .string e.val.s, .float .f64 e.val.n] ∧ ExK W D A c e ∧ (∀ k, okX k e) := by
  intro fuel
  induction fuel using Nat.strongRecOn with
  | _ fuel ih =>
    intro cs x ht hlen
    obtain ⟨ys, m, hm, -, -, hys, hfs⟩ := DataW.trod_struct Try.underlying27 ht
    match cs, hlen with
    | [c0, c1, c2, c3, c4, c5, c6, c7], _ =>
      match ys, hys with
      | [y0, y1, y2, y3], _ =>
        have k1 : Try.prog.cellsOf 3 = 1 := by kernel_rfl
        have k2 : Try.prog.cellsOf 22 = 1 := by kernel_rfl
        have k3 : Try.prog.cellsOf 9 = 1 := by kernel_rfl
        have k4 : Try.prog.cellsOf 25 = 5 := by kernel_rfl
        have g0 := hfs 0 _ rfl
        have g1 := hfs 1 _ rfl
        have g2 := hfs 2 _ rfl
        have g3 := hfs 3 _ rfl
        simp [k1, k2, k3, k4] at g0 g1 g2 g3
        obtain ⟨z0, e0, -, w0⟩ := DataW.trod_int Try.underlying3 g0
        obtain ⟨z2, e2, -⟩ := DataW.trod_string Try.underlying9 g2
        obtain ⟨y, e3, hy⟩ := open_value5 g3 rfl
        simp at e0 e2 e3
        obtain ⟨e3, e4, e5, e6, e7⟩ := e3
        subst e0 e2 e3 e4 e5 e6 e7
        rcases DataW.trod_slice Try.underlying22 g1 with ⟨hc, -⟩ | ⟨a, len', cap', elems, rest, n, hn, hc, -, -, hl, hmx, hel, hx, -, -⟩
        · simp at hc
          subst hc
          refine ⟨.mk z0 z2 y [], none, 0, 1, rfl, ExK.leaf W 0 _ rfl, fun k => ?_⟩
          cases k with
          | zero => trivial
          | succ k => exact ⟨hy, in64_of w0, fun k hk => by cases hk⟩
        · simp at hc
          subst hc
          have h8 : Try.prog.cellsOf 27 = 8 := by kernel_rfl
          have each : ∀ i, i < len' → ∃ (q : Ex × Option Addr × Nat × Nat), Kid W (a.add (i * 8)) q.1.op q.2.1 q.1.kids.length q.2.2.1 q.1.name q.1.val ∧ ExK W q.2.2.2 q.2.1 q.2.2.1 q.1 ∧ (∀ k, okX k q.1) := by
            intro i hi
            have h1 := hx i hi
            rw [h8, List.getElem?_eq_getElem (by omega)] at h1
            obtain ⟨cs, hcs, ht⟩ := Option.bind_eq_some_iff.1 h1
            obtain ⟨-, hlen, hat⟩ := World.cells?_some hcs
            obtain ⟨e, A, c, D, hce, hk, hok⟩ := ih n (by omega) cs _ ht hlen
            subst hce
            have e0 := hat 0 (by omega)
            have e1 := hat 1 (by omega)
            have e2 := hat 2 (by omega)
            have e3 := hat 3 (by omega)
            have e4 := hat 4 (by omega)
            have e5 := hat 5 (by omega)
            have e6 := hat 6 (by omega)
            have e7 := hat 7 (by omega)
            exact ⟨(e, A, c, D), ⟨by simpa [Addr.add_zero'] using e0, by simpa [Addr.add_succ'] using e1, by simpa [Addr.add_succ'] using e2, by simpa [Addr.add_succ'] using e3, by simpa [Addr.add_succ'] using e4, by simpa [Addr.add_succ'] using e5, by simpa [Addr.add_succ'] using e6, by simpa [Addr.add_succ'] using e7⟩, hk, hok⟩
          have inst : Inhabited (Ex × Option Addr × Nat × Nat) := ⟨(.mk 0 ⟨#[]⟩ ⟨0, 0, false, ⟨#[]⟩, 0⟩ [], none, 0, 0)⟩
          obtain ⟨f, hf⟩ := Deep.choose_lt each
          have hup : ∀ i, i < len' → ExK W (((List.range len').map fun j => (f j).2.2.2).sum) (f i).2.1 (f i).2.2.1 (f i).1 := fun i hi => by
            have hle : ∀ (l : List Nat) (j : Nat), j ∈ l → (f j).2.2.2 ≤ (l.map fun j => (f j).2.2.2).sum := by
              intro l
              induction l with
              | nil => intro j hj; cases hj
              | cons a l ih2 =>
                intro j hj
                rw [List.map_cons, List.sum_cons]
                rcases List.mem_cons.1 hj with rfl | hj
                · omega
                · have := ih2 j hj; omega
            obtain ⟨m, hm⟩ := Nat.exists_eq_add_of_le (hle (List.range len') i (List.mem_range.2 hi))
            rw [hm]
            exact ExK.upto (hf i hi).2.1 m
          refine ⟨.mk z0 z2 y ((List.range len').map fun j => (f j).1), some a, cap', ((List.range len').map fun j => (f j).2.2.2).sum + 1, ?_, ?_, fun k => ?_⟩
          · simp [Ex.kids, Ex.op, Ex.name, Ex.val]
          · refine ⟨by simpa [Ex.kids] using hl, hmx, fun h => (by cases h), fun j hj => ?_⟩
            have hjl : j < len' := by simpa [Ex.kids] using hj
            have hk := (hf j hjl).1
            refine ⟨a, (f j).2.1, (f j).2.2.1, rfl, ?_, ?_, ?_⟩
            · have := cell_lt hk.1
              rwa [block_add] at this
            · simpa [Ex.kids] using hk
            · simpa [Ex.kids] using hup j hjl
          · cases k with
            | zero => trivial
            | succ k =>
              refine ⟨hy, in64_of w0, fun x hx => ?_⟩
              obtain ⟨j, hj, rfl⟩ := List.mem_map.1 hx
              exact (hf j (List.mem_range.1 hj)).2.2 k
theorem open_expr (hv : Value.okWide Try.prog W .any base 27 v) (h : DataW.Trod enc Try.prog W 0 sp hd 27 v d ps) : ∃ (e : Ex) (A : Option Addr) (c D : Nat), v = agX e.op A e.kids.length c e.name e.val ∧ ExK W D A c e ∧ (∀ k, okX k e) := by
  obtain ⟨cs, rfl, hsz⟩ := okWide_struct Try.underlying27 hv
  obtain ⟨fuel, hf⟩ := h
  have k0 : Try.prog.cellsOf 27 = 8 := by kernel_rfl
  rw [k0] at hsz
  obtain ⟨e, A, c, D, hc, hk, hok⟩ := open_expr8 fuel _ _ hf (by simpa [Value.cells] using hsz)
  refine ⟨e, A, c, D, ?_, hk, hok⟩
  obtain ⟨l⟩ := cs
  simp [Value.cells] at hc
  rw [hc]
theorem open_fds {m : Nat} {x : DataW H × List MemPlace} {c : Value} (h : DataW.trod enc Try.prog W 0 sp hd m 28 [c] = some x) : ∃ (fs : List Fd) (A : Option Addr) (cap : Nat), c = .slice A fs.length cap ∧ FdK W A cap fs := by
  rcases DataW.trod_slice Try.underlying28 h with ⟨hc, -⟩ | ⟨a, len', cap', elems, rest, n, -, hc, -, -, hl, hm, hel, hx, -, -⟩
  · injection hc with hc
    subst hc
    exact ⟨[], none, 0, rfl, Nat.le_refl _, Nat.zero_le _, fun _ => rfl, fun j hj => absurd hj (Nat.not_lt_zero _)⟩
  · injection hc with hc
    subst hc
    have h8 : Try.prog.cellsOf 42 = 8 := by kernel_rfl
    have each : ∀ i, i < len' → ∃ (q : Fd × Option Addr × Nat × Nat × Vl), Fdp W (a.add (i * 8)) q.1.name q.1.kind q.2.1 q.2.2.1 q.2.2.2.1 q.2.2.2.2 := by
      intro i hi
      have h1 := hx i hi
      rw [h8, List.getElem?_eq_getElem (by omega)] at h1
      obtain ⟨cs, hcs, ht⟩ := Option.bind_eq_some_iff.1 h1
      obtain ⟨-, hlen, hat⟩ := World.cells?_some hcs
      obtain ⟨ys, m, -, -, -, hys, hfs⟩ := DataW.trod_struct Try.underlying42 ht
      match cs, hlen with
      | [c0, c1, c2, c3, c4, c5, c6, c7], _ =>
        match ys, hys with
        | [y0, y1, y2, y3], _ =>
          have k1 : Try.prog.cellsOf 9 = 1 := by kernel_rfl
          have k2 : Try.prog.cellsOf 3 = 1 := by kernel_rfl
          have k3 : Try.prog.cellsOf 40 = 1 := by kernel_rfl
          have k4 : Try.prog.cellsOf 25 = 5 := by kernel_rfl
          have g0 := hfs 0 _ rfl
          have g1 := hfs 1 _ rfl
          have g2 := hfs 2 _ rfl
          have g3 := hfs 3 _ rfl
          simp [k1, k2, k3, k4] at g0 g1 g2 g3
          obtain ⟨z0, e0, -⟩ := DataW.trod_string Try.underlying9 g0
          obtain ⟨z1, e1, -, -⟩ := DataW.trod_int Try.underlying3 g1
          obtain ⟨y, e3, -⟩ := open_value5 g3 rfl
          have e2 : ∃ A n c, c2 = .slice A n c := by
            rcases DataW.trod_slice Try.underlying40 g2 with ⟨hc, -⟩ | ⟨a, len', cap', elems, rest, n, -, hc, -⟩
            · injection hc with hc; exact ⟨_, _, _, hc⟩
            · injection hc with hc; exact ⟨_, _, _, hc⟩
          obtain ⟨A, n, c, e2⟩ := e2
          simp at e0 e1 e3
          obtain ⟨e3, e4, e5, e6, e7⟩ := e3
          subst e0 e1 e2 e3 e4 e5 e6 e7
          have e0 := hat 0 (by simp)
          have e1 := hat 1 (by simp)
          have e2 := hat 2 (by simp)
          have e3 := hat 3 (by simp)
          have e4 := hat 4 (by simp)
          have e5 := hat 5 (by simp)
          have e6 := hat 6 (by simp)
          have e7 := hat 7 (by simp)
          exact ⟨(⟨z0, z1⟩, A, n, c, y), by simpa [Addr.add_zero'] using e0, by simpa [Addr.add_succ'] using e1, by simpa [Addr.add_succ'] using e2, by simpa [Addr.add_succ'] using e3, by simpa [Addr.add_succ'] using e4, by simpa [Addr.add_succ'] using e5, by simpa [Addr.add_succ'] using e6, by simpa [Addr.add_succ'] using e7⟩
    have inst : Inhabited (Fd × Option Addr × Nat × Nat × Vl) := ⟨(⟨⟨#[]⟩, 0⟩, none, 0, 0, ⟨0, 0, false, ⟨#[]⟩, 0⟩)⟩
    obtain ⟨f, hf⟩ := Deep.choose_lt each
    refine ⟨(List.range len').map fun j => (f j).1, some a, cap', by simp, by simpa using hl, hm, fun h => (by cases h), fun j hj => ?_⟩
    have hjl : j < len' := by simpa using hj
    have hk := hf j hjl
    refine ⟨a, (f j).2.1, (f j).2.2.1, (f j).2.2.2.1, (f j).2.2.2.2, rfl, ?_, ?_⟩
    · have := cell_lt hk.1
      rwa [block_add] at this
    · simpa using hk
theorem open_vls {m : Nat} {x : DataW H × List MemPlace} {c : Value} (h : DataW.trod enc Try.prog W 0 sp hd m 29 [c] = some x) : ∃ (vs : List Vl) (A : Option Addr) (cap : Nat), c = .slice A vs.length cap ∧ VlK W A cap vs ∧ ∀ v ∈ vs, okV v := by
  rcases DataW.trod_slice Try.underlying29 h with ⟨hc, -⟩ | ⟨a, len', cap', elems, rest, n, -, hc, -, -, hl, hm, hel, hx, -, -⟩
  · injection hc with hc
    subst hc
    exact ⟨[], none, 0, rfl, ⟨Nat.le_refl _, Nat.zero_le _, fun _ => rfl, fun j hj => absurd hj (Nat.not_lt_zero _)⟩, fun v hv => by cases hv⟩
  · injection hc with hc
    subst hc
    have h5 : Try.prog.cellsOf 25 = 5 := by kernel_rfl
    have each : ∀ i, i < len' → ∃ (y : Vl), Vlp W (a.add (i * 5)) y ∧ okV y := by
      intro i hi
      have h1 := hx i hi
      rw [h5, List.getElem?_eq_getElem (by omega)] at h1
      obtain ⟨cs, hcs, ht⟩ := Option.bind_eq_some_iff.1 h1
      obtain ⟨-, hlen, hat⟩ := World.cells?_some hcs
      obtain ⟨y, hc, hok⟩ := open_value5 ht hlen
      subst hc
      have e0 := hat 0 (by omega)
      have e1 := hat 1 (by omega)
      have e2 := hat 2 (by omega)
      have e3 := hat 3 (by omega)
      have e4 := hat 4 (by omega)
      exact ⟨y, ⟨by simpa [Addr.add_zero'] using e0, by simpa [Addr.add_succ'] using e1, by simpa [Addr.add_succ'] using e2, by simpa [Addr.add_succ'] using e3, by simpa [Addr.add_succ'] using e4⟩, hok⟩
    have inst : Inhabited Vl := ⟨⟨0, 0, false, ⟨#[]⟩, 0⟩⟩
    obtain ⟨f, hf⟩ := Deep.choose_lt each
    refine ⟨(List.range len').map f, some a, cap', by simp, ⟨by simpa using hl, hm, fun h => (by cases h), fun j hj => ?_⟩, fun v hv => ?_⟩
    · have hjl : j < len' := by simpa using hj
      have hk := (hf j hjl).1
      refine ⟨a, rfl, ?_, ?_⟩
      · have := cell_lt hk.1
        rwa [block_add] at this
      · simpa using hk
    · obtain ⟨j, hj, rfl⟩ := List.mem_map.1 hv
      exact (hf j (List.mem_range.1 hj)).2
theorem open_scope (hv : Value.okWide Try.prog W .any base 31 v) (h : DataW.Trod enc Try.prog W 0 sp hd 31 v d ps) :
    ∃ (fs : List Fd) (vs : List Vl) (FA VA : Option Addr) (FC VC : Nat), v = .agg #[.slice FA fs.length FC, .slice VA vs.length VC] ∧ FdK W FA FC fs ∧ VlK W VA VC vs ∧ ∀ v ∈ vs, okV v := by
  obtain ⟨cs, rfl, hsz⟩ := okWide_struct Try.underlying31 hv
  obtain ⟨fuel, hf⟩ := h
  obtain ⟨ys, m, -, -, -, hys, hfs⟩ := DataW.trod_struct Try.underlying31 hf
  have k0 : Try.prog.cellsOf 31 = 2 := by kernel_rfl
  have k1 : Try.prog.cellsOf 28 = 1 := by kernel_rfl
  have k2 : Try.prog.cellsOf 29 = 1 := by kernel_rfl
  rw [k0] at hsz
  obtain ⟨l⟩ := cs
  match l, hsz with
  | [c0, c1], _ =>
    match ys, hys with
    | [y0, y1], _ =>
      have g0 := hfs 0 _ rfl
      have g1 := hfs 1 _ rfl
      simp [k1, k2, Value.cells] at g0 g1
      obtain ⟨fs, FA, FC, rfl, hfd⟩ := open_fds g0
      obtain ⟨vs, VA, VC, rfl, hvl, hok⟩ := open_vls g1
      exact ⟨fs, vs, FA, VA, FC, VC, rfl, hfd, hvl, hok⟩
end
end Go.Proofs.Ytkhpgejammgolaa
