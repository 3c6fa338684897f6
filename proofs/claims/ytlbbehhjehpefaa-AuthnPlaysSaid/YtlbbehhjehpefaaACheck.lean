/- Layer 3: the program's authority: asked; made. -/
import Derived.Test.YtlbbehhjehpefaaASign
namespace Go.Proofs.Ytlbbehhjehpefaa
open Go.RowKit
set_option linter.unusedVariables false

theorem checkE_no {f c s : Int} {l : List UInt8} {L : List (Int × List UInt8)} (h : knB f c s = false) : checkE f c s l L = 30 := by unfold checkE; rw [h]; rfl
theorem checkE_yes {f c s : Int} {l : List UInt8} {L : List (Int × List UInt8)} (h : knB f c s = true) (h2 : decide ((s, l) ∈ L) = true) : checkE f c s l L = 0 := by unfold checkE; rw [if_pos h, if_pos (by simpa using h2)]
theorem checkE_not {f c s : Int} {l : List UInt8} {L : List (Int × List UInt8)} (h : knB f c s = true) (h2 : decide ((s, l) ∈ L) = false) : checkE f c s l L = 31 := by unfold checkE; rw [if_pos h, if_neg (by simpa using h2)]

theorem Signed_any (g bm : Nat) (f c : Int) (L : List (Int × List UInt8)) (w : World) (h : Au w g bm f c L) :
    Calls Try.prog 12 #[.pointer (some ⟨g, 0, none⟩)] w (Says (.int .i64 L.length) w) := by
  obtain ⟨c0, c1, c2, c3⟩ := h.1.open
  have hn := h.2.len 3
  have H := Lib.hid h
  clear h
  go_enter Try.func12, Try.ntmps12
  go_wp2
  go_ret
  exact ⟨rfl, rfl⟩

/-- what New leaves -/
def Makes (F C : Int) (w : World) (e : Ending) (w' : World) : Prop :=
  ∃ g bm, e = .returned (.pointer (some ⟨g, 0, none⟩)) ∧ w.heap.size ≤ g ∧ w.heap.size ≤ bm ∧ Au w' g bm (max 0 (min F 2)) (max 0 (min C 8)) [] ∧ Below w.heap.size w w'
theorem new3_end (F C f c n : Int) (w : World) (hf : max 0 (min F 2) = f) (hc : max 0 (min C 8) = c) (hn : n = 3 * f + 1) :
    Makes F C w (Ending.returned (Value.pointer (some ⟨w.heap.size + 1, 0, none⟩))) ((w.alloc (.map #[] 0)).alloc (.cells #[.int .i64 n, .int .i64 f, .int .i64 c, .map (some w.heap.size)] 58)) := by
  unfold Makes
  rw [hf, hc, hn]
  have hb : Below w.heap.size w (w.alloc (.map #[] 0)) := (Below.refl _ _).alloc (Nat.le_refl _) _
  have hn1 : (w.alloc (.map #[] 0)).heap.size = w.heap.size + 1 := by simp
  refine ⟨w.heap.size + 1, w.heap.size, rfl, by omega, by omega, ⟨⟨?_, by omega, by omega, by omega, by omega⟩, (Tab.made w).below ((Below.refl _ _).alloc (Nat.le_refl _) _) (Nat.le_refl _)⟩, hb.alloc hb.size _⟩
  rw [← hn1]
  exact heap_alloc_new _ _

theorem New3_any (F C : Int) (w : World) : Calls Try.prog 10 #[.int .i64 F, .int .i64 C] w (Makes F C w) := by
  have hmm := @run_makeMap Try.prog
  go_enter Try.func10, Try.ntmps10
  go_wp2
  all_goals
    go_ret
    refine new3_end F C _ _ _ w ?_ ?_ ?_ <;> omega

set_option maxHeartbeats 1000000 in
theorem check_known (g bm : Nat) (f c s : Int) (v : Value) (l : List UInt8) (L : List (Int × List UInt8)) (w : World) (h : Au w g bm f c L) (hs : ok64 s) (hv : Bs w v l) (hl : l.length ≤ 1000000000) (hk : knB f c s = true)
    (yes : Bool) (hy : decide ((s, l) ∈ L) = yes) :
    Calls Try.prog 16 #[.pointer (some ⟨g, 0, none⟩), .agg #[.int .i64 s, v]] w fun e w' => e = .returned (.int .i64 (if yes = true then 0 else 31)) ∧ Below w.heap.size w w' := by
  have hp : okP s l := ⟨hs, by unfold maxLen; omega⟩
  obtain ⟨A, cc, rfl, -⟩ := hv.open
  have HB := Lib.hid hv
  have HK := Lib.hid hk
  have H := Lib.hid h
  obtain ⟨w1, hw1⟩ : ∃ w1, w1 = w.alloc (.cells #[.int .i64 s, .slice A l.length cc] 40) := ⟨_, rfl⟩
  have hb0 : Below w.heap.size w w1 := by rw [hw1]; exact (Below.refl _ _).alloc (Nat.le_refl _) _
  have hev : Ev w1 w.heap.size (.int .i64 s) (.slice A l.length cc) := by rw [hw1]; exact heap_alloc_new _ _
  have hkn : Calls Try.prog 38 #[.pointer (some ⟨g, 0, none⟩), .int .i64 s] w1 (Says (.bool true) w1) := by
    have := Known_any (h.1.below hb0 (Nat.le_refl _)) s hs
    rwa [hk] at this
  have HKN := Lib.hid hkn
  have hall : ∀ W, Below w1.heap.size w1 W → Below w1.heap.size w1 W ∧ W.cell? ⟨g, 3, none⟩ = some (.map (some bm)) ∧ W.cell? ⟨w.heap.size, 0, none⟩ = some (.int .i64 s) ∧ W.cell? ⟨w.heap.size, 1, none⟩ = some (.slice A l.length cc) ∧
      (convert 34 9 (.slice A l.length cc)).run Try.prog W = .ok (.string ⟨l.toArray⟩) W ∧
      (Instr.lookup 56 (.map (some bm)) (.agg #[.int .i64 s, .string ⟨l.toArray⟩]) true).run Try.prog W = .ok (.tuple #[.agg #[], .bool yes]) W := fun W hbW =>
    ⟨hbW, ((H.out.1.below hb0 (Nat.le_refl _)).below hbW (Nat.le_refl _)).open.2.2.2, (hev.below hbW).open.1, (hev.below hbW).open.2.1, run_str ((HB.out.below hb0 (Nat.le_refl _)).below hbW (Nat.le_refl _)), hy ▸ ((H.out.2.below hb0 (Nat.le_refl _)).below hbW (Nat.le_refl _)).look hp⟩
  have HW1 := Lib.hid hw1
  clear hk hv hy hkn h hw1
  cases yes
  · go_enter Try.func16, Try.ntmps16
    go_wp2_with (first
      | (go_at_call 38; rw [← HW1.out]; refine HKN.out.mono ?_; rintro e w' ⟨rfl, hww⟩; rw [hww]; clear hww w'))
    have hS0 := hall w1.drew (Below.refl _ _).drew
    have hkeep : ∀ (W : World) (o : Obj), Below w1.heap.size w1 W ∧ W.cell? ⟨g, 3, none⟩ = some (.map (some bm)) ∧ W.cell? ⟨w.heap.size, 0, none⟩ = some (.int .i64 s) ∧ W.cell? ⟨w.heap.size, 1, none⟩ = some (.slice A l.length cc) ∧
        (convert 34 9 (.slice A l.length cc)).run Try.prog W = .ok (.string ⟨l.toArray⟩) W ∧
        (Instr.lookup 56 (.map (some bm)) (.agg #[.int .i64 s, .string ⟨l.toArray⟩]) true).run Try.prog W = .ok (.tuple #[.agg #[], .bool false]) W → _ := fun W o h => hall (W.alloc o) (h.1.alloc h.1.size o)
    go_region_held3 (fun W => Below w1.heap.size w1 W ∧ W.cell? ⟨g, 3, none⟩ = some (.map (some bm)) ∧ W.cell? ⟨w.heap.size, 0, none⟩ = some (.int .i64 s) ∧ W.cell? ⟨w.heap.size, 1, none⟩ = some (.slice A l.length cc) ∧
        (convert 34 9 (.slice A l.length cc)).run Try.prog W = .ok (.string ⟨l.toArray⟩) W ∧
        (Instr.lookup 56 (.map (some bm)) (.agg #[.int .i64 s, .string ⟨l.toArray⟩]) true).run Try.prog W = .ok (.tuple #[.agg #[], .bool false]) W) (first | exact hS0 | exact hkeep _ _ (by assumption) | exact hall _ (((Below.refl _ _).alloc (Nat.le_refl _) _).drew)) (first | fail)
    all_goals go_wp2
    all_goals (go_ret; exact ⟨rfl, hb0.trans ((((Below.refl _ _).alloc (Nat.le_refl _) _).drew).mono hb0.size)⟩)
  · go_enter Try.func16, Try.ntmps16
    go_wp2_with (first
      | (go_at_call 38; rw [← HW1.out]; refine HKN.out.mono ?_; rintro e w' ⟨rfl, hww⟩; rw [hww]; clear hww w'))
    have hS0 := hall w1.drew (Below.refl _ _).drew
    have hkeep : ∀ (W : World) (o : Obj), Below w1.heap.size w1 W ∧ W.cell? ⟨g, 3, none⟩ = some (.map (some bm)) ∧ W.cell? ⟨w.heap.size, 0, none⟩ = some (.int .i64 s) ∧ W.cell? ⟨w.heap.size, 1, none⟩ = some (.slice A l.length cc) ∧
        (convert 34 9 (.slice A l.length cc)).run Try.prog W = .ok (.string ⟨l.toArray⟩) W ∧
        (Instr.lookup 56 (.map (some bm)) (.agg #[.int .i64 s, .string ⟨l.toArray⟩]) true).run Try.prog W = .ok (.tuple #[.agg #[], .bool true]) W → _ := fun W o h => hall (W.alloc o) (h.1.alloc h.1.size o)
    go_region_held3 (fun W => Below w1.heap.size w1 W ∧ W.cell? ⟨g, 3, none⟩ = some (.map (some bm)) ∧ W.cell? ⟨w.heap.size, 0, none⟩ = some (.int .i64 s) ∧ W.cell? ⟨w.heap.size, 1, none⟩ = some (.slice A l.length cc) ∧
        (convert 34 9 (.slice A l.length cc)).run Try.prog W = .ok (.string ⟨l.toArray⟩) W ∧
        (Instr.lookup 56 (.map (some bm)) (.agg #[.int .i64 s, .string ⟨l.toArray⟩]) true).run Try.prog W = .ok (.tuple #[.agg #[], .bool true]) W) (first | exact hS0 | exact hkeep _ _ (by assumption) | exact hall _ (((Below.refl _ _).alloc (Nat.le_refl _) _).drew)) (first | fail)
    all_goals go_wp2
    all_goals (go_ret; exact ⟨rfl, hb0.trans ((((Below.refl _ _).alloc (Nat.le_refl _) _).drew).mono hb0.size)⟩)

theorem Check_any (g bm : Nat) (f c s : Int) (v : Value) (l : List UInt8) (L : List (Int × List UInt8)) (w : World) (h : Au w g bm f c L) (hs : ok64 s) (hv : Bs w v l) (hl : l.length ≤ 1000000000) :
    Calls Try.prog 16 #[.pointer (some ⟨g, 0, none⟩), .agg #[.int .i64 s, v]] w fun e w' => e = .returned (.int .i64 (checkE f c s l L)) ∧ Below w.heap.size w w' := by
  rcases hk : knB f c s with _ | _
  · obtain ⟨A, cc, rfl, -⟩ := hv.open
    rw [checkE_no hk]
    have HB := Lib.hid hv
    have HK := Lib.hid hk
    clear hk hv
    go_enter Try.func16, Try.ntmps16
    go_wp2_with (first
      | (go_at_call 38; refine (Known_any (h.1.below ((Below.refl _ _).alloc (Nat.le_refl _) _) (Nat.le_refl _)) s hs).mono ?_; rw [HK.out]; rintro e w' ⟨rfl, rfl⟩))
    go_ret
    exact ⟨rfl, (Below.refl _ _).alloc (Nat.le_refl _) _⟩
  · have hce : checkE f c s l L = if decide ((s, l) ∈ L) = true then 0 else 31 := by unfold checkE; rw [if_pos hk]; simp
    rw [hce]
    exact check_known g bm f c s v l L w h hs hv hl hk _ rfl
end Go.Proofs.Ytlbbehhjehpefaa
