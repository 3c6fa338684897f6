/- Layer 3: are envelopes of distinct replicas, by the program and by the document. -/
import Derived.Test.YtlbbehhjehpefaaACount
namespace Go.Proofs.Ytlbbehhjehpefaa
open Go.RowKit
set_option linter.unusedVariables false

theorem Es.below {w w' : World} {v : Value} {xs : List (Int × Value)} {B : Nat} (h : Es w v xs) (hb : Below B w w') (hB : w.heap.size ≤ B) : Es w' v xs := by
  obtain ⟨A, c, hv, hc, hm, hn, hx⟩ := h
  refine ⟨A, c, hv, hc, hm, hn, fun he => ?_⟩
  obtain ⟨ad, ha, hl, hr⟩ := hx he
  refine ⟨ad, ha, Nat.lt_of_lt_of_le hl hb.size, fun k hk => ⟨?_, ?_⟩⟩
  · exact (hb.cell (by rw [block_add]; omega)).trans (hr k hk).1
  · exact (hb.cell (by show (ad.add (k * 2)).block < _; rw [block_add]; omega)).trans (hr k hk).2
theorem Es.drewN {w : World} {v : Value} {xs : List (Int × Value)} (h : Es w v xs) (n : Nat) : Es (w.drewN n) v xs := h
theorem Es.open {w : World} {v : Value} {xs : List (Int × Value)} (h : Es w v xs) : ∃ A c, v = .slice A xs.length c ∧ xs.length ≤ c ∧ c ≤ maxLen ∧
    (∀ k (hk : k < xs.length), ∃ ad, A = some ad ∧ w.cell? (ad.add (k * 2)) = some (.int .i64 xs[k].1) ∧ w.cell? ⟨(ad.add (k * 2)).block, (ad.add (k * 2)).off + 1, none⟩ = some xs[k].2) := by
  obtain ⟨A, c, hv, hc, hm, hn, hx⟩ := h
  refine ⟨A, c, hv, hc, hm, fun k hk => ?_⟩
  obtain ⟨ad, ha, -, hr⟩ := hx (by rintro rfl; simp at hk)
  exact ⟨ad, ha, hr k hk⟩
theorem Es.take {w : World} {A : Option Addr} {n c : Nat} {xs : List (Int × Value)} (h : Es w (.slice A n c) xs) (k : Nat) (hk : k ≤ xs.length) : Es w (.slice A k c) (xs.take k) := by
  obtain ⟨A', c', hv, hc, hm, hn, hx⟩ := h
  injection hv with h1 h2 h3
  subst h1 h2 h3
  have e : (xs.take k).length = k := by rw [List.length_take]; omega
  refine ⟨A, c, by rw [e], by rw [e]; omega, hm, hn, fun he => ?_⟩
  obtain ⟨ad, ha, hl, hr⟩ := hx (by rintro rfl; simp at he)
  refine ⟨ad, ha, hl, fun j hj => ?_⟩
  have hj' : j < xs.length := by rw [e] at hj; omega
  rw [List.getElem_take]
  exact hr j hj'

/-- the closure: is an envelope of that signer -/
theorem of_any (b : Nat) (s t : Int) (y : Value) (w : World) (hc : w.cell? ⟨b, 0, none⟩ = some (.int .i64 s)) (hbl : b < w.heap.size) :
    Calls Try.prog 51 #[.agg #[.int .i64 t, y], .pointer (some ⟨b, 0, none⟩)] w fun e w' => e = .returned (.bool (decide (t = s))) ∧ Below w.heap.size w w' := by
  have hc2 : (w.alloc (.cells #[.int .i64 t, y] 40)).cell? ⟨b, 0, none⟩ = some (.int .i64 s) := ((Below.refl w.heap.size w).alloc (Nat.le_refl _) _).cell (p := ⟨b, 0, none⟩) hbl |>.trans hc
  go_enter Try.func51, Try.ntmps51
  go_wp2
  go_ret
  exact ⟨ret_bool (by by_cases h : t = s <;> simp [h]), (Below.refl _ _).alloc (Nat.le_refl _) _⟩

/-- where an envelope of that signer stands -/
def WhereF (s : Int) (l : List Int) (w : World) (e : Ending) (w' : World) : Prop := ∃ n : Int, e = .returned (.int .i64 n) ∧ (decide (0 ≤ n) = decide (s ∈ l)) ∧ Below w.heap.size w w'

theorem mem_take_map {xs : List (Int × Value)} {s : Int} {k : Nat} (hlt : k < xs.length) : s ∈ (xs.take (k + 1)).map (·.1) ↔ s ∈ (xs.take k).map (·.1) ∨ s = xs[k].1 := by
  rw [List.take_succ_eq_append_getElem hlt, List.map_append, List.mem_append, List.map_singleton, List.mem_singleton]

set_option maxHeartbeats 1000000 in
theorem IndexFunc_any (v : Value) (xs : List (Int × Value)) (b : Nat) (s : Int) (w : World) (h : Es w v xs) (hc : w.cell? ⟨b, 0, none⟩ = some (.int .i64 s)) (hbl : b < w.heap.size) :
    Calls Try.prog 52 #[v, .func (Fn.func 51) #[] #[.pointer (some ⟨b, 0, none⟩)]] w (WhereF s (xs.map (·.1)) w) := by
  have HV := Lib.hid h
  obtain ⟨A, c, rfl, hcc, hm, -⟩ := h.open
  have hll : xs.length ≤ 9223372036854775807 := by have := hm; unfold maxLen at this; omega
  have HC := Lib.hid hc
  clear h hcc hm hc
  go_enter Try.func52, Try.ntmps52
  go_wp2
  go_loopw [8] (fun i wr => ∃ k : Nat, k ≤ xs.length ∧ i = .int .i64 k ∧ s ∉ (xs.take k).map (·.1) ∧ Below w.heap.size w wr) (fun i _ => xs.length - (intOf i).toNat)
  case atStart => exact ⟨0, Nat.zero_le _, rfl, by simp, Below.refl _ _⟩
  case round =>
    obtain ⟨k, hk, rfl, hall, hbel⟩ := hrel
    have HALL := Lib.hid hall
    clear hall
    by_cases hlt : k < xs.length
    · obtain ⟨A', c', e, -, -, hx⟩ := (HV.out.below hbel (Nat.le_refl _)).open
      injection e with e e2 e3
      subst e
      clear e2 e3
      obtain ⟨ad, rfl, hcell, hcell2⟩ := hx k hlt
      clear hx
      have hof := of_any b s xs[k].1 xs[k].2 wr ((hbel.cell (p := ⟨b, 0, none⟩) hbl).trans HC.out) (Nat.lt_of_lt_of_le hbl hbel.size)
      rcases hd : decide (xs[k].1 = s) with _ | _
      · rw [hd] at hof
        have HOF := Lib.hid hof
        have HN := Lib.hid (show s ∉ (xs.take (k + 1)).map (·.1) from fun hi => by rcases (mem_take_map hlt).1 hi with hi | hi; exact HALL.out hi; exact (by simpa using hd : ¬ xs[k].1 = s) hi.symm)
        clear hof hd
        go_wp2_with (first
          | (go_at_call 51; refine HOF.out.mono ?_; rintro e w1 ⟨rfl, hb1⟩))
        have hB := hbel.trans (hb1.mono hbel.size)
        go_roundw
        case rel => exact ⟨k + 1, by omega, by go_num, HN.out, hB⟩
        case measure => simp [intOf]; omega
      · rw [hd] at hof
        have HOF := Lib.hid hof
        have HIN := Lib.hid (show decide (s ∈ xs.map (·.1)) = true by simp only [decide_eq_true_eq] at hd ⊢; rw [← hd]; exact List.mem_map_of_mem (List.getElem_mem hlt))
        clear hof hd
        go_wp2_with (first
          | (go_at_call 51; refine HOF.out.mono ?_; rintro e w1 ⟨rfl, hb1⟩))
        go_ret
        exact ⟨_, rfl, by rw [HIN.out]; simp, hbel.trans (hb1.mono hbel.size)⟩
    · obtain rfl : k = xs.length := by omega
      have HIN := Lib.hid (show decide ((0 : Int) ≤ (-1 : Int)) = decide (s ∈ xs.map (·.1)) by have := HALL.out; rw [List.take_length] at this; rw [decide_eq_false this]; decide)
      go_wp2
      go_ret
      exact ⟨_, rfl, HIN.out, hbel⟩

theorem ContainsFunc_any (v : Value) (xs : List (Int × Value)) (b : Nat) (s : Int) (w : World) (h : Es w v xs) (hc : w.cell? ⟨b, 0, none⟩ = some (.int .i64 s)) (hbl : b < w.heap.size) :
    Calls Try.prog 50 #[v, .func (Fn.func 51) #[] #[.pointer (some ⟨b, 0, none⟩)]] w fun e w' => e = .returned (.bool (decide (s ∈ xs.map (·.1)))) ∧ Below w.heap.size w w' := by
  have H := Lib.hid (IndexFunc_any v xs b s w h hc hbl)
  clear h hc hbl
  go_enter Try.func50, Try.ntmps50
  go_wp2_with (first
    | (go_at_call 52; refine H.out.mono ?_; rintro e w' ⟨n, rfl, hn, hb⟩; have HN := Lib.hid hn; clear hn))
  go_ret
  exact ⟨ret_bool HN.out, hb⟩

theorem signedBy_any (v : Value) (xs : List (Int × Value)) (s : Int) (w : World) (h : Es w v xs) :
    Calls Try.prog 46 #[v, .int .i64 s] w fun e w' => e = .returned (.bool (decide (s ∈ xs.map (·.1)))) ∧ Below w.heap.size w w' := by
  have hb0 : Below w.heap.size w (w.alloc (.cells #[.int .i64 s] 3)) := (Below.refl _ _).alloc (Nat.le_refl _) _
  have hc : (w.alloc (.cells #[.int .i64 s] 3)).cell? ⟨w.heap.size, 0, none⟩ = some (.int .i64 s) := (cell_of_row _ _ 0 _ 3 (0, 0) (heap_alloc_new w _)).trans rfl
  have H := Lib.hid (ContainsFunc_any v xs w.heap.size s _ (h.below hb0 (Nat.le_refl _)) hc (by simp))
  clear h hc
  go_enter Try.func46, Try.ntmps46
  go_wp2_with (first
    | (go_at_call 50; refine H.out.mono ?_; rintro e w' ⟨rfl, hb⟩))
  go_ret
  exact ⟨rfl, hb0.trans (hb.mono hb0.size)⟩

theorem run_front (A : Option Addr) (L c k : Nat) (h : k ≤ c) (w : World) : (Instr.slice 45 (.slice A L c) none (some (.int .i64 (k : Int))) none).run Try.prog w = .ok (.slice A k c) w := by
  have hz : (sizeOf (Try.prog.elem 45)).run Try.prog w = .ok 2 w := by rfl
  rw [run_slice_h (P := Try.prog) w 45 A L c Try.underlying45 .i64 (k : Int) (by omega) (by omega), hz]
  simp only [Result.andThen, sliced, Int.toNat_natCast, Nat.sub_zero, Nat.zero_mul]
  cases A with
  | none => simp
  | some ad =>
    by_cases hc : c = 0
    · simp [hc]
    · simp [hc, Addr.add_zero']

set_option maxHeartbeats 1000000 in
theorem Distinct_any (g bm : Nat) (f c : Int) (v : Value) (xs : List (Int × Value)) (w : World) (h : AuH w g bm f c) (hv : Es w v xs) (hsv : ∀ p ∈ xs, ∃ A n c, p.2 = .slice A n c) :
    Calls Try.prog 24 #[.pointer (some ⟨g, 0, none⟩), v] w fun e w' => e = .returned (.int .i64 (disE f (xs.map (·.1)))) ∧ Below w.heap.size w w' := by
  have HV := Lib.hid hv
  have HSV := Lib.hid hsv
  have H := Lib.hid h
  obtain ⟨A, cc, rfl, hcc, hm, -⟩ := hv.open
  have hll : xs.length ≤ 9223372036854775807 := by have := hm; unfold maxLen at this; omega
  have hzl : (xs.map (·.1)).length = xs.length := List.length_map _
  have HZL := Lib.hid hzl
  have HCC := Lib.hid hcc
  have hsl := fun (k : Nat) (hk : k ≤ cc) => run_front A xs.length cc k hk
  have HSL := Lib.hid hsl
  clear h hv hm hzl hsl hcc hsv
  go_enter Try.func24, Try.ntmps24
  go_wp2
  go_loopw [9] (fun i wr => ∃ k : Nat, k ≤ xs.length ∧ i = .int .i64 k ∧ (∀ j, j < k → badAt f (xs.map (·.1)) j = false) ∧ Below w.heap.size w wr) (fun i _ => xs.length - (intOf i).toNat)
  case atStart => exact ⟨0, Nat.zero_le _, rfl, by intro j hj; omega, Below.refl _ _⟩
  case round =>
    obtain ⟨k, hk, rfl, hall, hbel⟩ := hrel
    have HALL := Lib.hid hall
    clear hall
    by_cases hlt : k < xs.length
    · obtain ⟨A', c', e, -, -, hx⟩ := (HV.out.below hbel (Nat.le_refl _)).open
      injection e with e e2 e3
      subst e
      clear e2 e3
      obtain ⟨ad, rfl, hcell, hcell2⟩ := hx k hlt
      clear hx
      obtain ⟨Ax, nx, cx, hbx⟩ := HSV.out _ (List.getElem_mem hlt)
      rw [hbx] at hcell2
      clear hbx
      have hsk := HSL.out k (by have := HCC.out; omega)
      have hb0 : ∀ o, Below w.heap.size w (wr.alloc o) := fun o => hbel.alloc hbel.size o
      have hR := Replica_any (w := wr.alloc (.cells #[.int .i64 xs[k].1, (.slice Ax nx cx)] 40)) (H.out.below (hb0 _) (Nat.le_refl _)) xs[k].1
      have hgd : (xs.map (·.1)).getD k 0 = xs[k].1 := by simp [hlt]
      rcases hr : repB f xs[k].1 with _ | _
      · rw [hr] at hR
        have hres : disE f (xs.map (·.1)) = 30 := by
          rw [disE_at (k := k) (by rw [HZL.out]; exact hlt) HALL.out (by unfold badAt; rw [hgd, hr]; rfl)]
          simp [hr]
        have HRES := Lib.hid hres
        have HR := Lib.hid hR
        clear hR hr hgd hres
        go_wp2_with (first
          | (go_at_call 40; refine HR.out.mono ?_; rintro e w' ⟨rfl, hww⟩; rw [hww]; clear hww w'))
        go_ret
        exact ⟨ret_int HRES.out.symm, hb0 _⟩
      · rw [hr] at hR
        rcases hd : decide (xs[k].1 ∈ (xs.map (·.1)).take k) with _ | _
        · have HST := Lib.hid (show ∀ j, j < k + 1 → badAt f (xs.map (·.1)) j = false from fun j hj => by
            by_cases h : j < k
            · exact HALL.out j h
            · obtain rfl : j = k := by omega
              unfold badAt
              rw [hgd, hr, hd]; rfl)
          have hSB : ∀ W, Below w.heap.size w W → Calls Try.prog 46 #[.slice (some ad) k cc, .int .i64 xs[k].1] W fun e w' => e = .returned (.bool false) ∧ Below W.heap.size W w' := fun W hb => by
            have := signedBy_any (.slice (some ad) k cc) (xs.take k) xs[k].1 W ((HV.out.below hb (Nat.le_refl _)).take k hk)
            rwa [show decide (xs[k].1 ∈ (xs.take k).map (·.1)) = false from by rw [List.map_take]; exact hd] at this
          have HSB := Lib.hid hSB
          have HR := Lib.hid hR
          clear hR hSB hd hr hgd
          go_wp2_with (first
            | (go_at_call 40; refine HR.out.mono ?_; rintro e w' ⟨rfl, hww⟩; rw [hww]; clear hww w'))
          have hev := Ev.open (show Ev (wr.alloc (.cells #[.int .i64 xs[k].1, (.slice Ax nx cx)] 40)) wr.heap.size (.int .i64 xs[k].1) (.slice Ax nx cx) from heap_alloc_new _ _)
          have hB1 := (hb0 (.cells #[.int .i64 xs[k].1, (.slice Ax nx cx)] 40))
          generalize wr.alloc (.cells #[.int .i64 xs[k].1, (.slice Ax nx cx)] 40) = wa at *
          have hS0 : wa.drew.cell? ⟨wr.heap.size, 0, none⟩ = some (.int .i64 xs[k].1) := hev.1
          go_region_held3 (fun W => W.cell? ⟨wr.heap.size, 0, none⟩ = some (.int .i64 xs[k].1)) (first | exact hS0 | exact hlater) (first | (go_at_call 46; refine (HSB.out _ hB1.drew).mono ?_; rintro e wb ⟨rfl, hbb⟩; have hlater : wb.cell? ⟨wr.heap.size, 0, none⟩ = some (.int .i64 xs[k].1) := (hbb.cell (p := ⟨wr.heap.size, 0, none⟩) hev.2.2.2.2).trans hS0))
          go_wp2
          go_roundw
          case rel => exact ⟨k + 1, by omega, by go_num, HST.out, hB1.drew.trans (hbb.mono hB1.drew.size)⟩
          case measure => simp [intOf]; omega
        · have hres : disE f (xs.map (·.1)) = 33 := by
            rw [disE_at (k := k) (by rw [HZL.out]; exact hlt) HALL.out (by unfold badAt; rw [hgd, hd]; simp)]
            simp [hr]
          have HRES := Lib.hid hres
          clear hres
          have hSB : ∀ W, Below w.heap.size w W → Calls Try.prog 46 #[.slice (some ad) k cc, .int .i64 xs[k].1] W fun e w' => e = .returned (.bool true) ∧ Below W.heap.size W w' := fun W hb => by
            have := signedBy_any (.slice (some ad) k cc) (xs.take k) xs[k].1 W ((HV.out.below hb (Nat.le_refl _)).take k hk)
            rwa [show decide (xs[k].1 ∈ (xs.take k).map (·.1)) = true from by rw [List.map_take]; exact hd] at this
          have HSB := Lib.hid hSB
          have HR := Lib.hid hR
          clear hR hSB hd hr hgd
          go_wp2_with (first
            | (go_at_call 40; refine HR.out.mono ?_; rintro e w' ⟨rfl, hww⟩; rw [hww]; clear hww w'))
          have hev := Ev.open (show Ev (wr.alloc (.cells #[.int .i64 xs[k].1, (.slice Ax nx cx)] 40)) wr.heap.size (.int .i64 xs[k].1) (.slice Ax nx cx) from heap_alloc_new _ _)
          have hB1 := (hb0 (.cells #[.int .i64 xs[k].1, (.slice Ax nx cx)] 40))
          generalize wr.alloc (.cells #[.int .i64 xs[k].1, (.slice Ax nx cx)] 40) = wa at *
          have hS0 : wa.drew.cell? ⟨wr.heap.size, 0, none⟩ = some (.int .i64 xs[k].1) := hev.1
          go_region_held3 (fun W => W.cell? ⟨wr.heap.size, 0, none⟩ = some (.int .i64 xs[k].1)) (first | exact hS0 | exact hlater) (first | (go_at_call 46; refine (HSB.out _ hB1.drew).mono ?_; rintro e wb ⟨rfl, hbb⟩; have hlater : wb.cell? ⟨wr.heap.size, 0, none⟩ = some (.int .i64 xs[k].1) := (hbb.cell (p := ⟨wr.heap.size, 0, none⟩) hev.2.2.2.2).trans hS0))
          go_wp2
          go_ret
          exact ⟨ret_int HRES.out.symm, hB1.drew.trans (hbb.mono hB1.drew.size)⟩
    · obtain rfl : k = xs.length := by omega
      have hres : disE f (xs.map (·.1)) = 0 := disE_ok (by rw [HZL.out]; exact HALL.out)
      have HRES := Lib.hid hres
      clear hres
      go_wp2
      go_ret
      exact ⟨ret_int HRES.out.symm, hbel⟩
end Go.Proofs.Ytlbbehhjehpefaa
