/- WireNone's own walk. -/
import Derived.Test.YtdhpklbdajcfoaaNone
import Derived.Deep.RegionWith
namespace Go.Proofs.Ytdhpklbdajcfoaa
open Go.RowKit
set_option linter.unusedVariables false

theorem Two.drew1 {g h : Nat} {e : Int} {w : World} (t : Two g h e w) : Two g h e w.drew := ⟨t.wire, t.ref, t.ne⟩
theorem Bs.drew1 {w : World} {v : Value} {l : List UInt8} (h : Bs w v l) : Bs w.drew v l := h

theorem own_two (w : World) : Two w.heap.size (w.heap.size + 1) 0 ((w.alloc (.cells #[.slice none 0 0, .int .i64 0] 46)).alloc (.cells #[.slice none 0 0, .int .i64 0, .int .i64 0] 49)) := by
  refine ⟨⟨.slice none 0 0, ?_, Bs.nil _⟩, ?_, by omega⟩
  · exact (Below.heap_alloc _ _ _ (by simp)).trans (heap_alloc_new w _)
  · have h := heap_alloc_new (w.alloc (.cells #[.slice none 0 0, .int .i64 0] 46)) (.cells #[.slice none 0 0, .int .i64 0, .int .i64 0] 49)
    simpa [RfR] using h

set_option maxRecDepth 100000 in
set_option maxHeartbeats 1000000 in
theorem WireNone_yes (v : Value) (its : List Itm) (w : World) (hv : Itms w v its) (hfew : fewB its = true) :
    Calls Try.prog 6 #[v] w fun e w' => e = .returned (.bool true) ∧ Below w.heap.size w w' := by
  have hfa := few_any v its w hv
  rw [hfew] at hfa
  have HF := Lib.hid hfa
  have HV := Lib.hid hv
  obtain ⟨A, c, rfl, hc, hm, hn, hx⟩ := hv
  have hlen : its.length ≤ 200 := by simp [fewB] at hfew; exact hfew.1
  clear hfew hfa hx hn
  have ht0 := own_two w
  have hb0 := ((Below.refl w.heap.size w).alloc (Nat.le_refl _) (.cells #[Value.slice none 0 0, Value.int .i64 0] 46)).alloc (by simp) (.cells #[Value.slice none 0 0, Value.int .i64 0, Value.int .i64 0] 49)
  go_enter Try.func6, Try.ntmps6
  go_wp2_with (go_at_call 7; refine HF.out.mono ?_; rintro e w' ⟨rfl, rfl⟩)
  go_loopw [6] (fun i wr => ∃ k : Nat, k ≤ its.length ∧ i = .int .i64 k ∧ (∃ e, Two w.heap.size (w.heap.size + 1) e wr) ∧ Below w.heap.size w wr) (fun i _ => its.length - (intOf i).toNat)
  case atStart => exact ⟨0, Nat.zero_le _, rfl, ⟨0, ht0⟩, hb0⟩
  case round =>
    obtain ⟨k, hk, rfl, ⟨e, ht⟩, hbel⟩ := hrel
    clear ht0 hb0
    by_cases hlt : k < its.length
    · obtain ⟨A', c', e, -, -, -, hx⟩ := HV.out
      injection e with e1 e2 e3
      subst e3
      obtain ⟨ad, ha0, hbl, hat⟩ := hx (by rintro rfl; simp at hlt)
      obtain rfl : A = some ad := e1.trans ha0
      clear hx ha0 e1 e2
      obtain ⟨hok, bv, h0, h1, h2, h3, h4⟩ := hat k its[k] (List.getElem?_eq_getElem hlt)
      have hbk : (ad.add (k * 4)).block < w.heap.size := by rw [block_add]; exact hbl
      have hok5 := hok
      obtain ⟨ok1, ok2, -, -, -⟩ := hok5
      generalize its[k] = it at *
      obtain ⟨adk, hadk⟩ : ∃ adk, adk = ad.add (k * 4) := ⟨_, rfl⟩
      rw [← hadk] at h0 h1 h2 h4 hbk
      replace h0 := (hbel.cell hbk).trans h0
      replace h1 := (hbel.cell (p := ⟨_, _, none⟩) hbk).trans h1
      replace h2 := (hbel.cell (p := ⟨_, _, none⟩) hbk).trans h2
      replace h4 := (hbel.cell (p := ⟨_, _, none⟩) hbk).trans h4
      replace h3 := Rd.below h3 hbel (Nat.le_refl _)
      have hadk' := hadk.symm
      have HX := Lib.hid hat
      clear hat hadk
      by_cases k5 : it.kind = 5
      · have hk5 : (it.kind != 5) = false := by simpa using k5
        clear k5
        have ht1 := ht
        have hbel1 := hbel
        have hB3 := h3
        have hz : ∀ e : Int, (e != e) = false := fun e => by simp
        go_wp2
        go_region_with (first
          | (go_at_call 22; refine (ask_zero w.heap.size (w.heap.size + 1) w.heap.size e it bv _ hok (Bs.drew1 hB3) (ht1.drew1) (Nat.le_refl _) (by omega) hbel1.size).mono ?_; rintro en w2 ⟨rfl, ⟨e', ht2⟩, hb2⟩; obtain ⟨hd0, hd1, hd2, hdf⟩ := ht2.ref.open)
          | (go_at_call 19; refine (Err_any w.heap.size [] e' _ ht2.wire).mono ?_; rintro en w3 ⟨rfl, rfl⟩))
        all_goals
          go_wp2
          go_roundw
          case rel => exact ⟨k + 1, by omega, by go_num, ⟨e', ht2⟩, hbel1.drew.trans hb2⟩
          case measure => simp [intOf]; omega
      · have hk5 : (it.kind != 5) = true := by simpa using k5
        clear k5
        have hbw : adk.block < wr.heap.size := Nat.lt_of_lt_of_le hbk hbel.size
        have g0 := (World.cell?_alloc_lt wr (.cells #[Value.slice none 0 0, Value.int .i64 0, Value.int .i64 10] 49) adk hbw).trans h0
        have g1 := (World.cell?_alloc_lt wr (.cells #[Value.slice none 0 0, Value.int .i64 0, Value.int .i64 10] 49) ⟨adk.block, adk.off + 1, none⟩ hbw).trans h1
        have g2 := (World.cell?_alloc_lt wr (.cells #[Value.slice none 0 0, Value.int .i64 0, Value.int .i64 10] 49) ⟨adk.block, adk.off + 2, none⟩ hbw).trans h2
        have g3 := (World.cell?_alloc_lt wr (.cells #[Value.slice none 0 0, Value.int .i64 0, Value.int .i64 10] 49) ⟨adk.block, adk.off + 3, none⟩ hbw).trans h4
        go_wp2_with (go_at_call 22; (refine (ask_nil wr.heap.size wr.heap.size it bv _ hok (Rd.below h3 ((Below.refl _ _).alloc (Nat.le_refl _) _) (Nat.le_refl _)) (heap_alloc_new wr _) (Nat.le_refl _) (by simp)).mono ?_; rintro en w1 ⟨rfl, hb1⟩))
        have hB1 : Below wr.heap.size wr w1 := ((Below.refl _ _).alloc (Nat.le_refl _) _).trans hb1
        have ht1 := ht.below hB1
        have hbel1 := hbel.trans (hB1.mono hbel.size)
        replace g0 := (hB1.cell hbw).trans h0
        replace g1 := (hB1.cell (p := ⟨adk.block, adk.off + 1, none⟩) hbw).trans h1
        replace g2 := (hB1.cell (p := ⟨adk.block, adk.off + 2, none⟩) hbw).trans h2
        replace g3 := (hB1.cell (p := ⟨adk.block, adk.off + 3, none⟩) hbw).trans h4
        have hB3 := Rd.below h3 hB1 (Nat.le_refl _)
        have hz : ∀ e : Int, (e != e) = false := fun e => by simp
        clear h0 h1 h2 h4 hB1 hb1 hbel h3 ht hbw
        go_region_with (first
          | (go_at_call 22; refine (ask_zero w.heap.size (w.heap.size + 1) w.heap.size e it bv _ hok (Bs.drew1 hB3) (ht1.drew1) (Nat.le_refl _) (by omega) hbel1.size).mono ?_; rintro en w2 ⟨rfl, ⟨e', ht2⟩, hb2⟩; obtain ⟨hd0, hd1, hd2, hdf⟩ := ht2.ref.open)
          | (go_at_call 19; refine (Err_any w.heap.size [] e' _ ht2.wire).mono ?_; rintro en w3 ⟨rfl, rfl⟩))
        all_goals
          go_wp2
          go_roundw
          case rel => exact ⟨k + 1, by omega, by go_num, ⟨e', ht2⟩, hbel1.drew.trans hb2⟩
          case measure => simp [intOf]; omega
    · obtain rfl : k = its.length := by omega
      have hz : ((0 : Int) == 0) = true := rfl
      go_wp2_with (first
        | (go_at_call 18; refine (End_nil _).mono ?_; rintro en w' ⟨rfl, rfl⟩)
        | (go_at_call_of 20 (Value.pointer none); refine (Left_nil _).mono ?_; rintro en w' ⟨rfl, rfl⟩)
        | (go_at_call 19; refine (Err_nil _).mono ?_; rintro en w' ⟨rfl, rfl⟩)
        | (go_at_call_of 20 (Value.pointer (some ⟨w.heap.size, 0, none⟩)); refine (Left_any w.heap.size [] e _ ht.wire).mono ?_; rintro en w' ⟨rfl, rfl⟩)
        | (go_at_call 9; refine (awake_any _).mono ?_; rintro en wB ⟨rfl, hb2⟩))
      go_ret
      exact ⟨rfl, hbel.trans (hb2.mono hbel.size)⟩

theorem WireNone_any (v : Value) (its : List Itm) (w : World) (hv : Itms w v its) :
    Calls Try.prog 6 #[v] w fun e w' => e = .returned (.bool true) ∧ Below w.heap.size w w' := by
  rcases hf : fewB its with _ | _
  · have hfa := few_any v its w hv
    rw [hf] at hfa
    have HF := Lib.hid hfa
    clear hf hfa
    go_enter Try.func6, Try.ntmps6
    go_wp2_with (go_at_call 7; refine HF.out.mono ?_; rintro e w' ⟨rfl, rfl⟩)
    go_ret
    exact ⟨rfl, Below.refl _ _⟩
  · exact WireNone_yes v its w hv hf
end Go.Proofs.Ytdhpklbdajcfoaa
