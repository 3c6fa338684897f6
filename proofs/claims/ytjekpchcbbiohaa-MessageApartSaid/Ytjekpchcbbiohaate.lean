/- te: GFit GChk2 GExec GPutM (made by shake.py). -/
import Derived.BigGuard
import Derived.Test.Ytjekpchcbbiohaatd
namespace Go.Proofs.Ytjekpchcbbiohaa
open Go.RowKit
set_option linter.unusedVariables false
set_option linter.unusedSimpArgs false
set_option maxRecDepth 20000

/- fits (gengchk.py) -/
set_option maxHeartbeats 2000000 in
theorem fits_0 (s : Shp) (m : Msg) (P : Plc) (w : World) (h : MsgK w m P) (h0 : allowB s.v m.v = false) : Calls Try.prog 21 #[.agg (shC s), agM m P] w (Ans (.bool false) w) := by
  obtain ⟨x1, x2, x3⟩ := box2B w (shC s) (msC m P) 51 30
  have C0 := Lib.hid (fun W => show Calls Try.prog 43 #[.agg #[.int .i64 s.v.1, .int .i64 s.v.2], .int .i64 m.v] W (Ans (.bool false) W) from by have := gAllow_any s.v m.v W; rw [h0] at this; exact this)
  have HS := Lib.hid x1
  have HM := Lib.hid x2
  have HB := Lib.hid x3
  have hxl := strB_size m.d
  clear x1 x2 x3 h
  go_enter Try.func21, Try.ntmps21
  go_wp2_with (first
      | (go_at_call_of 43 ([Value.int .i64 m.v]); refine (C0.out _).mono ?_; rintro e w' ⟨rfl, hb⟩; have HB := Lib.hid (bel2M HB.out hb); rename (∀ (a : Act) (w_1 : World), Code.wp _ _ _ a w_1 → _) => hK1; rename (∀ (a : Act) (w_1 : World), wpList _ _ _ _ a w_1 → _) => hK; refine hK _ _ (sim_end 4 (.bool false) (by kernel_rfl) fun b hb1 hb2 => hK1 _ _ ?_); go_wp2_with fail; refine bodyPost_ret (v := .bool false) ?_ hb2 ⟨rfl, HB.out⟩; rw [results_tmp (t := 4) rfl, hb1]))
set_option maxHeartbeats 2000000 in
theorem fits_1 (s : Shp) (m : Msg) (P : Plc) (w : World) (h : MsgK w m P) (h0 : allowB s.v m.v = true) (h1 : allowB s.s m.s = false) : Calls Try.prog 21 #[.agg (shC s), agM m P] w (Ans (.bool false) w) := by
  obtain ⟨x1, x2, x3⟩ := box2B w (shC s) (msC m P) 51 30
  have C0 := Lib.hid (fun W => show Calls Try.prog 43 #[.agg #[.int .i64 s.v.1, .int .i64 s.v.2], .int .i64 m.v] W (Ans (.bool true) W) from by have := gAllow_any s.v m.v W; rw [h0] at this; exact this)
  have C1 := Lib.hid (fun W => show Calls Try.prog 43 #[.agg #[.int .i64 s.s.1, .int .i64 s.s.2], .int .i64 m.s] W (Ans (.bool false) W) from by have := gAllow_any s.s m.s W; rw [h1] at this; exact this)
  have HS := Lib.hid x1
  have HM := Lib.hid x2
  have HB := Lib.hid x3
  have hxl := strB_size m.d
  clear x1 x2 x3 h
  go_enter Try.func21, Try.ntmps21
  go_wp2_with (first
      | (go_at_call_of 43 ([Value.int .i64 m.v]); refine (C0.out _).mono ?_; rintro e w' ⟨rfl, hb⟩; have HS := Lib.hid (heapB HS.out hb); have HM := Lib.hid (heapB HM.out hb); have HB := Lib.hid (bel2M HB.out hb); clear hb; have y2 := rowCell HS.out 2 (.int .i64 s.s.1) rfl; have y3 := rowCell HS.out 3 (.int .i64 s.s.2) rfl; have m2 := rowCell HM.out 2 (.int .i64 m.s) rfl)
      | (go_at_call_of 43 ([Value.int .i64 m.s]); refine (C1.out _).mono ?_; rintro e w' ⟨rfl, hb⟩; have HB := Lib.hid (bel2M HB.out hb); rename (∀ (a : Act) (w_1 : World), Code.wp _ _ _ a w_1 → _) => hK1; rename (∀ (a : Act) (w_1 : World), wpList _ _ _ _ a w_1 → _) => hK; refine hK _ _ (sim_end 4 (.bool false) (by kernel_rfl) fun b hb1 hb2 => hK1 _ _ ?_); go_wp2_with fail; refine bodyPost_ret (v := .bool false) ?_ hb2 ⟨rfl, HB.out⟩; rw [results_tmp (t := 4) rfl, hb1]))
set_option maxHeartbeats 2000000 in
theorem fits_2 (s : Shp) (m : Msg) (P : Plc) (w : World) (h : MsgK w m P) (h0 : allowB s.v m.v = true) (h1 : allowB s.s m.s = true) (h2 : allowB s.c m.c = false) : Calls Try.prog 21 #[.agg (shC s), agM m P] w (Ans (.bool false) w) := by
  obtain ⟨x1, x2, x3⟩ := box2B w (shC s) (msC m P) 51 30
  have C0 := Lib.hid (fun W => show Calls Try.prog 43 #[.agg #[.int .i64 s.v.1, .int .i64 s.v.2], .int .i64 m.v] W (Ans (.bool true) W) from by have := gAllow_any s.v m.v W; rw [h0] at this; exact this)
  have C1 := Lib.hid (fun W => show Calls Try.prog 43 #[.agg #[.int .i64 s.s.1, .int .i64 s.s.2], .int .i64 m.s] W (Ans (.bool true) W) from by have := gAllow_any s.s m.s W; rw [h1] at this; exact this)
  have C2 := Lib.hid (fun W => show Calls Try.prog 43 #[.agg #[.int .i64 s.c.1, .int .i64 s.c.2], .int .i64 m.c] W (Ans (.bool false) W) from by have := gAllow_any s.c m.c W; rw [h2] at this; exact this)
  have HS := Lib.hid x1
  have HM := Lib.hid x2
  have HB := Lib.hid x3
  have hxl := strB_size m.d
  clear x1 x2 x3 h
  go_enter Try.func21, Try.ntmps21
  go_wp2_with (first
      | (go_at_call_of 43 ([Value.int .i64 m.v]); refine (C0.out _).mono ?_; rintro e w' ⟨rfl, hb⟩; have HS := Lib.hid (heapB HS.out hb); have HM := Lib.hid (heapB HM.out hb); have HB := Lib.hid (bel2M HB.out hb); clear hb; have y2 := rowCell HS.out 2 (.int .i64 s.s.1) rfl; have y3 := rowCell HS.out 3 (.int .i64 s.s.2) rfl; have m2 := rowCell HM.out 2 (.int .i64 m.s) rfl)
      | (go_at_call_of 43 ([Value.int .i64 m.s]); refine (C1.out _).mono ?_; rintro e w' ⟨rfl, hb⟩; have HS := Lib.hid (heapB HS.out hb); have HM := Lib.hid (heapB HM.out hb); have HB := Lib.hid (bel2M HB.out hb); clear hb; have y4 := rowCell HS.out 4 (.int .i64 s.c.1) rfl; have y5 := rowCell HS.out 5 (.int .i64 s.c.2) rfl; have m3 := rowCell HM.out 3 (.int .i64 m.c) rfl)
      | (go_at_call_of 43 ([Value.int .i64 m.c]); refine (C2.out _).mono ?_; rintro e w' ⟨rfl, hb⟩; have HB := Lib.hid (bel2M HB.out hb); rename (∀ (a : Act) (w_1 : World), Code.wp _ _ _ a w_1 → _) => hK1; rename (∀ (a : Act) (w_1 : World), wpList _ _ _ _ a w_1 → _) => hK; refine hK _ _ (sim_end 4 (.bool false) (by kernel_rfl) fun b hb1 hb2 => hK1 _ _ ?_); go_wp2_with fail; refine bodyPost_ret (v := .bool false) ?_ hb2 ⟨rfl, HB.out⟩; rw [results_tmp (t := 4) rfl, hb1]))
set_option maxHeartbeats 2000000 in
theorem fits_3 (s : Shp) (m : Msg) (P : Plc) (w : World) (h : MsgK w m P) (h0 : allowB s.v m.v = true) (h1 : allowB s.s m.s = true) (h2 : allowB s.c m.c = true) (h3 : allowB s.t m.t = false) : Calls Try.prog 21 #[.agg (shC s), agM m P] w (Ans (.bool false) w) := by
  obtain ⟨x1, x2, x3⟩ := box2B w (shC s) (msC m P) 51 30
  have C0 := Lib.hid (fun W => show Calls Try.prog 43 #[.agg #[.int .i64 s.v.1, .int .i64 s.v.2], .int .i64 m.v] W (Ans (.bool true) W) from by have := gAllow_any s.v m.v W; rw [h0] at this; exact this)
  have C1 := Lib.hid (fun W => show Calls Try.prog 43 #[.agg #[.int .i64 s.s.1, .int .i64 s.s.2], .int .i64 m.s] W (Ans (.bool true) W) from by have := gAllow_any s.s m.s W; rw [h1] at this; exact this)
  have C2 := Lib.hid (fun W => show Calls Try.prog 43 #[.agg #[.int .i64 s.c.1, .int .i64 s.c.2], .int .i64 m.c] W (Ans (.bool true) W) from by have := gAllow_any s.c m.c W; rw [h2] at this; exact this)
  have C3 := Lib.hid (fun W => show Calls Try.prog 43 #[.agg #[.int .i64 s.t.1, .int .i64 s.t.2], .int .i64 m.t] W (Ans (.bool false) W) from by have := gAllow_any s.t m.t W; rw [h3] at this; exact this)
  have HS := Lib.hid x1
  have HM := Lib.hid x2
  have HB := Lib.hid x3
  have hxl := strB_size m.d
  clear x1 x2 x3 h
  go_enter Try.func21, Try.ntmps21
  go_wp2_with (first
      | (go_at_call_of 43 ([Value.int .i64 m.v]); refine (C0.out _).mono ?_; rintro e w' ⟨rfl, hb⟩; have HS := Lib.hid (heapB HS.out hb); have HM := Lib.hid (heapB HM.out hb); have HB := Lib.hid (bel2M HB.out hb); clear hb; have y2 := rowCell HS.out 2 (.int .i64 s.s.1) rfl; have y3 := rowCell HS.out 3 (.int .i64 s.s.2) rfl; have m2 := rowCell HM.out 2 (.int .i64 m.s) rfl)
      | (go_at_call_of 43 ([Value.int .i64 m.s]); refine (C1.out _).mono ?_; rintro e w' ⟨rfl, hb⟩; have HS := Lib.hid (heapB HS.out hb); have HM := Lib.hid (heapB HM.out hb); have HB := Lib.hid (bel2M HB.out hb); clear hb; have y4 := rowCell HS.out 4 (.int .i64 s.c.1) rfl; have y5 := rowCell HS.out 5 (.int .i64 s.c.2) rfl; have m3 := rowCell HM.out 3 (.int .i64 m.c) rfl)
      | (go_at_call_of 43 ([Value.int .i64 m.c]); refine (C2.out _).mono ?_; rintro e w' ⟨rfl, hb⟩; have HS := Lib.hid (heapB HS.out hb); have HM := Lib.hid (heapB HM.out hb); have HB := Lib.hid (bel2M HB.out hb); clear hb; have y6 := rowCell HS.out 6 (.int .i64 s.t.1) rfl; have y7 := rowCell HS.out 7 (.int .i64 s.t.2) rfl; have m4 := rowCell HM.out 4 (.int .i64 m.t) rfl)
      | (go_at_call_of 43 ([Value.int .i64 m.t]); refine (C3.out _).mono ?_; rintro e w' ⟨rfl, hb⟩; have HB := Lib.hid (bel2M HB.out hb); rename (∀ (a : Act) (w_1 : World), Code.wp _ _ _ a w_1 → _) => hK1; rename (∀ (a : Act) (w_1 : World), wpList _ _ _ _ a w_1 → _) => hK; refine hK _ _ (sim_end 4 (.bool false) (by kernel_rfl) fun b hb1 hb2 => hK1 _ _ ?_); go_wp2_with fail; refine bodyPost_ret (v := .bool false) ?_ hb2 ⟨rfl, HB.out⟩; rw [results_tmp (t := 4) rfl, hb1]))
set_option maxHeartbeats 2000000 in
theorem fits_4 (s : Shp) (m : Msg) (P : Plc) (w : World) (h : MsgK w m P) (h0 : allowB s.v m.v = true) (h1 : allowB s.s m.s = true) (h2 : allowB s.c m.c = true) (h3 : allowB s.t m.t = true) (h4 : allowB s.d (m.d.length : Nat) = false) : Calls Try.prog 21 #[.agg (shC s), agM m P] w (Ans (.bool false) w) := by
  obtain ⟨x1, x2, x3⟩ := box2B w (shC s) (msC m P) 51 30
  have C0 := Lib.hid (fun W => show Calls Try.prog 43 #[.agg #[.int .i64 s.v.1, .int .i64 s.v.2], .int .i64 m.v] W (Ans (.bool true) W) from by have := gAllow_any s.v m.v W; rw [h0] at this; exact this)
  have C1 := Lib.hid (fun W => show Calls Try.prog 43 #[.agg #[.int .i64 s.s.1, .int .i64 s.s.2], .int .i64 m.s] W (Ans (.bool true) W) from by have := gAllow_any s.s m.s W; rw [h1] at this; exact this)
  have C2 := Lib.hid (fun W => show Calls Try.prog 43 #[.agg #[.int .i64 s.c.1, .int .i64 s.c.2], .int .i64 m.c] W (Ans (.bool true) W) from by have := gAllow_any s.c m.c W; rw [h2] at this; exact this)
  have C3 := Lib.hid (fun W => show Calls Try.prog 43 #[.agg #[.int .i64 s.t.1, .int .i64 s.t.2], .int .i64 m.t] W (Ans (.bool true) W) from by have := gAllow_any s.t m.t W; rw [h3] at this; exact this)
  have C4 := Lib.hid (fun W => show Calls Try.prog 43 #[.agg #[.int .i64 s.d.1, .int .i64 s.d.2], .int .i64 (m.d.length : Nat)] W (Ans (.bool false) W) from by have := gAllow_any s.d (m.d.length : Nat) W; rw [h4] at this; exact this)
  have HS := Lib.hid x1
  have HM := Lib.hid x2
  have HB := Lib.hid x3
  have hxl := strB_size m.d
  clear x1 x2 x3 h
  go_enter Try.func21, Try.ntmps21
  go_wp2_with (first
      | (go_at_call_of 43 ([Value.int .i64 m.v]); refine (C0.out _).mono ?_; rintro e w' ⟨rfl, hb⟩; have HS := Lib.hid (heapB HS.out hb); have HM := Lib.hid (heapB HM.out hb); have HB := Lib.hid (bel2M HB.out hb); clear hb; have y2 := rowCell HS.out 2 (.int .i64 s.s.1) rfl; have y3 := rowCell HS.out 3 (.int .i64 s.s.2) rfl; have m2 := rowCell HM.out 2 (.int .i64 m.s) rfl)
      | (go_at_call_of 43 ([Value.int .i64 m.s]); refine (C1.out _).mono ?_; rintro e w' ⟨rfl, hb⟩; have HS := Lib.hid (heapB HS.out hb); have HM := Lib.hid (heapB HM.out hb); have HB := Lib.hid (bel2M HB.out hb); clear hb; have y4 := rowCell HS.out 4 (.int .i64 s.c.1) rfl; have y5 := rowCell HS.out 5 (.int .i64 s.c.2) rfl; have m3 := rowCell HM.out 3 (.int .i64 m.c) rfl)
      | (go_at_call_of 43 ([Value.int .i64 m.c]); refine (C2.out _).mono ?_; rintro e w' ⟨rfl, hb⟩; have HS := Lib.hid (heapB HS.out hb); have HM := Lib.hid (heapB HM.out hb); have HB := Lib.hid (bel2M HB.out hb); clear hb; have y6 := rowCell HS.out 6 (.int .i64 s.t.1) rfl; have y7 := rowCell HS.out 7 (.int .i64 s.t.2) rfl; have m4 := rowCell HM.out 4 (.int .i64 m.t) rfl)
      | (go_at_call_of 43 ([Value.int .i64 m.t]); refine (C3.out _).mono ?_; rintro e w' ⟨rfl, hb⟩; have HS := Lib.hid (heapB HS.out hb); have HM := Lib.hid (heapB HM.out hb); have HB := Lib.hid (bel2M HB.out hb); clear hb; have y8 := rowCell HS.out 8 (.int .i64 s.d.1) rfl; have y9 := rowCell HS.out 9 (.int .i64 s.d.2) rfl; have m5 := rowCell HM.out 5 (.string (strB m.d)) rfl)
      | (go_at_call_of 43 ([Value.int .i64 (m.d.length : Nat)]); refine (C4.out _).mono ?_; rintro e w' ⟨rfl, hb⟩; have HB := Lib.hid (bel2M HB.out hb); rename (∀ (a : Act) (w_1 : World), Code.wp _ _ _ a w_1 → _) => hK1; rename (∀ (a : Act) (w_1 : World), wpList _ _ _ _ a w_1 → _) => hK; refine hK _ _ (sim_end 4 (.bool false) (by kernel_rfl) fun b hb1 hb2 => hK1 _ _ ?_); go_wp2_with fail; refine bodyPost_ret (v := .bool false) ?_ hb2 ⟨rfl, HB.out⟩; rw [results_tmp (t := 4) rfl, hb1]))
set_option maxHeartbeats 2000000 in
theorem fits_5 (s : Shp) (m : Msg) (P : Plc) (w : World) (h : MsgK w m P) (h0 : allowB s.v m.v = true) (h1 : allowB s.s m.s = true) (h2 : allowB s.c m.c = true) (h3 : allowB s.t m.t = true) (h4 : allowB s.d (m.d.length : Nat) = true) (h5 : allowB s.x (m.x.length : Nat) = false) : Calls Try.prog 21 #[.agg (shC s), agM m P] w (Ans (.bool false) w) := by
  obtain ⟨x1, x2, x3⟩ := box2B w (shC s) (msC m P) 51 30
  have C0 := Lib.hid (fun W => show Calls Try.prog 43 #[.agg #[.int .i64 s.v.1, .int .i64 s.v.2], .int .i64 m.v] W (Ans (.bool true) W) from by have := gAllow_any s.v m.v W; rw [h0] at this; exact this)
  have C1 := Lib.hid (fun W => show Calls Try.prog 43 #[.agg #[.int .i64 s.s.1, .int .i64 s.s.2], .int .i64 m.s] W (Ans (.bool true) W) from by have := gAllow_any s.s m.s W; rw [h1] at this; exact this)
  have C2 := Lib.hid (fun W => show Calls Try.prog 43 #[.agg #[.int .i64 s.c.1, .int .i64 s.c.2], .int .i64 m.c] W (Ans (.bool true) W) from by have := gAllow_any s.c m.c W; rw [h2] at this; exact this)
  have C3 := Lib.hid (fun W => show Calls Try.prog 43 #[.agg #[.int .i64 s.t.1, .int .i64 s.t.2], .int .i64 m.t] W (Ans (.bool true) W) from by have := gAllow_any s.t m.t W; rw [h3] at this; exact this)
  have C4 := Lib.hid (fun W => show Calls Try.prog 43 #[.agg #[.int .i64 s.d.1, .int .i64 s.d.2], .int .i64 (m.d.length : Nat)] W (Ans (.bool true) W) from by have := gAllow_any s.d (m.d.length : Nat) W; rw [h4] at this; exact this)
  have C5 := Lib.hid (fun W => show Calls Try.prog 43 #[.agg #[.int .i64 s.x.1, .int .i64 s.x.2], .int .i64 (m.x.length : Nat)] W (Ans (.bool false) W) from by have := gAllow_any s.x (m.x.length : Nat) W; rw [h5] at this; exact this)
  have HS := Lib.hid x1
  have HM := Lib.hid x2
  have HB := Lib.hid x3
  have hxl := strB_size m.d
  clear x1 x2 x3 h
  go_enter Try.func21, Try.ntmps21
  go_wp2_with (first
      | (go_at_call_of 43 ([Value.int .i64 m.v]); refine (C0.out _).mono ?_; rintro e w' ⟨rfl, hb⟩; have HS := Lib.hid (heapB HS.out hb); have HM := Lib.hid (heapB HM.out hb); have HB := Lib.hid (bel2M HB.out hb); clear hb; have y2 := rowCell HS.out 2 (.int .i64 s.s.1) rfl; have y3 := rowCell HS.out 3 (.int .i64 s.s.2) rfl; have m2 := rowCell HM.out 2 (.int .i64 m.s) rfl)
      | (go_at_call_of 43 ([Value.int .i64 m.s]); refine (C1.out _).mono ?_; rintro e w' ⟨rfl, hb⟩; have HS := Lib.hid (heapB HS.out hb); have HM := Lib.hid (heapB HM.out hb); have HB := Lib.hid (bel2M HB.out hb); clear hb; have y4 := rowCell HS.out 4 (.int .i64 s.c.1) rfl; have y5 := rowCell HS.out 5 (.int .i64 s.c.2) rfl; have m3 := rowCell HM.out 3 (.int .i64 m.c) rfl)
      | (go_at_call_of 43 ([Value.int .i64 m.c]); refine (C2.out _).mono ?_; rintro e w' ⟨rfl, hb⟩; have HS := Lib.hid (heapB HS.out hb); have HM := Lib.hid (heapB HM.out hb); have HB := Lib.hid (bel2M HB.out hb); clear hb; have y6 := rowCell HS.out 6 (.int .i64 s.t.1) rfl; have y7 := rowCell HS.out 7 (.int .i64 s.t.2) rfl; have m4 := rowCell HM.out 4 (.int .i64 m.t) rfl)
      | (go_at_call_of 43 ([Value.int .i64 m.t]); refine (C3.out _).mono ?_; rintro e w' ⟨rfl, hb⟩; have HS := Lib.hid (heapB HS.out hb); have HM := Lib.hid (heapB HM.out hb); have HB := Lib.hid (bel2M HB.out hb); clear hb; have y8 := rowCell HS.out 8 (.int .i64 s.d.1) rfl; have y9 := rowCell HS.out 9 (.int .i64 s.d.2) rfl; have m5 := rowCell HM.out 5 (.string (strB m.d)) rfl)
      | (go_at_call_of 43 ([Value.int .i64 (m.d.length : Nat)]); refine (C4.out _).mono ?_; rintro e w' ⟨rfl, hb⟩; have HS := Lib.hid (heapB HS.out hb); have HM := Lib.hid (heapB HM.out hb); have HB := Lib.hid (bel2M HB.out hb); clear hb; have y10 := rowCell HS.out 10 (.int .i64 s.x.1) rfl; have y11 := rowCell HS.out 11 (.int .i64 s.x.2) rfl; have m6 := rowCell HM.out 6 (.slice P.x.1 m.x.length P.x.2) rfl)
      | (go_at_call_of 43 ([Value.int .i64 (m.x.length : Nat)]); refine (C5.out _).mono ?_; rintro e w' ⟨rfl, hb⟩; have HB := Lib.hid (bel2M HB.out hb); rename (∀ (a : Act) (w_1 : World), Code.wp _ _ _ a w_1 → _) => hK1; rename (∀ (a : Act) (w_1 : World), wpList _ _ _ _ a w_1 → _) => hK; refine hK _ _ (sim_end 4 (.bool false) (by kernel_rfl) fun b hb1 hb2 => hK1 _ _ ?_); go_wp2_with fail; refine bodyPost_ret (v := .bool false) ?_ hb2 ⟨rfl, HB.out⟩; rw [results_tmp (t := 4) rfl, hb1]))
set_option maxHeartbeats 2000000 in
theorem fits_6 (s : Shp) (m : Msg) (P : Plc) (w : World) (h : MsgK w m P) (h0 : allowB s.v m.v = true) (h1 : allowB s.s m.s = true) (h2 : allowB s.c m.c = true) (h3 : allowB s.t m.t = true) (h4 : allowB s.d (m.d.length : Nat) = true) (h5 : allowB s.x (m.x.length : Nat) = true) (h6 : noRes s m.r = false) : Calls Try.prog 21 #[.agg (shC s), agM m P] w (Ans (.bool false) w) := by
  obtain ⟨x1, x2, x3⟩ := box2B w (shC s) (msC m P) 51 30
  have C0 := Lib.hid (fun W => show Calls Try.prog 43 #[.agg #[.int .i64 s.v.1, .int .i64 s.v.2], .int .i64 m.v] W (Ans (.bool true) W) from by have := gAllow_any s.v m.v W; rw [h0] at this; exact this)
  have C1 := Lib.hid (fun W => show Calls Try.prog 43 #[.agg #[.int .i64 s.s.1, .int .i64 s.s.2], .int .i64 m.s] W (Ans (.bool true) W) from by have := gAllow_any s.s m.s W; rw [h1] at this; exact this)
  have C2 := Lib.hid (fun W => show Calls Try.prog 43 #[.agg #[.int .i64 s.c.1, .int .i64 s.c.2], .int .i64 m.c] W (Ans (.bool true) W) from by have := gAllow_any s.c m.c W; rw [h2] at this; exact this)
  have C3 := Lib.hid (fun W => show Calls Try.prog 43 #[.agg #[.int .i64 s.t.1, .int .i64 s.t.2], .int .i64 m.t] W (Ans (.bool true) W) from by have := gAllow_any s.t m.t W; rw [h3] at this; exact this)
  have C4 := Lib.hid (fun W => show Calls Try.prog 43 #[.agg #[.int .i64 s.d.1, .int .i64 s.d.2], .int .i64 (m.d.length : Nat)] W (Ans (.bool true) W) from by have := gAllow_any s.d (m.d.length : Nat) W; rw [h4] at this; exact this)
  have C5 := Lib.hid (fun W => show Calls Try.prog 43 #[.agg #[.int .i64 s.x.1, .int .i64 s.x.2], .int .i64 (m.x.length : Nat)] W (Ans (.bool true) W) from by have := gAllow_any s.x (m.x.length : Nat) W; rw [h5] at this; exact this)
  have HS := Lib.hid x1
  have HM := Lib.hid x2
  have HB := Lib.hid x3
  have hxl := strB_size m.d
  clear x1 x2 x3 h
  unfold noRes at h6
  have hr : s.r = false ∧ (decide (m.r.1 = 0) && decide (m.r.2 = 0)) = false := by simpa using h6
  obtain ⟨hr, hr2⟩ := hr
  by_cases hz1 : m.r.1 = 0
  · have hz2 : ¬ m.r.2 = 0 := by intro h; simp [hz1, h] at hr2
    clear hr2 h6
    go_enter Try.func21, Try.ntmps21
    go_wp2_with (first
        | (go_at_call_of 43 ([Value.int .i64 m.v]); refine (C0.out _).mono ?_; rintro e w' ⟨rfl, hb⟩; have HS := Lib.hid (heapB HS.out hb); have HM := Lib.hid (heapB HM.out hb); have HB := Lib.hid (bel2M HB.out hb); clear hb; have y2 := rowCell HS.out 2 (.int .i64 s.s.1) rfl; have y3 := rowCell HS.out 3 (.int .i64 s.s.2) rfl; have m2 := rowCell HM.out 2 (.int .i64 m.s) rfl)
        | (go_at_call_of 43 ([Value.int .i64 m.s]); refine (C1.out _).mono ?_; rintro e w' ⟨rfl, hb⟩; have HS := Lib.hid (heapB HS.out hb); have HM := Lib.hid (heapB HM.out hb); have HB := Lib.hid (bel2M HB.out hb); clear hb; have y4 := rowCell HS.out 4 (.int .i64 s.c.1) rfl; have y5 := rowCell HS.out 5 (.int .i64 s.c.2) rfl; have m3 := rowCell HM.out 3 (.int .i64 m.c) rfl)
        | (go_at_call_of 43 ([Value.int .i64 m.c]); refine (C2.out _).mono ?_; rintro e w' ⟨rfl, hb⟩; have HS := Lib.hid (heapB HS.out hb); have HM := Lib.hid (heapB HM.out hb); have HB := Lib.hid (bel2M HB.out hb); clear hb; have y6 := rowCell HS.out 6 (.int .i64 s.t.1) rfl; have y7 := rowCell HS.out 7 (.int .i64 s.t.2) rfl; have m4 := rowCell HM.out 4 (.int .i64 m.t) rfl)
        | (go_at_call_of 43 ([Value.int .i64 m.t]); refine (C3.out _).mono ?_; rintro e w' ⟨rfl, hb⟩; have HS := Lib.hid (heapB HS.out hb); have HM := Lib.hid (heapB HM.out hb); have HB := Lib.hid (bel2M HB.out hb); clear hb; have y8 := rowCell HS.out 8 (.int .i64 s.d.1) rfl; have y9 := rowCell HS.out 9 (.int .i64 s.d.2) rfl; have m5 := rowCell HM.out 5 (.string (strB m.d)) rfl)
        | (go_at_call_of 43 ([Value.int .i64 (m.d.length : Nat)]); refine (C4.out _).mono ?_; rintro e w' ⟨rfl, hb⟩; have HS := Lib.hid (heapB HS.out hb); have HM := Lib.hid (heapB HM.out hb); have HB := Lib.hid (bel2M HB.out hb); clear hb; have y10 := rowCell HS.out 10 (.int .i64 s.x.1) rfl; have y11 := rowCell HS.out 11 (.int .i64 s.x.2) rfl; have m6 := rowCell HM.out 6 (.slice P.x.1 m.x.length P.x.2) rfl)
        | (go_at_call_of 43 ([Value.int .i64 (m.x.length : Nat)]); refine (C5.out _).mono ?_; rintro e w' ⟨rfl, hb⟩; have HS := Lib.hid (heapB HS.out hb); have HM := Lib.hid (heapB HM.out hb); have HB := Lib.hid (bel2M HB.out hb); clear hb; have y12 := rowCell HS.out 12 (.bool s.r) rfl; have y13 := rowCell HS.out 13 (.int .i64 s.b.1) rfl; have y14 := rowCell HS.out 14 (.int .i64 s.b.2) rfl; rw [hr] at y12; have m7 := rowCell HM.out 7 (.int .i64 m.r.1) rfl; have m8 := rowCell HM.out 8 (.int .i64 m.r.2) rfl; have m9 := rowCell HM.out 9 (.slice P.b.1 m.b.length P.b.2) rfl))
    go_ret
    exact ⟨rfl, HB.out⟩
  · clear hr2 h6
    go_enter Try.func21, Try.ntmps21
    go_wp2_with (first
        | (go_at_call_of 43 ([Value.int .i64 m.v]); refine (C0.out _).mono ?_; rintro e w' ⟨rfl, hb⟩; have HS := Lib.hid (heapB HS.out hb); have HM := Lib.hid (heapB HM.out hb); have HB := Lib.hid (bel2M HB.out hb); clear hb; have y2 := rowCell HS.out 2 (.int .i64 s.s.1) rfl; have y3 := rowCell HS.out 3 (.int .i64 s.s.2) rfl; have m2 := rowCell HM.out 2 (.int .i64 m.s) rfl)
        | (go_at_call_of 43 ([Value.int .i64 m.s]); refine (C1.out _).mono ?_; rintro e w' ⟨rfl, hb⟩; have HS := Lib.hid (heapB HS.out hb); have HM := Lib.hid (heapB HM.out hb); have HB := Lib.hid (bel2M HB.out hb); clear hb; have y4 := rowCell HS.out 4 (.int .i64 s.c.1) rfl; have y5 := rowCell HS.out 5 (.int .i64 s.c.2) rfl; have m3 := rowCell HM.out 3 (.int .i64 m.c) rfl)
        | (go_at_call_of 43 ([Value.int .i64 m.c]); refine (C2.out _).mono ?_; rintro e w' ⟨rfl, hb⟩; have HS := Lib.hid (heapB HS.out hb); have HM := Lib.hid (heapB HM.out hb); have HB := Lib.hid (bel2M HB.out hb); clear hb; have y6 := rowCell HS.out 6 (.int .i64 s.t.1) rfl; have y7 := rowCell HS.out 7 (.int .i64 s.t.2) rfl; have m4 := rowCell HM.out 4 (.int .i64 m.t) rfl)
        | (go_at_call_of 43 ([Value.int .i64 m.t]); refine (C3.out _).mono ?_; rintro e w' ⟨rfl, hb⟩; have HS := Lib.hid (heapB HS.out hb); have HM := Lib.hid (heapB HM.out hb); have HB := Lib.hid (bel2M HB.out hb); clear hb; have y8 := rowCell HS.out 8 (.int .i64 s.d.1) rfl; have y9 := rowCell HS.out 9 (.int .i64 s.d.2) rfl; have m5 := rowCell HM.out 5 (.string (strB m.d)) rfl)
        | (go_at_call_of 43 ([Value.int .i64 (m.d.length : Nat)]); refine (C4.out _).mono ?_; rintro e w' ⟨rfl, hb⟩; have HS := Lib.hid (heapB HS.out hb); have HM := Lib.hid (heapB HM.out hb); have HB := Lib.hid (bel2M HB.out hb); clear hb; have y10 := rowCell HS.out 10 (.int .i64 s.x.1) rfl; have y11 := rowCell HS.out 11 (.int .i64 s.x.2) rfl; have m6 := rowCell HM.out 6 (.slice P.x.1 m.x.length P.x.2) rfl)
        | (go_at_call_of 43 ([Value.int .i64 (m.x.length : Nat)]); refine (C5.out _).mono ?_; rintro e w' ⟨rfl, hb⟩; have HS := Lib.hid (heapB HS.out hb); have HM := Lib.hid (heapB HM.out hb); have HB := Lib.hid (bel2M HB.out hb); clear hb; have y12 := rowCell HS.out 12 (.bool s.r) rfl; have y13 := rowCell HS.out 13 (.int .i64 s.b.1) rfl; have y14 := rowCell HS.out 14 (.int .i64 s.b.2) rfl; rw [hr] at y12; have m7 := rowCell HM.out 7 (.int .i64 m.r.1) rfl; have m8 := rowCell HM.out 8 (.int .i64 m.r.2) rfl; have m9 := rowCell HM.out 9 (.slice P.b.1 m.b.length P.b.2) rfl))
    go_ret
    exact ⟨rfl, HB.out⟩
set_option maxHeartbeats 2000000 in
theorem fits_7 (s : Shp) (m : Msg) (P : Plc) (w : World) (h : MsgK w m P) (h0 : allowB s.v m.v = true) (h1 : allowB s.s m.s = true) (h2 : allowB s.c m.c = true) (h3 : allowB s.t m.t = true) (h4 : allowB s.d (m.d.length : Nat) = true) (h5 : allowB s.x (m.x.length : Nat) = true) (h6 : noRes s m.r = true) (h7 : eachE m.b s.b = false) : Calls Try.prog 21 #[.agg (shC s), agM m P] w (Ans (.bool false) w) := by
  obtain ⟨x1, x2, x3⟩ := box2B w (shC s) (msC m P) 51 30
  have C0 := Lib.hid (fun W => show Calls Try.prog 43 #[.agg #[.int .i64 s.v.1, .int .i64 s.v.2], .int .i64 m.v] W (Ans (.bool true) W) from by have := gAllow_any s.v m.v W; rw [h0] at this; exact this)
  have C1 := Lib.hid (fun W => show Calls Try.prog 43 #[.agg #[.int .i64 s.s.1, .int .i64 s.s.2], .int .i64 m.s] W (Ans (.bool true) W) from by have := gAllow_any s.s m.s W; rw [h1] at this; exact this)
  have C2 := Lib.hid (fun W => show Calls Try.prog 43 #[.agg #[.int .i64 s.c.1, .int .i64 s.c.2], .int .i64 m.c] W (Ans (.bool true) W) from by have := gAllow_any s.c m.c W; rw [h2] at this; exact this)
  have C3 := Lib.hid (fun W => show Calls Try.prog 43 #[.agg #[.int .i64 s.t.1, .int .i64 s.t.2], .int .i64 m.t] W (Ans (.bool true) W) from by have := gAllow_any s.t m.t W; rw [h3] at this; exact this)
  have C4 := Lib.hid (fun W => show Calls Try.prog 43 #[.agg #[.int .i64 s.d.1, .int .i64 s.d.2], .int .i64 (m.d.length : Nat)] W (Ans (.bool true) W) from by have := gAllow_any s.d (m.d.length : Nat) W; rw [h4] at this; exact this)
  have C5 := Lib.hid (fun W => show Calls Try.prog 43 #[.agg #[.int .i64 s.x.1, .int .i64 s.x.2], .int .i64 (m.x.length : Nat)] W (Ans (.bool true) W) from by have := gAllow_any s.x (m.x.length : Nat) W; rw [h5] at this; exact this)
  have C7 := Lib.hid (fun W (hb : Below w.heap.size w W) => show Calls Try.prog 44 #[.slice P.b.1 m.b.length P.b.2, .agg #[.int .i64 s.b.1, .int .i64 s.b.2], .func (Fn.func 45) #[] #[]] W (Ans (.bool false) W) from by have := eachE_any P.b.1 P.b.2 m.b s.b W (h.b.below hb); rw [h7] at this; exact this)
  have HS := Lib.hid x1
  have HM := Lib.hid x2
  have HB := Lib.hid x3
  have hxl := strB_size m.d
  clear x1 x2 x3 h
  unfold noRes at h6
  cases hr : s.r
  · have hz : m.r.1 = 0 ∧ m.r.2 = 0 := by simpa [hr] using h6
    obtain ⟨hz1, hz2⟩ := hz
    go_enter Try.func21, Try.ntmps21
    go_wp2_with (first
        | (go_at_call_of 43 ([Value.int .i64 m.v]); refine (C0.out _).mono ?_; rintro e w' ⟨rfl, hb⟩; have HS := Lib.hid (heapB HS.out hb); have HM := Lib.hid (heapB HM.out hb); have HB := Lib.hid (bel2M HB.out hb); clear hb; have y2 := rowCell HS.out 2 (.int .i64 s.s.1) rfl; have y3 := rowCell HS.out 3 (.int .i64 s.s.2) rfl; have m2 := rowCell HM.out 2 (.int .i64 m.s) rfl)
        | (go_at_call_of 43 ([Value.int .i64 m.s]); refine (C1.out _).mono ?_; rintro e w' ⟨rfl, hb⟩; have HS := Lib.hid (heapB HS.out hb); have HM := Lib.hid (heapB HM.out hb); have HB := Lib.hid (bel2M HB.out hb); clear hb; have y4 := rowCell HS.out 4 (.int .i64 s.c.1) rfl; have y5 := rowCell HS.out 5 (.int .i64 s.c.2) rfl; have m3 := rowCell HM.out 3 (.int .i64 m.c) rfl)
        | (go_at_call_of 43 ([Value.int .i64 m.c]); refine (C2.out _).mono ?_; rintro e w' ⟨rfl, hb⟩; have HS := Lib.hid (heapB HS.out hb); have HM := Lib.hid (heapB HM.out hb); have HB := Lib.hid (bel2M HB.out hb); clear hb; have y6 := rowCell HS.out 6 (.int .i64 s.t.1) rfl; have y7 := rowCell HS.out 7 (.int .i64 s.t.2) rfl; have m4 := rowCell HM.out 4 (.int .i64 m.t) rfl)
        | (go_at_call_of 43 ([Value.int .i64 m.t]); refine (C3.out _).mono ?_; rintro e w' ⟨rfl, hb⟩; have HS := Lib.hid (heapB HS.out hb); have HM := Lib.hid (heapB HM.out hb); have HB := Lib.hid (bel2M HB.out hb); clear hb; have y8 := rowCell HS.out 8 (.int .i64 s.d.1) rfl; have y9 := rowCell HS.out 9 (.int .i64 s.d.2) rfl; have m5 := rowCell HM.out 5 (.string (strB m.d)) rfl)
        | (go_at_call_of 43 ([Value.int .i64 (m.d.length : Nat)]); refine (C4.out _).mono ?_; rintro e w' ⟨rfl, hb⟩; have HS := Lib.hid (heapB HS.out hb); have HM := Lib.hid (heapB HM.out hb); have HB := Lib.hid (bel2M HB.out hb); clear hb; have y10 := rowCell HS.out 10 (.int .i64 s.x.1) rfl; have y11 := rowCell HS.out 11 (.int .i64 s.x.2) rfl; have m6 := rowCell HM.out 6 (.slice P.x.1 m.x.length P.x.2) rfl)
        | (go_at_call_of 43 ([Value.int .i64 (m.x.length : Nat)]); refine (C5.out _).mono ?_; rintro e w' ⟨rfl, hb⟩; have HS := Lib.hid (heapB HS.out hb); have HM := Lib.hid (heapB HM.out hb); have HB := Lib.hid (bel2M HB.out hb); clear hb; have y12 := rowCell HS.out 12 (.bool s.r) rfl; have y13 := rowCell HS.out 13 (.int .i64 s.b.1) rfl; have y14 := rowCell HS.out 14 (.int .i64 s.b.2) rfl; rw [hr] at y12; have m7 := rowCell HM.out 7 (.int .i64 m.r.1) rfl; have m8 := rowCell HM.out 8 (.int .i64 m.r.2) rfl; have m9 := rowCell HM.out 9 (.slice P.b.1 m.b.length P.b.2) rfl)
        | (go_at_call_of 44 (Value.slice P.b.1 m.b.length P.b.2); refine (C7.out _ HB.out).mono ?_; rintro e w' ⟨rfl, hb⟩; have HB := Lib.hid (bel2M HB.out hb); rename (∀ (a : Act) (w_1 : World), Code.wp _ _ _ a w_1 → _) => hK1; rename (∀ (a : Act) (w_1 : World), wpList _ _ _ _ a w_1 → _) => hK; refine hK _ _ (sim_end 4 (.bool false) (by kernel_rfl) fun b hb1 hb2 => hK1 _ _ ?_); go_wp2_with fail; refine bodyPost_ret (v := .bool false) ?_ hb2 ⟨rfl, HB.out⟩; rw [results_tmp (t := 4) rfl, hb1]))
  · skip
    go_enter Try.func21, Try.ntmps21
    go_wp2_with (first
        | (go_at_call_of 43 ([Value.int .i64 m.v]); refine (C0.out _).mono ?_; rintro e w' ⟨rfl, hb⟩; have HS := Lib.hid (heapB HS.out hb); have HM := Lib.hid (heapB HM.out hb); have HB := Lib.hid (bel2M HB.out hb); clear hb; have y2 := rowCell HS.out 2 (.int .i64 s.s.1) rfl; have y3 := rowCell HS.out 3 (.int .i64 s.s.2) rfl; have m2 := rowCell HM.out 2 (.int .i64 m.s) rfl)
        | (go_at_call_of 43 ([Value.int .i64 m.s]); refine (C1.out _).mono ?_; rintro e w' ⟨rfl, hb⟩; have HS := Lib.hid (heapB HS.out hb); have HM := Lib.hid (heapB HM.out hb); have HB := Lib.hid (bel2M HB.out hb); clear hb; have y4 := rowCell HS.out 4 (.int .i64 s.c.1) rfl; have y5 := rowCell HS.out 5 (.int .i64 s.c.2) rfl; have m3 := rowCell HM.out 3 (.int .i64 m.c) rfl)
        | (go_at_call_of 43 ([Value.int .i64 m.c]); refine (C2.out _).mono ?_; rintro e w' ⟨rfl, hb⟩; have HS := Lib.hid (heapB HS.out hb); have HM := Lib.hid (heapB HM.out hb); have HB := Lib.hid (bel2M HB.out hb); clear hb; have y6 := rowCell HS.out 6 (.int .i64 s.t.1) rfl; have y7 := rowCell HS.out 7 (.int .i64 s.t.2) rfl; have m4 := rowCell HM.out 4 (.int .i64 m.t) rfl)
        | (go_at_call_of 43 ([Value.int .i64 m.t]); refine (C3.out _).mono ?_; rintro e w' ⟨rfl, hb⟩; have HS := Lib.hid (heapB HS.out hb); have HM := Lib.hid (heapB HM.out hb); have HB := Lib.hid (bel2M HB.out hb); clear hb; have y8 := rowCell HS.out 8 (.int .i64 s.d.1) rfl; have y9 := rowCell HS.out 9 (.int .i64 s.d.2) rfl; have m5 := rowCell HM.out 5 (.string (strB m.d)) rfl)
        | (go_at_call_of 43 ([Value.int .i64 (m.d.length : Nat)]); refine (C4.out _).mono ?_; rintro e w' ⟨rfl, hb⟩; have HS := Lib.hid (heapB HS.out hb); have HM := Lib.hid (heapB HM.out hb); have HB := Lib.hid (bel2M HB.out hb); clear hb; have y10 := rowCell HS.out 10 (.int .i64 s.x.1) rfl; have y11 := rowCell HS.out 11 (.int .i64 s.x.2) rfl; have m6 := rowCell HM.out 6 (.slice P.x.1 m.x.length P.x.2) rfl)
        | (go_at_call_of 43 ([Value.int .i64 (m.x.length : Nat)]); refine (C5.out _).mono ?_; rintro e w' ⟨rfl, hb⟩; have HS := Lib.hid (heapB HS.out hb); have HM := Lib.hid (heapB HM.out hb); have HB := Lib.hid (bel2M HB.out hb); clear hb; have y12 := rowCell HS.out 12 (.bool s.r) rfl; have y13 := rowCell HS.out 13 (.int .i64 s.b.1) rfl; have y14 := rowCell HS.out 14 (.int .i64 s.b.2) rfl; rw [hr] at y12; have m7 := rowCell HM.out 7 (.int .i64 m.r.1) rfl; have m8 := rowCell HM.out 8 (.int .i64 m.r.2) rfl; have m9 := rowCell HM.out 9 (.slice P.b.1 m.b.length P.b.2) rfl)
        | (go_at_call_of 44 (Value.slice P.b.1 m.b.length P.b.2); refine (C7.out _ HB.out).mono ?_; rintro e w' ⟨rfl, hb⟩; have HB := Lib.hid (bel2M HB.out hb); rename (∀ (a : Act) (w_1 : World), Code.wp _ _ _ a w_1 → _) => hK1; rename (∀ (a : Act) (w_1 : World), wpList _ _ _ _ a w_1 → _) => hK; refine hK _ _ (sim_end 4 (.bool false) (by kernel_rfl) fun b hb1 hb2 => hK1 _ _ ?_); go_wp2_with fail; refine bodyPost_ret (v := .bool false) ?_ hb2 ⟨rfl, HB.out⟩; rw [results_tmp (t := 4) rfl, hb1]))
set_option maxHeartbeats 2000000 in
theorem fits_8 (s : Shp) (m : Msg) (P : Plc) (w : World) (h : MsgK w m P) (h0 : allowB s.v m.v = true) (h1 : allowB s.s m.s = true) (h2 : allowB s.c m.c = true) (h3 : allowB s.t m.t = true) (h4 : allowB s.d (m.d.length : Nat) = true) (h5 : allowB s.x (m.x.length : Nat) = true) (h6 : noRes s m.r = true) (h7 : eachE m.b s.b = true) (h8 : eachE m.p s.p = false) : Calls Try.prog 21 #[.agg (shC s), agM m P] w (Ans (.bool false) w) := by
  obtain ⟨x1, x2, x3⟩ := box2B w (shC s) (msC m P) 51 30
  have C0 := Lib.hid (fun W => show Calls Try.prog 43 #[.agg #[.int .i64 s.v.1, .int .i64 s.v.2], .int .i64 m.v] W (Ans (.bool true) W) from by have := gAllow_any s.v m.v W; rw [h0] at this; exact this)
  have C1 := Lib.hid (fun W => show Calls Try.prog 43 #[.agg #[.int .i64 s.s.1, .int .i64 s.s.2], .int .i64 m.s] W (Ans (.bool true) W) from by have := gAllow_any s.s m.s W; rw [h1] at this; exact this)
  have C2 := Lib.hid (fun W => show Calls Try.prog 43 #[.agg #[.int .i64 s.c.1, .int .i64 s.c.2], .int .i64 m.c] W (Ans (.bool true) W) from by have := gAllow_any s.c m.c W; rw [h2] at this; exact this)
  have C3 := Lib.hid (fun W => show Calls Try.prog 43 #[.agg #[.int .i64 s.t.1, .int .i64 s.t.2], .int .i64 m.t] W (Ans (.bool true) W) from by have := gAllow_any s.t m.t W; rw [h3] at this; exact this)
  have C4 := Lib.hid (fun W => show Calls Try.prog 43 #[.agg #[.int .i64 s.d.1, .int .i64 s.d.2], .int .i64 (m.d.length : Nat)] W (Ans (.bool true) W) from by have := gAllow_any s.d (m.d.length : Nat) W; rw [h4] at this; exact this)
  have C5 := Lib.hid (fun W => show Calls Try.prog 43 #[.agg #[.int .i64 s.x.1, .int .i64 s.x.2], .int .i64 (m.x.length : Nat)] W (Ans (.bool true) W) from by have := gAllow_any s.x (m.x.length : Nat) W; rw [h5] at this; exact this)
  have C7 := Lib.hid (fun W (hb : Below w.heap.size w W) => show Calls Try.prog 44 #[.slice P.b.1 m.b.length P.b.2, .agg #[.int .i64 s.b.1, .int .i64 s.b.2], .func (Fn.func 45) #[] #[]] W (Ans (.bool true) W) from by have := eachE_any P.b.1 P.b.2 m.b s.b W (h.b.below hb); rw [h7] at this; exact this)
  have C8 := Lib.hid (fun W (hb : Below w.heap.size w W) => show Calls Try.prog 44 #[.slice P.p.1 m.p.length P.p.2, .agg #[.int .i64 s.p.1, .int .i64 s.p.2], .func (Fn.func 45) #[] #[]] W (Ans (.bool false) W) from by have := eachE_any P.p.1 P.p.2 m.p s.p W (h.p.below hb); rw [h8] at this; exact this)
  have HS := Lib.hid x1
  have HM := Lib.hid x2
  have HB := Lib.hid x3
  have hxl := strB_size m.d
  clear x1 x2 x3 h
  unfold noRes at h6
  cases hr : s.r
  · have hz : m.r.1 = 0 ∧ m.r.2 = 0 := by simpa [hr] using h6
    obtain ⟨hz1, hz2⟩ := hz
    go_enter Try.func21, Try.ntmps21
    go_wp2_with (first
        | (go_at_call_of 43 ([Value.int .i64 m.v]); refine (C0.out _).mono ?_; rintro e w' ⟨rfl, hb⟩; have HS := Lib.hid (heapB HS.out hb); have HM := Lib.hid (heapB HM.out hb); have HB := Lib.hid (bel2M HB.out hb); clear hb; have y2 := rowCell HS.out 2 (.int .i64 s.s.1) rfl; have y3 := rowCell HS.out 3 (.int .i64 s.s.2) rfl; have m2 := rowCell HM.out 2 (.int .i64 m.s) rfl)
        | (go_at_call_of 43 ([Value.int .i64 m.s]); refine (C1.out _).mono ?_; rintro e w' ⟨rfl, hb⟩; have HS := Lib.hid (heapB HS.out hb); have HM := Lib.hid (heapB HM.out hb); have HB := Lib.hid (bel2M HB.out hb); clear hb; have y4 := rowCell HS.out 4 (.int .i64 s.c.1) rfl; have y5 := rowCell HS.out 5 (.int .i64 s.c.2) rfl; have m3 := rowCell HM.out 3 (.int .i64 m.c) rfl)
        | (go_at_call_of 43 ([Value.int .i64 m.c]); refine (C2.out _).mono ?_; rintro e w' ⟨rfl, hb⟩; have HS := Lib.hid (heapB HS.out hb); have HM := Lib.hid (heapB HM.out hb); have HB := Lib.hid (bel2M HB.out hb); clear hb; have y6 := rowCell HS.out 6 (.int .i64 s.t.1) rfl; have y7 := rowCell HS.out 7 (.int .i64 s.t.2) rfl; have m4 := rowCell HM.out 4 (.int .i64 m.t) rfl)
        | (go_at_call_of 43 ([Value.int .i64 m.t]); refine (C3.out _).mono ?_; rintro e w' ⟨rfl, hb⟩; have HS := Lib.hid (heapB HS.out hb); have HM := Lib.hid (heapB HM.out hb); have HB := Lib.hid (bel2M HB.out hb); clear hb; have y8 := rowCell HS.out 8 (.int .i64 s.d.1) rfl; have y9 := rowCell HS.out 9 (.int .i64 s.d.2) rfl; have m5 := rowCell HM.out 5 (.string (strB m.d)) rfl)
        | (go_at_call_of 43 ([Value.int .i64 (m.d.length : Nat)]); refine (C4.out _).mono ?_; rintro e w' ⟨rfl, hb⟩; have HS := Lib.hid (heapB HS.out hb); have HM := Lib.hid (heapB HM.out hb); have HB := Lib.hid (bel2M HB.out hb); clear hb; have y10 := rowCell HS.out 10 (.int .i64 s.x.1) rfl; have y11 := rowCell HS.out 11 (.int .i64 s.x.2) rfl; have m6 := rowCell HM.out 6 (.slice P.x.1 m.x.length P.x.2) rfl)
        | (go_at_call_of 43 ([Value.int .i64 (m.x.length : Nat)]); refine (C5.out _).mono ?_; rintro e w' ⟨rfl, hb⟩; have HS := Lib.hid (heapB HS.out hb); have HM := Lib.hid (heapB HM.out hb); have HB := Lib.hid (bel2M HB.out hb); clear hb; have y12 := rowCell HS.out 12 (.bool s.r) rfl; have y13 := rowCell HS.out 13 (.int .i64 s.b.1) rfl; have y14 := rowCell HS.out 14 (.int .i64 s.b.2) rfl; rw [hr] at y12; have m7 := rowCell HM.out 7 (.int .i64 m.r.1) rfl; have m8 := rowCell HM.out 8 (.int .i64 m.r.2) rfl; have m9 := rowCell HM.out 9 (.slice P.b.1 m.b.length P.b.2) rfl)
        | (go_at_call_of 44 (Value.slice P.b.1 m.b.length P.b.2); refine (C7.out _ HB.out).mono ?_; rintro e w' ⟨rfl, hb⟩; have HS := Lib.hid (heapB HS.out hb); have HM := Lib.hid (heapB HM.out hb); have HB := Lib.hid (bel2M HB.out hb); clear hb; have y15 := rowCell HS.out 15 (.int .i64 s.p.1) rfl; have y16 := rowCell HS.out 16 (.int .i64 s.p.2) rfl; have m10 := rowCell HM.out 10 (.slice P.p.1 m.p.length P.p.2) rfl)
        | (go_at_call_of 44 (Value.slice P.p.1 m.p.length P.p.2); refine (C8.out _ HB.out).mono ?_; rintro e w' ⟨rfl, hb⟩; have HB := Lib.hid (bel2M HB.out hb); rename (∀ (a : Act) (w_1 : World), Code.wp _ _ _ a w_1 → _) => hK1; rename (∀ (a : Act) (w_1 : World), wpList _ _ _ _ a w_1 → _) => hK; refine hK _ _ (sim_end 4 (.bool false) (by kernel_rfl) fun b hb1 hb2 => hK1 _ _ ?_); go_wp2_with fail; refine bodyPost_ret (v := .bool false) ?_ hb2 ⟨rfl, HB.out⟩; rw [results_tmp (t := 4) rfl, hb1]))
  · skip
    go_enter Try.func21, Try.ntmps21
    go_wp2_with (first
        | (go_at_call_of 43 ([Value.int .i64 m.v]); refine (C0.out _).mono ?_; rintro e w' ⟨rfl, hb⟩; have HS := Lib.hid (heapB HS.out hb); have HM := Lib.hid (heapB HM.out hb); have HB := Lib.hid (bel2M HB.out hb); clear hb; have y2 := rowCell HS.out 2 (.int .i64 s.s.1) rfl; have y3 := rowCell HS.out 3 (.int .i64 s.s.2) rfl; have m2 := rowCell HM.out 2 (.int .i64 m.s) rfl)
        | (go_at_call_of 43 ([Value.int .i64 m.s]); refine (C1.out _).mono ?_; rintro e w' ⟨rfl, hb⟩; have HS := Lib.hid (heapB HS.out hb); have HM := Lib.hid (heapB HM.out hb); have HB := Lib.hid (bel2M HB.out hb); clear hb; have y4 := rowCell HS.out 4 (.int .i64 s.c.1) rfl; have y5 := rowCell HS.out 5 (.int .i64 s.c.2) rfl; have m3 := rowCell HM.out 3 (.int .i64 m.c) rfl)
        | (go_at_call_of 43 ([Value.int .i64 m.c]); refine (C2.out _).mono ?_; rintro e w' ⟨rfl, hb⟩; have HS := Lib.hid (heapB HS.out hb); have HM := Lib.hid (heapB HM.out hb); have HB := Lib.hid (bel2M HB.out hb); clear hb; have y6 := rowCell HS.out 6 (.int .i64 s.t.1) rfl; have y7 := rowCell HS.out 7 (.int .i64 s.t.2) rfl; have m4 := rowCell HM.out 4 (.int .i64 m.t) rfl)
        | (go_at_call_of 43 ([Value.int .i64 m.t]); refine (C3.out _).mono ?_; rintro e w' ⟨rfl, hb⟩; have HS := Lib.hid (heapB HS.out hb); have HM := Lib.hid (heapB HM.out hb); have HB := Lib.hid (bel2M HB.out hb); clear hb; have y8 := rowCell HS.out 8 (.int .i64 s.d.1) rfl; have y9 := rowCell HS.out 9 (.int .i64 s.d.2) rfl; have m5 := rowCell HM.out 5 (.string (strB m.d)) rfl)
        | (go_at_call_of 43 ([Value.int .i64 (m.d.length : Nat)]); refine (C4.out _).mono ?_; rintro e w' ⟨rfl, hb⟩; have HS := Lib.hid (heapB HS.out hb); have HM := Lib.hid (heapB HM.out hb); have HB := Lib.hid (bel2M HB.out hb); clear hb; have y10 := rowCell HS.out 10 (.int .i64 s.x.1) rfl; have y11 := rowCell HS.out 11 (.int .i64 s.x.2) rfl; have m6 := rowCell HM.out 6 (.slice P.x.1 m.x.length P.x.2) rfl)
        | (go_at_call_of 43 ([Value.int .i64 (m.x.length : Nat)]); refine (C5.out _).mono ?_; rintro e w' ⟨rfl, hb⟩; have HS := Lib.hid (heapB HS.out hb); have HM := Lib.hid (heapB HM.out hb); have HB := Lib.hid (bel2M HB.out hb); clear hb; have y12 := rowCell HS.out 12 (.bool s.r) rfl; have y13 := rowCell HS.out 13 (.int .i64 s.b.1) rfl; have y14 := rowCell HS.out 14 (.int .i64 s.b.2) rfl; rw [hr] at y12; have m7 := rowCell HM.out 7 (.int .i64 m.r.1) rfl; have m8 := rowCell HM.out 8 (.int .i64 m.r.2) rfl; have m9 := rowCell HM.out 9 (.slice P.b.1 m.b.length P.b.2) rfl)
        | (go_at_call_of 44 (Value.slice P.b.1 m.b.length P.b.2); refine (C7.out _ HB.out).mono ?_; rintro e w' ⟨rfl, hb⟩; have HS := Lib.hid (heapB HS.out hb); have HM := Lib.hid (heapB HM.out hb); have HB := Lib.hid (bel2M HB.out hb); clear hb; have y15 := rowCell HS.out 15 (.int .i64 s.p.1) rfl; have y16 := rowCell HS.out 16 (.int .i64 s.p.2) rfl; have m10 := rowCell HM.out 10 (.slice P.p.1 m.p.length P.p.2) rfl)
        | (go_at_call_of 44 (Value.slice P.p.1 m.p.length P.p.2); refine (C8.out _ HB.out).mono ?_; rintro e w' ⟨rfl, hb⟩; have HB := Lib.hid (bel2M HB.out hb); rename (∀ (a : Act) (w_1 : World), Code.wp _ _ _ a w_1 → _) => hK1; rename (∀ (a : Act) (w_1 : World), wpList _ _ _ _ a w_1 → _) => hK; refine hK _ _ (sim_end 4 (.bool false) (by kernel_rfl) fun b hb1 hb2 => hK1 _ _ ?_); go_wp2_with fail; refine bodyPost_ret (v := .bool false) ?_ hb2 ⟨rfl, HB.out⟩; rw [results_tmp (t := 4) rfl, hb1]))
set_option maxHeartbeats 2000000 in
theorem fits_9 (s : Shp) (m : Msg) (P : Plc) (w : World) (h : MsgK w m P) (h0 : allowB s.v m.v = true) (h1 : allowB s.s m.s = true) (h2 : allowB s.c m.c = true) (h3 : allowB s.t m.t = true) (h4 : allowB s.d (m.d.length : Nat) = true) (h5 : allowB s.x (m.x.length : Nat) = true) (h6 : noRes s m.r = true) (h7 : eachE m.b s.b = true) (h8 : eachE m.p s.p = true) (h9 : eachC m.q s.q = false) : Calls Try.prog 21 #[.agg (shC s), agM m P] w (Ans (.bool false) w) := by
  obtain ⟨x1, x2, x3⟩ := box2B w (shC s) (msC m P) 51 30
  have C0 := Lib.hid (fun W => show Calls Try.prog 43 #[.agg #[.int .i64 s.v.1, .int .i64 s.v.2], .int .i64 m.v] W (Ans (.bool true) W) from by have := gAllow_any s.v m.v W; rw [h0] at this; exact this)
  have C1 := Lib.hid (fun W => show Calls Try.prog 43 #[.agg #[.int .i64 s.s.1, .int .i64 s.s.2], .int .i64 m.s] W (Ans (.bool true) W) from by have := gAllow_any s.s m.s W; rw [h1] at this; exact this)
  have C2 := Lib.hid (fun W => show Calls Try.prog 43 #[.agg #[.int .i64 s.c.1, .int .i64 s.c.2], .int .i64 m.c] W (Ans (.bool true) W) from by have := gAllow_any s.c m.c W; rw [h2] at this; exact this)
  have C3 := Lib.hid (fun W => show Calls Try.prog 43 #[.agg #[.int .i64 s.t.1, .int .i64 s.t.2], .int .i64 m.t] W (Ans (.bool true) W) from by have := gAllow_any s.t m.t W; rw [h3] at this; exact this)
  have C4 := Lib.hid (fun W => show Calls Try.prog 43 #[.agg #[.int .i64 s.d.1, .int .i64 s.d.2], .int .i64 (m.d.length : Nat)] W (Ans (.bool true) W) from by have := gAllow_any s.d (m.d.length : Nat) W; rw [h4] at this; exact this)
  have C5 := Lib.hid (fun W => show Calls Try.prog 43 #[.agg #[.int .i64 s.x.1, .int .i64 s.x.2], .int .i64 (m.x.length : Nat)] W (Ans (.bool true) W) from by have := gAllow_any s.x (m.x.length : Nat) W; rw [h5] at this; exact this)
  have C7 := Lib.hid (fun W (hb : Below w.heap.size w W) => show Calls Try.prog 44 #[.slice P.b.1 m.b.length P.b.2, .agg #[.int .i64 s.b.1, .int .i64 s.b.2], .func (Fn.func 45) #[] #[]] W (Ans (.bool true) W) from by have := eachE_any P.b.1 P.b.2 m.b s.b W (h.b.below hb); rw [h7] at this; exact this)
  have C8 := Lib.hid (fun W (hb : Below w.heap.size w W) => show Calls Try.prog 44 #[.slice P.p.1 m.p.length P.p.2, .agg #[.int .i64 s.p.1, .int .i64 s.p.2], .func (Fn.func 45) #[] #[]] W (Ans (.bool true) W) from by have := eachE_any P.p.1 P.p.2 m.p s.p W (h.p.below hb); rw [h8] at this; exact this)
  have C9 := Lib.hid (fun W (hb : Below w.heap.size w W) => show Calls Try.prog 46 #[.slice P.q.1 m.q.length P.q.2, .agg #[.int .i64 s.q.1, .int .i64 s.q.2], .func (Fn.func 47) #[] #[]] W (Ans (.bool false) W) from by have := eachC_any P.q.1 P.q.2 m.q s.q W (h.q.below hb); rw [h9] at this; exact this)
  have HS := Lib.hid x1
  have HM := Lib.hid x2
  have HB := Lib.hid x3
  have hxl := strB_size m.d
  clear x1 x2 x3 h
  unfold noRes at h6
  cases hr : s.r
  · have hz : m.r.1 = 0 ∧ m.r.2 = 0 := by simpa [hr] using h6
    obtain ⟨hz1, hz2⟩ := hz
    go_enter Try.func21, Try.ntmps21
    go_wp2_with (first
        | (go_at_call_of 43 ([Value.int .i64 m.v]); refine (C0.out _).mono ?_; rintro e w' ⟨rfl, hb⟩; have HS := Lib.hid (heapB HS.out hb); have HM := Lib.hid (heapB HM.out hb); have HB := Lib.hid (bel2M HB.out hb); clear hb; have y2 := rowCell HS.out 2 (.int .i64 s.s.1) rfl; have y3 := rowCell HS.out 3 (.int .i64 s.s.2) rfl; have m2 := rowCell HM.out 2 (.int .i64 m.s) rfl)
        | (go_at_call_of 43 ([Value.int .i64 m.s]); refine (C1.out _).mono ?_; rintro e w' ⟨rfl, hb⟩; have HS := Lib.hid (heapB HS.out hb); have HM := Lib.hid (heapB HM.out hb); have HB := Lib.hid (bel2M HB.out hb); clear hb; have y4 := rowCell HS.out 4 (.int .i64 s.c.1) rfl; have y5 := rowCell HS.out 5 (.int .i64 s.c.2) rfl; have m3 := rowCell HM.out 3 (.int .i64 m.c) rfl)
        | (go_at_call_of 43 ([Value.int .i64 m.c]); refine (C2.out _).mono ?_; rintro e w' ⟨rfl, hb⟩; have HS := Lib.hid (heapB HS.out hb); have HM := Lib.hid (heapB HM.out hb); have HB := Lib.hid (bel2M HB.out hb); clear hb; have y6 := rowCell HS.out 6 (.int .i64 s.t.1) rfl; have y7 := rowCell HS.out 7 (.int .i64 s.t.2) rfl; have m4 := rowCell HM.out 4 (.int .i64 m.t) rfl)
        | (go_at_call_of 43 ([Value.int .i64 m.t]); refine (C3.out _).mono ?_; rintro e w' ⟨rfl, hb⟩; have HS := Lib.hid (heapB HS.out hb); have HM := Lib.hid (heapB HM.out hb); have HB := Lib.hid (bel2M HB.out hb); clear hb; have y8 := rowCell HS.out 8 (.int .i64 s.d.1) rfl; have y9 := rowCell HS.out 9 (.int .i64 s.d.2) rfl; have m5 := rowCell HM.out 5 (.string (strB m.d)) rfl)
        | (go_at_call_of 43 ([Value.int .i64 (m.d.length : Nat)]); refine (C4.out _).mono ?_; rintro e w' ⟨rfl, hb⟩; have HS := Lib.hid (heapB HS.out hb); have HM := Lib.hid (heapB HM.out hb); have HB := Lib.hid (bel2M HB.out hb); clear hb; have y10 := rowCell HS.out 10 (.int .i64 s.x.1) rfl; have y11 := rowCell HS.out 11 (.int .i64 s.x.2) rfl; have m6 := rowCell HM.out 6 (.slice P.x.1 m.x.length P.x.2) rfl)
        | (go_at_call_of 43 ([Value.int .i64 (m.x.length : Nat)]); refine (C5.out _).mono ?_; rintro e w' ⟨rfl, hb⟩; have HS := Lib.hid (heapB HS.out hb); have HM := Lib.hid (heapB HM.out hb); have HB := Lib.hid (bel2M HB.out hb); clear hb; have y12 := rowCell HS.out 12 (.bool s.r) rfl; have y13 := rowCell HS.out 13 (.int .i64 s.b.1) rfl; have y14 := rowCell HS.out 14 (.int .i64 s.b.2) rfl; rw [hr] at y12; have m7 := rowCell HM.out 7 (.int .i64 m.r.1) rfl; have m8 := rowCell HM.out 8 (.int .i64 m.r.2) rfl; have m9 := rowCell HM.out 9 (.slice P.b.1 m.b.length P.b.2) rfl)
        | (go_at_call_of 44 (Value.slice P.b.1 m.b.length P.b.2); refine (C7.out _ HB.out).mono ?_; rintro e w' ⟨rfl, hb⟩; have HS := Lib.hid (heapB HS.out hb); have HM := Lib.hid (heapB HM.out hb); have HB := Lib.hid (bel2M HB.out hb); clear hb; have y15 := rowCell HS.out 15 (.int .i64 s.p.1) rfl; have y16 := rowCell HS.out 16 (.int .i64 s.p.2) rfl; have m10 := rowCell HM.out 10 (.slice P.p.1 m.p.length P.p.2) rfl)
        | (go_at_call_of 44 (Value.slice P.p.1 m.p.length P.p.2); refine (C8.out _ HB.out).mono ?_; rintro e w' ⟨rfl, hb⟩; have HS := Lib.hid (heapB HS.out hb); have HM := Lib.hid (heapB HM.out hb); have HB := Lib.hid (bel2M HB.out hb); clear hb; have y17 := rowCell HS.out 17 (.int .i64 s.q.1) rfl; have y18 := rowCell HS.out 18 (.int .i64 s.q.2) rfl; have m11 := rowCell HM.out 11 (.slice P.q.1 m.q.length P.q.2) rfl)
        | (go_at_call_of 46 (Value.slice P.q.1 m.q.length P.q.2); refine (C9.out _ HB.out).mono ?_; rintro e w' ⟨rfl, hb⟩; have HB := Lib.hid (bel2M HB.out hb); rename (∀ (a : Act) (w_1 : World), Code.wp _ _ _ a w_1 → _) => hK1; rename (∀ (a : Act) (w_1 : World), wpList _ _ _ _ a w_1 → _) => hK; refine hK _ _ (sim_end 4 (.bool false) (by kernel_rfl) fun b hb1 hb2 => hK1 _ _ ?_); go_wp2_with fail; refine bodyPost_ret (v := .bool false) ?_ hb2 ⟨rfl, HB.out⟩; rw [results_tmp (t := 4) rfl, hb1]))
  · skip
    go_enter Try.func21, Try.ntmps21
    go_wp2_with (first
        | (go_at_call_of 43 ([Value.int .i64 m.v]); refine (C0.out _).mono ?_; rintro e w' ⟨rfl, hb⟩; have HS := Lib.hid (heapB HS.out hb); have HM := Lib.hid (heapB HM.out hb); have HB := Lib.hid (bel2M HB.out hb); clear hb; have y2 := rowCell HS.out 2 (.int .i64 s.s.1) rfl; have y3 := rowCell HS.out 3 (.int .i64 s.s.2) rfl; have m2 := rowCell HM.out 2 (.int .i64 m.s) rfl)
        | (go_at_call_of 43 ([Value.int .i64 m.s]); refine (C1.out _).mono ?_; rintro e w' ⟨rfl, hb⟩; have HS := Lib.hid (heapB HS.out hb); have HM := Lib.hid (heapB HM.out hb); have HB := Lib.hid (bel2M HB.out hb); clear hb; have y4 := rowCell HS.out 4 (.int .i64 s.c.1) rfl; have y5 := rowCell HS.out 5 (.int .i64 s.c.2) rfl; have m3 := rowCell HM.out 3 (.int .i64 m.c) rfl)
        | (go_at_call_of 43 ([Value.int .i64 m.c]); refine (C2.out _).mono ?_; rintro e w' ⟨rfl, hb⟩; have HS := Lib.hid (heapB HS.out hb); have HM := Lib.hid (heapB HM.out hb); have HB := Lib.hid (bel2M HB.out hb); clear hb; have y6 := rowCell HS.out 6 (.int .i64 s.t.1) rfl; have y7 := rowCell HS.out 7 (.int .i64 s.t.2) rfl; have m4 := rowCell HM.out 4 (.int .i64 m.t) rfl)
        | (go_at_call_of 43 ([Value.int .i64 m.t]); refine (C3.out _).mono ?_; rintro e w' ⟨rfl, hb⟩; have HS := Lib.hid (heapB HS.out hb); have HM := Lib.hid (heapB HM.out hb); have HB := Lib.hid (bel2M HB.out hb); clear hb; have y8 := rowCell HS.out 8 (.int .i64 s.d.1) rfl; have y9 := rowCell HS.out 9 (.int .i64 s.d.2) rfl; have m5 := rowCell HM.out 5 (.string (strB m.d)) rfl)
        | (go_at_call_of 43 ([Value.int .i64 (m.d.length : Nat)]); refine (C4.out _).mono ?_; rintro e w' ⟨rfl, hb⟩; have HS := Lib.hid (heapB HS.out hb); have HM := Lib.hid (heapB HM.out hb); have HB := Lib.hid (bel2M HB.out hb); clear hb; have y10 := rowCell HS.out 10 (.int .i64 s.x.1) rfl; have y11 := rowCell HS.out 11 (.int .i64 s.x.2) rfl; have m6 := rowCell HM.out 6 (.slice P.x.1 m.x.length P.x.2) rfl)
        | (go_at_call_of 43 ([Value.int .i64 (m.x.length : Nat)]); refine (C5.out _).mono ?_; rintro e w' ⟨rfl, hb⟩; have HS := Lib.hid (heapB HS.out hb); have HM := Lib.hid (heapB HM.out hb); have HB := Lib.hid (bel2M HB.out hb); clear hb; have y12 := rowCell HS.out 12 (.bool s.r) rfl; have y13 := rowCell HS.out 13 (.int .i64 s.b.1) rfl; have y14 := rowCell HS.out 14 (.int .i64 s.b.2) rfl; rw [hr] at y12; have m7 := rowCell HM.out 7 (.int .i64 m.r.1) rfl; have m8 := rowCell HM.out 8 (.int .i64 m.r.2) rfl; have m9 := rowCell HM.out 9 (.slice P.b.1 m.b.length P.b.2) rfl)
        | (go_at_call_of 44 (Value.slice P.b.1 m.b.length P.b.2); refine (C7.out _ HB.out).mono ?_; rintro e w' ⟨rfl, hb⟩; have HS := Lib.hid (heapB HS.out hb); have HM := Lib.hid (heapB HM.out hb); have HB := Lib.hid (bel2M HB.out hb); clear hb; have y15 := rowCell HS.out 15 (.int .i64 s.p.1) rfl; have y16 := rowCell HS.out 16 (.int .i64 s.p.2) rfl; have m10 := rowCell HM.out 10 (.slice P.p.1 m.p.length P.p.2) rfl)
        | (go_at_call_of 44 (Value.slice P.p.1 m.p.length P.p.2); refine (C8.out _ HB.out).mono ?_; rintro e w' ⟨rfl, hb⟩; have HS := Lib.hid (heapB HS.out hb); have HM := Lib.hid (heapB HM.out hb); have HB := Lib.hid (bel2M HB.out hb); clear hb; have y17 := rowCell HS.out 17 (.int .i64 s.q.1) rfl; have y18 := rowCell HS.out 18 (.int .i64 s.q.2) rfl; have m11 := rowCell HM.out 11 (.slice P.q.1 m.q.length P.q.2) rfl)
        | (go_at_call_of 46 (Value.slice P.q.1 m.q.length P.q.2); refine (C9.out _ HB.out).mono ?_; rintro e w' ⟨rfl, hb⟩; have HB := Lib.hid (bel2M HB.out hb); rename (∀ (a : Act) (w_1 : World), Code.wp _ _ _ a w_1 → _) => hK1; rename (∀ (a : Act) (w_1 : World), wpList _ _ _ _ a w_1 → _) => hK; refine hK _ _ (sim_end 4 (.bool false) (by kernel_rfl) fun b hb1 hb2 => hK1 _ _ ?_); go_wp2_with fail; refine bodyPost_ret (v := .bool false) ?_ hb2 ⟨rfl, HB.out⟩; rw [results_tmp (t := 4) rfl, hb1]))
set_option maxHeartbeats 2000000 in
theorem fits_all (s : Shp) (m : Msg) (P : Plc) (w : World) (h : MsgK w m P) (h0 : allowB s.v m.v = true) (h1 : allowB s.s m.s = true) (h2 : allowB s.c m.c = true) (h3 : allowB s.t m.t = true) (h4 : allowB s.d (m.d.length : Nat) = true) (h5 : allowB s.x (m.x.length : Nat) = true) (h6 : noRes s m.r = true) (h7 : eachE m.b s.b = true) (h8 : eachE m.p s.p = true) (h9 : eachC m.q s.q = true) : Calls Try.prog 21 #[.agg (shC s), agM m P] w (Ans (.bool true) w) := by
  obtain ⟨x1, x2, x3⟩ := box2B w (shC s) (msC m P) 51 30
  have C0 := Lib.hid (fun W => show Calls Try.prog 43 #[.agg #[.int .i64 s.v.1, .int .i64 s.v.2], .int .i64 m.v] W (Ans (.bool true) W) from by have := gAllow_any s.v m.v W; rw [h0] at this; exact this)
  have C1 := Lib.hid (fun W => show Calls Try.prog 43 #[.agg #[.int .i64 s.s.1, .int .i64 s.s.2], .int .i64 m.s] W (Ans (.bool true) W) from by have := gAllow_any s.s m.s W; rw [h1] at this; exact this)
  have C2 := Lib.hid (fun W => show Calls Try.prog 43 #[.agg #[.int .i64 s.c.1, .int .i64 s.c.2], .int .i64 m.c] W (Ans (.bool true) W) from by have := gAllow_any s.c m.c W; rw [h2] at this; exact this)
  have C3 := Lib.hid (fun W => show Calls Try.prog 43 #[.agg #[.int .i64 s.t.1, .int .i64 s.t.2], .int .i64 m.t] W (Ans (.bool true) W) from by have := gAllow_any s.t m.t W; rw [h3] at this; exact this)
  have C4 := Lib.hid (fun W => show Calls Try.prog 43 #[.agg #[.int .i64 s.d.1, .int .i64 s.d.2], .int .i64 (m.d.length : Nat)] W (Ans (.bool true) W) from by have := gAllow_any s.d (m.d.length : Nat) W; rw [h4] at this; exact this)
  have C5 := Lib.hid (fun W => show Calls Try.prog 43 #[.agg #[.int .i64 s.x.1, .int .i64 s.x.2], .int .i64 (m.x.length : Nat)] W (Ans (.bool true) W) from by have := gAllow_any s.x (m.x.length : Nat) W; rw [h5] at this; exact this)
  have C7 := Lib.hid (fun W (hb : Below w.heap.size w W) => show Calls Try.prog 44 #[.slice P.b.1 m.b.length P.b.2, .agg #[.int .i64 s.b.1, .int .i64 s.b.2], .func (Fn.func 45) #[] #[]] W (Ans (.bool true) W) from by have := eachE_any P.b.1 P.b.2 m.b s.b W (h.b.below hb); rw [h7] at this; exact this)
  have C8 := Lib.hid (fun W (hb : Below w.heap.size w W) => show Calls Try.prog 44 #[.slice P.p.1 m.p.length P.p.2, .agg #[.int .i64 s.p.1, .int .i64 s.p.2], .func (Fn.func 45) #[] #[]] W (Ans (.bool true) W) from by have := eachE_any P.p.1 P.p.2 m.p s.p W (h.p.below hb); rw [h8] at this; exact this)
  have C9 := Lib.hid (fun W (hb : Below w.heap.size w W) => show Calls Try.prog 46 #[.slice P.q.1 m.q.length P.q.2, .agg #[.int .i64 s.q.1, .int .i64 s.q.2], .func (Fn.func 47) #[] #[]] W (Ans (.bool true) W) from by have := eachC_any P.q.1 P.q.2 m.q s.q W (h.q.below hb); rw [h9] at this; exact this)
  have HS := Lib.hid x1
  have HM := Lib.hid x2
  have HB := Lib.hid x3
  have hxl := strB_size m.d
  clear x1 x2 x3 h
  unfold noRes at h6
  cases hr : s.r
  · have hz : m.r.1 = 0 ∧ m.r.2 = 0 := by simpa [hr] using h6
    obtain ⟨hz1, hz2⟩ := hz
    go_enter Try.func21, Try.ntmps21
    go_wp2_with (first
        | (go_at_call_of 43 ([Value.int .i64 m.v]); refine (C0.out _).mono ?_; rintro e w' ⟨rfl, hb⟩; have HS := Lib.hid (heapB HS.out hb); have HM := Lib.hid (heapB HM.out hb); have HB := Lib.hid (bel2M HB.out hb); clear hb; have y2 := rowCell HS.out 2 (.int .i64 s.s.1) rfl; have y3 := rowCell HS.out 3 (.int .i64 s.s.2) rfl; have m2 := rowCell HM.out 2 (.int .i64 m.s) rfl)
        | (go_at_call_of 43 ([Value.int .i64 m.s]); refine (C1.out _).mono ?_; rintro e w' ⟨rfl, hb⟩; have HS := Lib.hid (heapB HS.out hb); have HM := Lib.hid (heapB HM.out hb); have HB := Lib.hid (bel2M HB.out hb); clear hb; have y4 := rowCell HS.out 4 (.int .i64 s.c.1) rfl; have y5 := rowCell HS.out 5 (.int .i64 s.c.2) rfl; have m3 := rowCell HM.out 3 (.int .i64 m.c) rfl)
        | (go_at_call_of 43 ([Value.int .i64 m.c]); refine (C2.out _).mono ?_; rintro e w' ⟨rfl, hb⟩; have HS := Lib.hid (heapB HS.out hb); have HM := Lib.hid (heapB HM.out hb); have HB := Lib.hid (bel2M HB.out hb); clear hb; have y6 := rowCell HS.out 6 (.int .i64 s.t.1) rfl; have y7 := rowCell HS.out 7 (.int .i64 s.t.2) rfl; have m4 := rowCell HM.out 4 (.int .i64 m.t) rfl)
        | (go_at_call_of 43 ([Value.int .i64 m.t]); refine (C3.out _).mono ?_; rintro e w' ⟨rfl, hb⟩; have HS := Lib.hid (heapB HS.out hb); have HM := Lib.hid (heapB HM.out hb); have HB := Lib.hid (bel2M HB.out hb); clear hb; have y8 := rowCell HS.out 8 (.int .i64 s.d.1) rfl; have y9 := rowCell HS.out 9 (.int .i64 s.d.2) rfl; have m5 := rowCell HM.out 5 (.string (strB m.d)) rfl)
        | (go_at_call_of 43 ([Value.int .i64 (m.d.length : Nat)]); refine (C4.out _).mono ?_; rintro e w' ⟨rfl, hb⟩; have HS := Lib.hid (heapB HS.out hb); have HM := Lib.hid (heapB HM.out hb); have HB := Lib.hid (bel2M HB.out hb); clear hb; have y10 := rowCell HS.out 10 (.int .i64 s.x.1) rfl; have y11 := rowCell HS.out 11 (.int .i64 s.x.2) rfl; have m6 := rowCell HM.out 6 (.slice P.x.1 m.x.length P.x.2) rfl)
        | (go_at_call_of 43 ([Value.int .i64 (m.x.length : Nat)]); refine (C5.out _).mono ?_; rintro e w' ⟨rfl, hb⟩; have HS := Lib.hid (heapB HS.out hb); have HM := Lib.hid (heapB HM.out hb); have HB := Lib.hid (bel2M HB.out hb); clear hb; have y12 := rowCell HS.out 12 (.bool s.r) rfl; have y13 := rowCell HS.out 13 (.int .i64 s.b.1) rfl; have y14 := rowCell HS.out 14 (.int .i64 s.b.2) rfl; rw [hr] at y12; have m7 := rowCell HM.out 7 (.int .i64 m.r.1) rfl; have m8 := rowCell HM.out 8 (.int .i64 m.r.2) rfl; have m9 := rowCell HM.out 9 (.slice P.b.1 m.b.length P.b.2) rfl)
        | (go_at_call_of 44 (Value.slice P.b.1 m.b.length P.b.2); refine (C7.out _ HB.out).mono ?_; rintro e w' ⟨rfl, hb⟩; have HS := Lib.hid (heapB HS.out hb); have HM := Lib.hid (heapB HM.out hb); have HB := Lib.hid (bel2M HB.out hb); clear hb; have y15 := rowCell HS.out 15 (.int .i64 s.p.1) rfl; have y16 := rowCell HS.out 16 (.int .i64 s.p.2) rfl; have m10 := rowCell HM.out 10 (.slice P.p.1 m.p.length P.p.2) rfl)
        | (go_at_call_of 44 (Value.slice P.p.1 m.p.length P.p.2); refine (C8.out _ HB.out).mono ?_; rintro e w' ⟨rfl, hb⟩; have HS := Lib.hid (heapB HS.out hb); have HM := Lib.hid (heapB HM.out hb); have HB := Lib.hid (bel2M HB.out hb); clear hb; have y17 := rowCell HS.out 17 (.int .i64 s.q.1) rfl; have y18 := rowCell HS.out 18 (.int .i64 s.q.2) rfl; have m11 := rowCell HM.out 11 (.slice P.q.1 m.q.length P.q.2) rfl)
        | (go_at_call_of 46 (Value.slice P.q.1 m.q.length P.q.2); refine (C9.out _ HB.out).mono ?_; rintro e w' ⟨rfl, hb⟩; have HS := Lib.hid (heapB HS.out hb); have HM := Lib.hid (heapB HM.out hb); have HB := Lib.hid (bel2M HB.out hb); clear hb))
    go_ret
    exact ⟨rfl, HB.out⟩
  · skip
    go_enter Try.func21, Try.ntmps21
    go_wp2_with (first
        | (go_at_call_of 43 ([Value.int .i64 m.v]); refine (C0.out _).mono ?_; rintro e w' ⟨rfl, hb⟩; have HS := Lib.hid (heapB HS.out hb); have HM := Lib.hid (heapB HM.out hb); have HB := Lib.hid (bel2M HB.out hb); clear hb; have y2 := rowCell HS.out 2 (.int .i64 s.s.1) rfl; have y3 := rowCell HS.out 3 (.int .i64 s.s.2) rfl; have m2 := rowCell HM.out 2 (.int .i64 m.s) rfl)
        | (go_at_call_of 43 ([Value.int .i64 m.s]); refine (C1.out _).mono ?_; rintro e w' ⟨rfl, hb⟩; have HS := Lib.hid (heapB HS.out hb); have HM := Lib.hid (heapB HM.out hb); have HB := Lib.hid (bel2M HB.out hb); clear hb; have y4 := rowCell HS.out 4 (.int .i64 s.c.1) rfl; have y5 := rowCell HS.out 5 (.int .i64 s.c.2) rfl; have m3 := rowCell HM.out 3 (.int .i64 m.c) rfl)
        | (go_at_call_of 43 ([Value.int .i64 m.c]); refine (C2.out _).mono ?_; rintro e w' ⟨rfl, hb⟩; have HS := Lib.hid (heapB HS.out hb); have HM := Lib.hid (heapB HM.out hb); have HB := Lib.hid (bel2M HB.out hb); clear hb; have y6 := rowCell HS.out 6 (.int .i64 s.t.1) rfl; have y7 := rowCell HS.out 7 (.int .i64 s.t.2) rfl; have m4 := rowCell HM.out 4 (.int .i64 m.t) rfl)
        | (go_at_call_of 43 ([Value.int .i64 m.t]); refine (C3.out _).mono ?_; rintro e w' ⟨rfl, hb⟩; have HS := Lib.hid (heapB HS.out hb); have HM := Lib.hid (heapB HM.out hb); have HB := Lib.hid (bel2M HB.out hb); clear hb; have y8 := rowCell HS.out 8 (.int .i64 s.d.1) rfl; have y9 := rowCell HS.out 9 (.int .i64 s.d.2) rfl; have m5 := rowCell HM.out 5 (.string (strB m.d)) rfl)
        | (go_at_call_of 43 ([Value.int .i64 (m.d.length : Nat)]); refine (C4.out _).mono ?_; rintro e w' ⟨rfl, hb⟩; have HS := Lib.hid (heapB HS.out hb); have HM := Lib.hid (heapB HM.out hb); have HB := Lib.hid (bel2M HB.out hb); clear hb; have y10 := rowCell HS.out 10 (.int .i64 s.x.1) rfl; have y11 := rowCell HS.out 11 (.int .i64 s.x.2) rfl; have m6 := rowCell HM.out 6 (.slice P.x.1 m.x.length P.x.2) rfl)
        | (go_at_call_of 43 ([Value.int .i64 (m.x.length : Nat)]); refine (C5.out _).mono ?_; rintro e w' ⟨rfl, hb⟩; have HS := Lib.hid (heapB HS.out hb); have HM := Lib.hid (heapB HM.out hb); have HB := Lib.hid (bel2M HB.out hb); clear hb; have y12 := rowCell HS.out 12 (.bool s.r) rfl; have y13 := rowCell HS.out 13 (.int .i64 s.b.1) rfl; have y14 := rowCell HS.out 14 (.int .i64 s.b.2) rfl; rw [hr] at y12; have m7 := rowCell HM.out 7 (.int .i64 m.r.1) rfl; have m8 := rowCell HM.out 8 (.int .i64 m.r.2) rfl; have m9 := rowCell HM.out 9 (.slice P.b.1 m.b.length P.b.2) rfl)
        | (go_at_call_of 44 (Value.slice P.b.1 m.b.length P.b.2); refine (C7.out _ HB.out).mono ?_; rintro e w' ⟨rfl, hb⟩; have HS := Lib.hid (heapB HS.out hb); have HM := Lib.hid (heapB HM.out hb); have HB := Lib.hid (bel2M HB.out hb); clear hb; have y15 := rowCell HS.out 15 (.int .i64 s.p.1) rfl; have y16 := rowCell HS.out 16 (.int .i64 s.p.2) rfl; have m10 := rowCell HM.out 10 (.slice P.p.1 m.p.length P.p.2) rfl)
        | (go_at_call_of 44 (Value.slice P.p.1 m.p.length P.p.2); refine (C8.out _ HB.out).mono ?_; rintro e w' ⟨rfl, hb⟩; have HS := Lib.hid (heapB HS.out hb); have HM := Lib.hid (heapB HM.out hb); have HB := Lib.hid (bel2M HB.out hb); clear hb; have y17 := rowCell HS.out 17 (.int .i64 s.q.1) rfl; have y18 := rowCell HS.out 18 (.int .i64 s.q.2) rfl; have m11 := rowCell HM.out 11 (.slice P.q.1 m.q.length P.q.2) rfl)
        | (go_at_call_of 46 (Value.slice P.q.1 m.q.length P.q.2); refine (C9.out _ HB.out).mono ?_; rintro e w' ⟨rfl, hb⟩; have HS := Lib.hid (heapB HS.out hb); have HM := Lib.hid (heapB HM.out hb); have HB := Lib.hid (bel2M HB.out hb); clear hb))
    go_ret
    exact ⟨rfl, HB.out⟩
theorem fits_any (s : Shp) (m : Msg) (P : Plc) (w : World) (h : MsgK w m P) : Calls Try.prog 21 #[.agg (shC s), agM m P] w (Ans (.bool (fitsM s m)) w) := by
  unfold fitsM
  cases h0 : allowB s.v m.v
  · simpa only [h0, Bool.false_and, Bool.and_false, Bool.true_and] using fits_0 s m P w h h0
  cases h1 : allowB s.s m.s
  · simpa only [h0, h1, Bool.false_and, Bool.and_false, Bool.true_and] using fits_1 s m P w h h0 h1
  cases h2 : allowB s.c m.c
  · simpa only [h0, h1, h2, Bool.false_and, Bool.and_false, Bool.true_and] using fits_2 s m P w h h0 h1 h2
  cases h3 : allowB s.t m.t
  · simpa only [h0, h1, h2, h3, Bool.false_and, Bool.and_false, Bool.true_and] using fits_3 s m P w h h0 h1 h2 h3
  cases h4 : allowB s.d (m.d.length : Nat)
  · simpa only [h0, h1, h2, h3, h4, Bool.false_and, Bool.and_false, Bool.true_and] using fits_4 s m P w h h0 h1 h2 h3 h4
  cases h5 : allowB s.x (m.x.length : Nat)
  · simpa only [h0, h1, h2, h3, h4, h5, Bool.false_and, Bool.and_false, Bool.true_and] using fits_5 s m P w h h0 h1 h2 h3 h4 h5
  cases h6 : noRes s m.r
  · simpa only [h0, h1, h2, h3, h4, h5, h6, Bool.false_and, Bool.and_false, Bool.true_and] using fits_6 s m P w h h0 h1 h2 h3 h4 h5 h6
  cases h7 : eachE m.b s.b
  · simpa only [h0, h1, h2, h3, h4, h5, h6, h7, Bool.false_and, Bool.and_false, Bool.true_and] using fits_7 s m P w h h0 h1 h2 h3 h4 h5 h6 h7
  cases h8 : eachE m.p s.p
  · simpa only [h0, h1, h2, h3, h4, h5, h6, h7, h8, Bool.false_and, Bool.and_false, Bool.true_and] using fits_8 s m P w h h0 h1 h2 h3 h4 h5 h6 h7 h8
  cases h9 : eachC m.q s.q
  · simpa only [h0, h1, h2, h3, h4, h5, h6, h7, h8, h9, Bool.false_and, Bool.and_false, Bool.true_and] using fits_9 s m P w h h0 h1 h2 h3 h4 h5 h6 h7 h8 h9
  simpa only [h0, h1, h2, h3, h4, h5, h6, h7, h8, h9, Bool.true_and] using fits_all s m P w h h0 h1 h2 h3 h4 h5 h6 h7 h8 h9

theorem heap_ltG {w : World} {b : Nat} {o : Obj} (h : w.heap[b]? = some o) : b < w.heap.size := (Array.getElem?_eq_some_iff.1 h).1
theorem load_box {w : World} {b : Nat} {cs : Array Value} {t : TypeId} {d : TypeDesc} (h : w.heap[b]? = some (.cells cs t (0, 0))) (hu : Try.prog.underlying t = some d) (hd : d.isRow = true) (hi : (Try.prog.info? t).map (·.size) = some cs.toList.length) : (Instr.loadAt t (.pointer (some ⟨b, 0, none⟩))).run Try.prog w = .ok (.agg cs) w := by
  have := run_loadAt_mid (P := Try.prog) w b 0 t cs.toList d (heap_all h) hu hd hi
  simpa using this
def errM (m : Msg) : Int := if checkM m = true then 0 else 120
set_option maxHeartbeats 2000000 in
theorem gCheck_of (m : Msg) (P : Plc) (w : World) (s : Shp) (y z : Bool) (hS : ∀ W, Calls Try.prog 20 #[.int .i64 m.k] W (fun e w' => e = .returned (.tuple #[.agg (shC s), .bool y]) ∧ Below W.heap.size W w'))
    (hF : ∀ W, Below w.heap.size w W → Calls Try.prog 21 #[.agg (shC s), agM m P] W (Ans (.bool z) W)) : Calls Try.prog 10 #[agM m P] w (Ans (.int .i64 (if (y && z) = true then 0 else 120)) w) := by
  have HSH := Lib.hid hS
  have x1 := heap_alloc_new w (.cells (msC m P) 30)
  have hb0 := alloc1B w (.cells (msC m P) 30)
  have HF := Lib.hid hF
  have HM := Lib.hid x1
  have HB := Lib.hid hb0
  clear hF x1 hb0 hS
  cases y
  · go_enter Try.func10, Try.ntmps10
    have k0 := rowCell HM.out 0 (.int .i64 m.k) rfl
    go_wp2_with (first
      | (go_at_call 20; refine (HSH.out _).mono ?_; rintro e w' ⟨rfl, hb⟩; have HM := Lib.hid (heapB HM.out hb); have HB := Lib.hid (bel2M HB.out hb); clear hb)
      | (refine wpList_storeAll rfl 51 _ _ rfl _ _ _ rfl rfl (heap_alloc_new _ _) rfl (by kernel_rfl) (by kernel_rfl) ?_; intro w' hz hr ho; have HS := Lib.hid hr; have HM := Lib.hid (onlyHeap ho (heapB HM.out (alloc1B _ _)) (by have := heap_ltG HM.out; omega)); have HB := Lib.hid (onlyBelow (bel2M HB.out (alloc1B _ _)) ho HB.out.size (Nat.le_refl _)); clear hz hr ho))
    go_ret
    exact ⟨rfl, HB.out⟩
  · cases z
    · have HFC := Lib.hid (fun W (hb : Below w.heap.size w W) => show Calls Try.prog 21 #[.agg (shC s), agM m P] W (Ans (.bool false) W) from HF.out W hb)
      clear HF
      go_enter Try.func10, Try.ntmps10
      have k0 := rowCell HM.out 0 (.int .i64 m.k) rfl
      go_upto_region 2 with (first
        | (go_at_call 20; refine (HSH.out _).mono ?_; rintro e w' ⟨rfl, hb⟩; have HM := Lib.hid (heapB HM.out hb); have HB := Lib.hid (bel2M HB.out hb); clear hb)
        | (refine wpList_storeAll rfl 51 _ _ rfl _ _ _ rfl rfl (heap_alloc_new _ _) rfl (by kernel_rfl) (by kernel_rfl) ?_; intro w' hz hr ho; have HS := Lib.hid hr; have HM := Lib.hid (onlyHeap ho (heapB HM.out (alloc1B _ _)) (by have := heap_ltG HM.out; omega)); have HB := Lib.hid (onlyBelow (bel2M HB.out (alloc1B _ _)) ho HB.out.size (Nat.le_refl _)); clear hz hr ho))
      refine wp_region_lit ?_
      refine wpList_exec (by kernel_rfl) (.bool true) w' (by kernel_rfl) ?_
      simp only [Act.put, sA, sB, sC]
      refine wpList_exec (by kernel_rfl) (.bool false) w' (by kernel_rfl) ?_
      simp only [Act.put, sA, sB, sC]
      refine wpList_exec (by kernel_rfl) (.bool false) w' (by kernel_rfl) ?_
      simp only [Act.put, sA, sB, sC]
      refine wpList_loadG (by kernel_rfl) 51 _ rfl _ _ rfl _ _ (heap_all HS.out) Try.underlying51 rfl (by kernel_rfl) ?_
      simp only [Act.put, sA, sB, sC]
      refine wpList_loadG (by kernel_rfl) 30 _ rfl _ _ rfl _ _ (heap_all HM.out) Try.underlying30 rfl (by kernel_rfl) ?_
      simp only [Act.put, sA, sB, sC]
      go_wp2_with (first
        | (go_at_call 21; refine (HFC.out _ HB.out).mono ?_; rintro e w' ⟨rfl, hb⟩; have HB := Lib.hid (bel2M HB.out hb); clear hb))
      go_ret
      exact ⟨rfl, HB.out⟩
    · have HFC := Lib.hid (fun W (hb : Below w.heap.size w W) => show Calls Try.prog 21 #[.agg (shC s), agM m P] W (Ans (.bool true) W) from HF.out W hb)
      clear HF
      go_enter Try.func10, Try.ntmps10
      have k0 := rowCell HM.out 0 (.int .i64 m.k) rfl
      go_upto_region 2 with (first
        | (go_at_call 20; refine (HSH.out _).mono ?_; rintro e w' ⟨rfl, hb⟩; have HM := Lib.hid (heapB HM.out hb); have HB := Lib.hid (bel2M HB.out hb); clear hb)
        | (refine wpList_storeAll rfl 51 _ _ rfl _ _ _ rfl rfl (heap_alloc_new _ _) rfl (by kernel_rfl) (by kernel_rfl) ?_; intro w' hz hr ho; have HS := Lib.hid hr; have HM := Lib.hid (onlyHeap ho (heapB HM.out (alloc1B _ _)) (by have := heap_ltG HM.out; omega)); have HB := Lib.hid (onlyBelow (bel2M HB.out (alloc1B _ _)) ho HB.out.size (Nat.le_refl _)); clear hz hr ho))
      refine wp_region_lit ?_
      refine wpList_exec (by kernel_rfl) (.bool true) w' (by kernel_rfl) ?_
      simp only [Act.put, sA, sB, sC]
      refine wpList_exec (by kernel_rfl) (.bool false) w' (by kernel_rfl) ?_
      simp only [Act.put, sA, sB, sC]
      refine wpList_exec (by kernel_rfl) (.bool false) w' (by kernel_rfl) ?_
      simp only [Act.put, sA, sB, sC]
      refine wpList_loadG (by kernel_rfl) 51 _ rfl _ _ rfl _ _ (heap_all HS.out) Try.underlying51 rfl (by kernel_rfl) ?_
      simp only [Act.put, sA, sB, sC]
      refine wpList_loadG (by kernel_rfl) 30 _ rfl _ _ rfl _ _ (heap_all HM.out) Try.underlying30 rfl (by kernel_rfl) ?_
      simp only [Act.put, sA, sB, sC]
      go_wp2_with (first
        | (go_at_call 21; refine (HFC.out _ HB.out).mono ?_; rintro e w' ⟨rfl, hb⟩; have HB := Lib.hid (bel2M HB.out hb); clear hb))
      go_ret
      exact ⟨rfl, HB.out⟩
theorem shape_calls (k : Int) (W : World) : Calls Try.prog 20 #[.int .i64 k] W (fun e w' => e = .returned (.tuple #[.agg (shC (shapeM k).1), .bool (shapeM k).2]) ∧ Below W.heap.size W w') := gShape_any k W
theorem gCheck_any (m : Msg) (P : Plc) (w : World) (h : MsgK w m P) : Calls Try.prog 10 #[agM m P] w (Ans (.int .i64 (errM m)) w) := by
  unfold errM checkM
  exact gCheck_of m P w _ _ _ (shape_calls m.k) fun W hb => fits_any _ m P W (h.below hb)

theorem exec_load {P : Program} {w : World} {a : Act} {op : Oper} {ty : TypeId} {x : Operand} {b : Nat} {cs : Array Value} (ho : op.op = .load ty x) (hx : a.eval x = .pointer (some ⟨b, 0, none⟩)) (h : (Instr.loadAt ty (.pointer (some ⟨b, 0, none⟩))).run P w = .ok (.agg cs) w) : (execOp a.eval op).run P w = .ok (.value (.agg cs)) w := by
  unfold execOp
  simp only [ho, hx, Sem.run_bind, Result.andThen_ok, h, Sem.run_pure]

structure SmM (s : Shp) (m : Msg) : Prop where
  d : m.d.length ≤ 100000000
  x : m.x.length ≤ 100000000
  b : m.b.length ≤ 1000 ∧ (∀ e ∈ m.b, e.2.length ≤ 1000000) ∧ (be 4 m.b.length ++ m.b.flatMap envW).length ≤ 1000000000
  p : m.p.length ≤ 1000 ∧ (∀ e ∈ m.p, e.2.length ≤ 1000000) ∧ (be 4 m.p.length ++ m.p.flatMap envW).length ≤ 1000000000
  q : m.q.length ≤ 1000 ∧ (∀ c ∈ m.q, SmC c) ∧ (be 4 m.q.length ++ m.q.flatMap crtW).length ≤ 1000000000
  all : (partsM s m).flatten.length ≤ 1000000000
set_option maxHeartbeats 20000000 in
theorem gPutM_of (m : Msg) (P : Plc) (w : World) (s : Shp) (y : Bool) (hm : MsgK w m P) (hs : SmM s m) (hS : ∀ W, Calls Try.prog 20 #[.int .i64 m.k] W (fun e w' => e = .returned (.tuple #[.agg (shC s), .bool y]) ∧ Below W.heap.size W w')) : Calls Try.prog 19 #[agM m P] w (Puts w (partsM s m).flatten) := by
  have HSH := Lib.hid hS
  have x1 := heap_alloc_new w (.cells (msC m P) 30)
  have hb0 := alloc1B w (.cells (msC m P) 30)
  have HP0 := Lib.hid (fun W => gPutInt_any m.k W)
  have HP1 := Lib.hid (fun W => bPutInt_any s.v m.v W)
  have HP2 := Lib.hid (fun W => bPutInt_any s.s m.s W)
  have HP3 := Lib.hid (fun W => bPutInt_any s.c m.c W)
  have HP4 := Lib.hid (fun W => bPutInt_any s.t m.t W)
  have HP5 := Lib.hid (fun A c W (h : Bs W (.slice A m.d.length c) m.d) => bPutBytes_any s.d _ m.d W h (by have := hs.d; omega))
  have HP6 := Lib.hid (fun W (hb : Below w.heap.size w W) => bPutBytes_any s.x _ m.x W (hm.x.below hb (Nat.le_refl _)) (by have := hs.x; omega))
  have HP7 := Lib.hid (fun W => gPutRes_any s m.r W)
  have HP8 := Lib.hid (fun W (hb : Below w.heap.size w W) => gPutL_Env s.b _ _ m.b W (hm.b.below hb) hs.b.1 hs.b.2.1 hs.b.2.2)
  have HP9 := Lib.hid (fun W (hb : Below w.heap.size w W) => gPutL_Env s.p _ _ m.p W (hm.p.below hb) hs.p.1 hs.p.2.1 hs.p.2.2)
  have HP10 := Lib.hid (fun W (hb : Below w.heap.size w W) => gPutL_Crt s.q _ _ m.q W (hm.q.below hb) hs.q.1 hs.q.2.1 hs.q.2.2)
  have HCC := Lib.hid (fun v W (h : Bss W v (partsM s m)) => Concat_any v (partsM s m) W h hs.all)
  have HDL := Lib.hid (show m.d.length ≤ maxLen by have := hs.d; unfold maxLen; omega)
  generalize hfl : (partsM s m).flatten = fl at *
  clear hfl hs hm
  unfold partsM at HCC
  generalize i8B m.k = l0 at *
  generalize numP s.v m.v = l1 at *
  generalize numP s.s m.s = l2 at *
  generalize numP s.c m.c = l3 at *
  generalize numP s.t m.t = l4 at *
  generalize rowP s.d m.d = l5 at *
  generalize rowP s.x m.x = l6 at *
  generalize resP s.r m.r = l7 at *
  generalize lisP envW s.b m.b = l8 at *
  generalize lisP envW s.p m.p = l9 at *
  generalize lisP crtW s.q m.q = l10 at *
  have HM := Lib.hid x1
  have HB := Lib.hid hb0
  clear x1 hb0 hS
  go_enter Try.func19, Try.ntmps19
  have k0 := rowCell HM.out 0 (.int .i64 m.k) rfl
  go_upto_region 2 with (first
      | (go_at_call 20; refine (HSH.out _).mono ?_; rintro e ws ⟨rfl, hb⟩; have HM := Lib.hid (heapB HM.out hb); have HB := Lib.hid (bel2M HB.out hb); clear hb)
      | (refine wpList_storeAll rfl 51 _ _ rfl _ _ _ rfl rfl (heap_alloc_new _ _) rfl (by kernel_rfl) (by kernel_rfl) ?_; intro w0 hz hr ho; have HS := Lib.hid hr; have HM := Lib.hid (onlyHeap ho (heapB HM.out (alloc1B _ _)) (by have := heap_ltG HM.out; omega)); have HB := Lib.hid (onlyBelow (bel2M HB.out (alloc1B _ _)) ho HB.out.size (Nat.le_refl _)); clear hz hr ho))
  clear HSH k0
  generalize ws.heap.size = bs at *
  have HK := Lib.hid (show ∀ W, Below w0.heap.size w0 W → (fun W => W.heap[w.heap.size]? = some (.cells (msC m P) 30 (0, 0)) ∧ W.heap[bs]? = some (.cells (shC s) 51 (0, 0))) W from fun W h => ⟨heapB HM.out h, heapB HS.out h⟩)
  have HBC := Lib.hid (show Below w0.heap.size w0 w0.drew from (Below.refl _ _).drew)
  refine wp_region_held_drew (S := (fun W => W.heap[w.heap.size]? = some (.cells (msC m P) 30 (0, 0)) ∧ W.heap[bs]? = some (.cells (shC s) 51 (0, 0)))) (by kernel_rfl) (HK.out _ HBC.out) (fun hHeld => ?_)
  refine wpAnyH_take (i := 0) (oi := ?e1) (v := ?v1) ?a1 (by kernel_rfl) (by kernel_rfl) (by kernel_rfl) ?b1 (Or.inl ⟨?c1, ?d1⟩) (by assumption) ?f1
  case a1 => (simp only [gA, gB, gC]; rfl)
  case b1 => exact fun _ _ _ h => h
  case c1 => rfl
  case d1 => (intro w hSw; clear hSw; go_simp; try with_reducible rfl)
  (try simp only [Act.put, sA, sB, sC])
  refine wpAnyH_take (i := 1) (oi := ?e2) (v := ?v2) ?a2 (by kernel_rfl) (by kernel_rfl) (by kernel_rfl) ?b2 (Or.inl ⟨?c2, ?d2⟩) (by assumption) ?f2
  case a2 => (simp only [gA, gB, gC]; rfl)
  case b2 => exact fun _ _ _ h => h
  case c2 => rfl
  case d2 => (intro w hSw; have c0 := rowCell hSw.1 0 (.int .i64 m.k) rfl; clear hSw; go_simp; try with_reducible rfl)
  (try simp only [Act.put, sA, sB, sC])
  refine wpAnyH_take (i := 3) (oi := ?e3) (v := ?v3) ?a3 (by kernel_rfl) (by kernel_rfl) (by kernel_rfl) ?b3 (Or.inl ⟨?c3, ?d3⟩) (by assumption) ?f3
  case a3 => (simp only [gA, gB, gC]; rfl)
  case b3 => exact fun _ _ _ h => h
  case c3 => rfl
  case d3 => (intro w hSw; clear hSw; go_simp; try with_reducible rfl)
  (try simp only [Act.put, sA, sB, sC])
  refine wpAnyH_take (i := 4) (oi := ?e4) (v := ?v4) ?a4 (by kernel_rfl) (by kernel_rfl) (by kernel_rfl) ?b4 (Or.inl ⟨?c4, ?d4⟩) (by assumption) ?f4
  case a4 => (simp only [gA, gB, gC]; rfl)
  case b4 => exact fun _ _ _ h => h
  case c4 => rfl
  case d4 => (intro w hSw; have c0 := rowCell hSw.2 0 (.int .i64 s.v.1) rfl; have c1 := rowCell hSw.2 1 (.int .i64 s.v.2) rfl; clear hSw; go_simp; try with_reducible rfl)
  (try simp only [Act.put, sA, sB, sC])
  refine wpAnyH_take (i := 5) (oi := ?e5) (v := ?v5) ?a5 (by kernel_rfl) (by kernel_rfl) (by kernel_rfl) ?b5 (Or.inl ⟨?c5, ?d5⟩) (by assumption) ?f5
  case a5 => (simp only [gA, gB, gC]; rfl)
  case b5 => exact fun _ _ _ h => h
  case c5 => rfl
  case d5 => (intro w hSw; clear hSw; go_simp; try with_reducible rfl)
  (try simp only [Act.put, sA, sB, sC])
  refine wpAnyH_take (i := 6) (oi := ?e6) (v := ?v6) ?a6 (by kernel_rfl) (by kernel_rfl) (by kernel_rfl) ?b6 (Or.inl ⟨?c6, ?d6⟩) (by assumption) ?f6
  case a6 => (simp only [gA, gB, gC]; rfl)
  case b6 => exact fun _ _ _ h => h
  case c6 => rfl
  case d6 => (intro w hSw; have c0 := rowCell hSw.1 1 (.int .i64 m.v) rfl; clear hSw; go_simp; try with_reducible rfl)
  (try simp only [Act.put, sA, sB, sC])
  refine wpAnyH_take (i := 8) (oi := ?e7) (v := ?v7) ?a7 (by kernel_rfl) (by kernel_rfl) (by kernel_rfl) ?b7 (Or.inl ⟨?c7, ?d7⟩) (by assumption) ?f7
  case a7 => (simp only [gA, gB, gC]; rfl)
  case b7 => exact fun _ _ _ h => h
  case c7 => rfl
  case d7 => (intro w hSw; clear hSw; go_simp; try with_reducible rfl)
  (try simp only [Act.put, sA, sB, sC])
  refine wpAnyH_take (i := 9) (oi := ?e8) (v := ?v8) ?a8 (by kernel_rfl) (by kernel_rfl) (by kernel_rfl) ?b8 (Or.inl ⟨?c8, ?d8⟩) (by assumption) ?f8
  case a8 => (simp only [gA, gB, gC]; rfl)
  case b8 => exact fun _ _ _ h => h
  case c8 => rfl
  case d8 => (intro w hSw; have c0 := rowCell hSw.2 2 (.int .i64 s.s.1) rfl; have c1 := rowCell hSw.2 3 (.int .i64 s.s.2) rfl; clear hSw; go_simp; try with_reducible rfl)
  (try simp only [Act.put, sA, sB, sC])
  refine wpAnyH_take (i := 10) (oi := ?e9) (v := ?v9) ?a9 (by kernel_rfl) (by kernel_rfl) (by kernel_rfl) ?b9 (Or.inl ⟨?c9, ?d9⟩) (by assumption) ?f9
  case a9 => (simp only [gA, gB, gC]; rfl)
  case b9 => exact fun _ _ _ h => h
  case c9 => rfl
  case d9 => (intro w hSw; clear hSw; go_simp; try with_reducible rfl)
  (try simp only [Act.put, sA, sB, sC])
  refine wpAnyH_take (i := 11) (oi := ?e10) (v := ?v10) ?a10 (by kernel_rfl) (by kernel_rfl) (by kernel_rfl) ?b10 (Or.inl ⟨?c10, ?d10⟩) (by assumption) ?f10
  case a10 => (simp only [gA, gB, gC]; rfl)
  case b10 => exact fun _ _ _ h => h
  case c10 => rfl
  case d10 => (intro w hSw; have c0 := rowCell hSw.1 2 (.int .i64 m.s) rfl; clear hSw; go_simp; try with_reducible rfl)
  (try simp only [Act.put, sA, sB, sC])
  refine wpAnyH_take (i := 13) (oi := ?e11) (v := ?v11) ?a11 (by kernel_rfl) (by kernel_rfl) (by kernel_rfl) ?b11 (Or.inl ⟨?c11, ?d11⟩) (by assumption) ?f11
  case a11 => (simp only [gA, gB, gC]; rfl)
  case b11 => exact fun _ _ _ h => h
  case c11 => rfl
  case d11 => (intro w hSw; clear hSw; go_simp; try with_reducible rfl)
  (try simp only [Act.put, sA, sB, sC])
  refine wpAnyH_take (i := 14) (oi := ?e12) (v := ?v12) ?a12 (by kernel_rfl) (by kernel_rfl) (by kernel_rfl) ?b12 (Or.inl ⟨?c12, ?d12⟩) (by assumption) ?f12
  case a12 => (simp only [gA, gB, gC]; rfl)
  case b12 => exact fun _ _ _ h => h
  case c12 => rfl
  case d12 => (intro w hSw; have c0 := rowCell hSw.2 4 (.int .i64 s.c.1) rfl; have c1 := rowCell hSw.2 5 (.int .i64 s.c.2) rfl; clear hSw; go_simp; try with_reducible rfl)
  (try simp only [Act.put, sA, sB, sC])
  refine wpAnyH_take (i := 15) (oi := ?e13) (v := ?v13) ?a13 (by kernel_rfl) (by kernel_rfl) (by kernel_rfl) ?b13 (Or.inl ⟨?c13, ?d13⟩) (by assumption) ?f13
  case a13 => (simp only [gA, gB, gC]; rfl)
  case b13 => exact fun _ _ _ h => h
  case c13 => rfl
  case d13 => (intro w hSw; clear hSw; go_simp; try with_reducible rfl)
  (try simp only [Act.put, sA, sB, sC])
  refine wpAnyH_take (i := 16) (oi := ?e14) (v := ?v14) ?a14 (by kernel_rfl) (by kernel_rfl) (by kernel_rfl) ?b14 (Or.inl ⟨?c14, ?d14⟩) (by assumption) ?f14
  case a14 => (simp only [gA, gB, gC]; rfl)
  case b14 => exact fun _ _ _ h => h
  case c14 => rfl
  case d14 => (intro w hSw; have c0 := rowCell hSw.1 3 (.int .i64 m.c) rfl; clear hSw; go_simp; try with_reducible rfl)
  (try simp only [Act.put, sA, sB, sC])
  refine wpAnyH_take (i := 18) (oi := ?e15) (v := ?v15) ?a15 (by kernel_rfl) (by kernel_rfl) (by kernel_rfl) ?b15 (Or.inl ⟨?c15, ?d15⟩) (by assumption) ?f15
  case a15 => (simp only [gA, gB, gC]; rfl)
  case b15 => exact fun _ _ _ h => h
  case c15 => rfl
  case d15 => (intro w hSw; clear hSw; go_simp; try with_reducible rfl)
  (try simp only [Act.put, sA, sB, sC])
  refine wpAnyH_take (i := 19) (oi := ?e16) (v := ?v16) ?a16 (by kernel_rfl) (by kernel_rfl) (by kernel_rfl) ?b16 (Or.inl ⟨?c16, ?d16⟩) (by assumption) ?f16
  case a16 => (simp only [gA, gB, gC]; rfl)
  case b16 => exact fun _ _ _ h => h
  case c16 => rfl
  case d16 => (intro w hSw; have c0 := rowCell hSw.2 6 (.int .i64 s.t.1) rfl; have c1 := rowCell hSw.2 7 (.int .i64 s.t.2) rfl; clear hSw; go_simp; try with_reducible rfl)
  (try simp only [Act.put, sA, sB, sC])
  refine wpAnyH_take (i := 20) (oi := ?e17) (v := ?v17) ?a17 (by kernel_rfl) (by kernel_rfl) (by kernel_rfl) ?b17 (Or.inl ⟨?c17, ?d17⟩) (by assumption) ?f17
  case a17 => (simp only [gA, gB, gC]; rfl)
  case b17 => exact fun _ _ _ h => h
  case c17 => rfl
  case d17 => (intro w hSw; clear hSw; go_simp; try with_reducible rfl)
  (try simp only [Act.put, sA, sB, sC])
  refine wpAnyH_take (i := 21) (oi := ?e18) (v := ?v18) ?a18 (by kernel_rfl) (by kernel_rfl) (by kernel_rfl) ?b18 (Or.inl ⟨?c18, ?d18⟩) (by assumption) ?f18
  case a18 => (simp only [gA, gB, gC]; rfl)
  case b18 => exact fun _ _ _ h => h
  case c18 => rfl
  case d18 => (intro w hSw; have c0 := rowCell hSw.1 4 (.int .i64 m.t) rfl; clear hSw; go_simp; try with_reducible rfl)
  (try simp only [Act.put, sA, sB, sC])
  refine wpAnyH_take (i := 23) (oi := ?e19) (v := ?v19) ?a19 (by kernel_rfl) (by kernel_rfl) (by kernel_rfl) ?b19 (Or.inl ⟨?c19, ?d19⟩) (by assumption) ?f19
  case a19 => (simp only [gA, gB, gC]; rfl)
  case b19 => exact fun _ _ _ h => h
  case c19 => rfl
  case d19 => (intro w hSw; clear hSw; go_simp; try with_reducible rfl)
  (try simp only [Act.put, sA, sB, sC])
  refine wpAnyH_take (i := 24) (oi := ?e20) (v := ?v20) ?a20 (by kernel_rfl) (by kernel_rfl) (by kernel_rfl) ?b20 (Or.inl ⟨?c20, ?d20⟩) (by assumption) ?f20
  case a20 => (simp only [gA, gB, gC]; rfl)
  case b20 => exact fun _ _ _ h => h
  case c20 => rfl
  case d20 => (intro w hSw; have c0 := rowCell hSw.2 8 (.int .i64 s.d.1) rfl; have c1 := rowCell hSw.2 9 (.int .i64 s.d.2) rfl; clear hSw; go_simp; try with_reducible rfl)
  (try simp only [Act.put, sA, sB, sC])
  refine wpAnyH_take (i := 25) (oi := ?e21) (v := ?v21) ?a21 (by kernel_rfl) (by kernel_rfl) (by kernel_rfl) ?b21 (Or.inl ⟨?c21, ?d21⟩) (by assumption) ?f21
  case a21 => (simp only [gA, gB, gC]; rfl)
  case b21 => exact fun _ _ _ h => h
  case c21 => rfl
  case d21 => (intro w hSw; clear hSw; go_simp; try with_reducible rfl)
  (try simp only [Act.put, sA, sB, sC])
  refine wpAnyH_take (i := 26) (oi := ?e22) (v := ?v22) ?a22 (by kernel_rfl) (by kernel_rfl) (by kernel_rfl) ?b22 (Or.inl ⟨?c22, ?d22⟩) (by assumption) ?f22
  case a22 => (simp only [gA, gB, gC]; rfl)
  case b22 => exact fun _ _ _ h => h
  case c22 => rfl
  case d22 => (intro w hSw; have c0 := rowCell hSw.1 5 (.string (strB m.d)) rfl; clear hSw; go_simp; try with_reducible rfl)
  (try simp only [Act.put, sA, sB, sC])
  refine wpAnyH_take (i := 29) (oi := ?e23) (v := ?v23) ?a23 (by kernel_rfl) (by kernel_rfl) (by kernel_rfl) ?b23 (Or.inl ⟨?c23, ?d23⟩) (by assumption) ?f23
  case a23 => (simp only [gA, gB, gC]; rfl)
  case b23 => exact fun _ _ _ h => h
  case c23 => rfl
  case d23 => (intro w hSw; clear hSw; go_simp; try with_reducible rfl)
  (try simp only [Act.put, sA, sB, sC])
  refine wpAnyH_take (i := 30) (oi := ?e24) (v := ?v24) ?a24 (by kernel_rfl) (by kernel_rfl) (by kernel_rfl) ?b24 (Or.inl ⟨?c24, ?d24⟩) (by assumption) ?f24
  case a24 => (simp only [gA, gB, gC]; rfl)
  case b24 => exact fun _ _ _ h => h
  case c24 => rfl
  case d24 => (intro w hSw; have c0 := rowCell hSw.2 10 (.int .i64 s.x.1) rfl; have c1 := rowCell hSw.2 11 (.int .i64 s.x.2) rfl; clear hSw; go_simp; try with_reducible rfl)
  (try simp only [Act.put, sA, sB, sC])
  refine wpAnyH_take (i := 31) (oi := ?e25) (v := ?v25) ?a25 (by kernel_rfl) (by kernel_rfl) (by kernel_rfl) ?b25 (Or.inl ⟨?c25, ?d25⟩) (by assumption) ?f25
  case a25 => (simp only [gA, gB, gC]; rfl)
  case b25 => exact fun _ _ _ h => h
  case c25 => rfl
  case d25 => (intro w hSw; clear hSw; go_simp; try with_reducible rfl)
  (try simp only [Act.put, sA, sB, sC])
  refine wpAnyH_take (i := 32) (oi := ?e26) (v := ?v26) ?a26 (by kernel_rfl) (by kernel_rfl) (by kernel_rfl) ?b26 (Or.inl ⟨?c26, ?d26⟩) (by assumption) ?f26
  case a26 => (simp only [gA, gB, gC]; rfl)
  case b26 => exact fun _ _ _ h => h
  case c26 => rfl
  case d26 => (intro w hSw; have c0 := rowCell hSw.1 6 (.slice P.x.1 m.x.length P.x.2) rfl; clear hSw; go_simp; try with_reducible rfl)
  (try simp only [Act.put, sA, sB, sC])
  refine wpAnyH_take (i := 34) (oi := ?e27) (v := ?v27) ?a27 (by kernel_rfl) (by kernel_rfl) (by kernel_rfl) ?b27 (Or.inl ⟨?c27, ?d27⟩) (by assumption) ?f27
  case a27 => (simp only [gA, gB, gC]; rfl)
  case b27 => exact fun _ _ _ h => h
  case c27 => rfl
  case d27 => (intro w hSw; rw [exec_load (ty := 51) (x := .tmp 3) (b := bs) (cs := shC s) (h := load_box hSw.2 Try.underlying51 rfl (by kernel_rfl))]; all_goals (first | with_reducible rfl | kernel_rfl))
  (try simp only [Act.put, sA, sB, sC])
  refine wpAnyH_take (i := 35) (oi := ?e28) (v := ?v28) ?a28 (by kernel_rfl) (by kernel_rfl) (by kernel_rfl) ?b28 (Or.inl ⟨?c28, ?d28⟩) (by assumption) ?f28
  case a28 => (simp only [gA, gB, gC]; rfl)
  case b28 => exact fun _ _ _ h => h
  case c28 => rfl
  case d28 => (intro w hSw; clear hSw; go_simp; try with_reducible rfl)
  (try simp only [Act.put, sA, sB, sC])
  refine wpAnyH_take (i := 36) (oi := ?e29) (v := ?v29) ?a29 (by kernel_rfl) (by kernel_rfl) (by kernel_rfl) ?b29 (Or.inl ⟨?c29, ?d29⟩) (by assumption) ?f29
  case a29 => (simp only [gA, gB, gC]; rfl)
  case b29 => exact fun _ _ _ h => h
  case c29 => rfl
  case d29 => (intro w hSw; have c0 := rowCell hSw.1 7 (.int .i64 m.r.1) rfl; have c1 := rowCell hSw.1 8 (.int .i64 m.r.2) rfl; clear hSw; go_simp; try with_reducible rfl)
  (try simp only [Act.put, sA, sB, sC])
  refine wpAnyH_take (i := 38) (oi := ?e30) (v := ?v30) ?a30 (by kernel_rfl) (by kernel_rfl) (by kernel_rfl) ?b30 (Or.inl ⟨?c30, ?d30⟩) (by assumption) ?f30
  case a30 => (simp only [gA, gB, gC]; rfl)
  case b30 => exact fun _ _ _ h => h
  case c30 => rfl
  case d30 => (intro w hSw; clear hSw; go_simp; try with_reducible rfl)
  (try simp only [Act.put, sA, sB, sC])
  refine wpAnyH_take (i := 39) (oi := ?e31) (v := ?v31) ?a31 (by kernel_rfl) (by kernel_rfl) (by kernel_rfl) ?b31 (Or.inl ⟨?c31, ?d31⟩) (by assumption) ?f31
  case a31 => (simp only [gA, gB, gC]; rfl)
  case b31 => exact fun _ _ _ h => h
  case c31 => rfl
  case d31 => (intro w hSw; have c0 := rowCell hSw.1 9 (.slice P.b.1 m.b.length P.b.2) rfl; clear hSw; go_simp; try with_reducible rfl)
  (try simp only [Act.put, sA, sB, sC])
  refine wpAnyH_take (i := 40) (oi := ?e32) (v := ?v32) ?a32 (by kernel_rfl) (by kernel_rfl) (by kernel_rfl) ?b32 (Or.inl ⟨?c32, ?d32⟩) (by assumption) ?f32
  case a32 => (simp only [gA, gB, gC]; rfl)
  case b32 => exact fun _ _ _ h => h
  case c32 => rfl
  case d32 => (intro w hSw; clear hSw; go_simp; try with_reducible rfl)
  (try simp only [Act.put, sA, sB, sC])
  refine wpAnyH_take (i := 41) (oi := ?e33) (v := ?v33) ?a33 (by kernel_rfl) (by kernel_rfl) (by kernel_rfl) ?b33 (Or.inl ⟨?c33, ?d33⟩) (by assumption) ?f33
  case a33 => (simp only [gA, gB, gC]; rfl)
  case b33 => exact fun _ _ _ h => h
  case c33 => rfl
  case d33 => (intro w hSw; have c0 := rowCell hSw.2 13 (.int .i64 s.b.1) rfl; have c1 := rowCell hSw.2 14 (.int .i64 s.b.2) rfl; clear hSw; go_simp; try with_reducible rfl)
  (try simp only [Act.put, sA, sB, sC])
  refine wpAnyH_take (i := 43) (oi := ?e34) (v := ?v34) ?a34 (by kernel_rfl) (by kernel_rfl) (by kernel_rfl) ?b34 (Or.inl ⟨?c34, ?d34⟩) (by assumption) ?f34
  case a34 => (simp only [gA, gB, gC]; rfl)
  case b34 => exact fun _ _ _ h => h
  case c34 => rfl
  case d34 => (intro w hSw; clear hSw; go_simp; try with_reducible rfl)
  (try simp only [Act.put, sA, sB, sC])
  refine wpAnyH_take (i := 44) (oi := ?e35) (v := ?v35) ?a35 (by kernel_rfl) (by kernel_rfl) (by kernel_rfl) ?b35 (Or.inl ⟨?c35, ?d35⟩) (by assumption) ?f35
  case a35 => (simp only [gA, gB, gC]; rfl)
  case b35 => exact fun _ _ _ h => h
  case c35 => rfl
  case d35 => (intro w hSw; have c0 := rowCell hSw.1 10 (.slice P.p.1 m.p.length P.p.2) rfl; clear hSw; go_simp; try with_reducible rfl)
  (try simp only [Act.put, sA, sB, sC])
  refine wpAnyH_take (i := 45) (oi := ?e36) (v := ?v36) ?a36 (by kernel_rfl) (by kernel_rfl) (by kernel_rfl) ?b36 (Or.inl ⟨?c36, ?d36⟩) (by assumption) ?f36
  case a36 => (simp only [gA, gB, gC]; rfl)
  case b36 => exact fun _ _ _ h => h
  case c36 => rfl
  case d36 => (intro w hSw; clear hSw; go_simp; try with_reducible rfl)
  (try simp only [Act.put, sA, sB, sC])
  refine wpAnyH_take (i := 46) (oi := ?e37) (v := ?v37) ?a37 (by kernel_rfl) (by kernel_rfl) (by kernel_rfl) ?b37 (Or.inl ⟨?c37, ?d37⟩) (by assumption) ?f37
  case a37 => (simp only [gA, gB, gC]; rfl)
  case b37 => exact fun _ _ _ h => h
  case c37 => rfl
  case d37 => (intro w hSw; have c0 := rowCell hSw.2 15 (.int .i64 s.p.1) rfl; have c1 := rowCell hSw.2 16 (.int .i64 s.p.2) rfl; clear hSw; go_simp; try with_reducible rfl)
  (try simp only [Act.put, sA, sB, sC])
  refine wpAnyH_take (i := 48) (oi := ?e38) (v := ?v38) ?a38 (by kernel_rfl) (by kernel_rfl) (by kernel_rfl) ?b38 (Or.inl ⟨?c38, ?d38⟩) (by assumption) ?f38
  case a38 => (simp only [gA, gB, gC]; rfl)
  case b38 => exact fun _ _ _ h => h
  case c38 => rfl
  case d38 => (intro w hSw; clear hSw; go_simp; try with_reducible rfl)
  (try simp only [Act.put, sA, sB, sC])
  refine wpAnyH_take (i := 49) (oi := ?e39) (v := ?v39) ?a39 (by kernel_rfl) (by kernel_rfl) (by kernel_rfl) ?b39 (Or.inl ⟨?c39, ?d39⟩) (by assumption) ?f39
  case a39 => (simp only [gA, gB, gC]; rfl)
  case b39 => exact fun _ _ _ h => h
  case c39 => rfl
  case d39 => (intro w hSw; have c0 := rowCell hSw.1 11 (.slice P.q.1 m.q.length P.q.2) rfl; clear hSw; go_simp; try with_reducible rfl)
  (try simp only [Act.put, sA, sB, sC])
  refine wpAnyH_take (i := 50) (oi := ?e40) (v := ?v40) ?a40 (by kernel_rfl) (by kernel_rfl) (by kernel_rfl) ?b40 (Or.inl ⟨?c40, ?d40⟩) (by assumption) ?f40
  case a40 => (simp only [gA, gB, gC]; rfl)
  case b40 => exact fun _ _ _ h => h
  case c40 => rfl
  case d40 => (intro w hSw; clear hSw; go_simp; try with_reducible rfl)
  (try simp only [Act.put, sA, sB, sC])
  refine wpAnyH_take (i := 51) (oi := ?e41) (v := ?v41) ?a41 (by kernel_rfl) (by kernel_rfl) (by kernel_rfl) ?b41 (Or.inl ⟨?c41, ?d41⟩) (by assumption) ?f41
  case a41 => (simp only [gA, gB, gC]; rfl)
  case b41 => exact fun _ _ _ h => h
  case c41 => rfl
  case d41 => (intro w hSw; have c0 := rowCell hSw.2 17 (.int .i64 s.q.1) rfl; have c1 := rowCell hSw.2 18 (.int .i64 s.q.2) rfl; clear hSw; go_simp; try with_reducible rfl)
  (try simp only [Act.put, sA, sB, sC])
  refine wpAnyH_norm (fuel' := 15) (listed' := #[true, true, false, true, true, true, true, false, true, true, true, true, false, true, true, true, true, false, true, true, true, true, false, true, true, true, true, false, false, true, true, true, true, false, true, true, true, false, true, true, true, true, false, true, true, true, true, false, true, true, true, true, false, false, false, false]) (by kernel_rfl) (by kernel_rfl) ?_
  refine wpAnyH_name (fun G hG => ?_)
  clear hHeld
  have st_2_7_12_17_22_27_28_33_37_42_47_52_53_54 : ∀ (A0 : Option Addr) (c0 : Nat) (A1 : Option Addr) (c1 : Nat) (A2 : Option Addr) (c2 : Nat) (A3 : Option Addr) (c3 : Nat) (A4 : Option Addr) (c4 : Nat) (CA : Option Addr) (CC : Nat) (A5 : Option Addr) (c5 : Nat) (A6 : Option Addr) (c6 : Nat) (A7 : Option Addr) (c7 : Nat) (A8 : Option Addr) (c8 : Nat) (A9 : Option Addr) (c9 : Nat) (A10 : Option Addr) (c10 : Nat) (g9 : Nat) (vz : Value) (W : World) (HBC : Hid (Below w0.heap.size w0 W)) (F0 : Hid (Bs W (.slice A0 l0.length c0) l0)) (F1 : Hid (Bs W (.slice A1 l1.length c1) l1)) (F2 : Hid (Bs W (.slice A2 l2.length c2) l2)) (F3 : Hid (Bs W (.slice A3 l3.length c3) l3)) (F4 : Hid (Bs W (.slice A4 l4.length c4) l4)) (FC : Hid (Bs W (.slice CA m.d.length CC) m.d)) (F5 : Hid (Bs W (.slice A5 l5.length c5) l5)) (F6 : Hid (Bs W (.slice A6 l6.length c6) l6)) (F7 : Hid (Bs W (.slice A7 l7.length c7) l7)) (F8 : Hid (Bs W (.slice A8 l8.length c8) l8)) (F9 : Hid (Bs W (.slice A9 l9.length c9) l9)) (F10 : Hid (Bs W (.slice A10 l10.length c10) l10)) (GB : Hid (W.heap[g9]? = some (.cells #[.slice A0 l0.length c0, .slice A1 l1.length c1, .slice A2 l2.length c2, .slice A3 l3.length c3, .slice A4 l4.length c4, .slice A5 l5.length c5, .slice A6 l6.length c6, .slice A7 l7.length c7, .slice A8 l8.length c8, .slice A9 l9.length c9, .slice A10 l10.length c10] 23 (0, 0)))) (FZ : Hid (W.ownsRow w0.heap.size 5 1 vz fl.length (fl.map bc))), G 1 #[true, true, true, true, true, true, true, true, true, true, true, true, true, true, true, true, true, true, true, true, true, true, true, true, true, true, true, true, true, true, true, true, true, true, true, true, true, true, true, true, true, true, true, true, true, true, true, true, true, true, true, true, true, true, true, false] ⟨#[agM m P, .pointer (some ⟨w.heap.size, 0, none⟩), .slice none 0 0, .pointer (some ⟨bs, 0, none⟩), .bool y, .tuple #[.agg (shC s), .bool y], .pointer (some ⟨w.heap.size, 0, none⟩), .int .i64 m.k, .tuple #[.agg (shC s), .bool y], .agg (shC s), .bool y, .pointer (some ⟨w.heap.size, 0, none⟩), .int .i64 m.k, .slice A0 l0.length c0, .pointer (some ⟨bs, 0, none⟩), .agg #[.int .i64 s.v.1, .int .i64 s.v.2], .pointer (some ⟨w.heap.size, 1, none⟩), .int .i64 m.v, .slice A1 l1.length c1, .pointer (some ⟨bs, 2, none⟩), .agg #[.int .i64 s.s.1, .int .i64 s.s.2], .pointer (some ⟨w.heap.size, 2, none⟩), .int .i64 m.s, .slice A2 l2.length c2, .pointer (some ⟨bs, 4, none⟩), .agg #[.int .i64 s.c.1, .int .i64 s.c.2], .pointer (some ⟨w.heap.size, 3, none⟩), .int .i64 m.c, .slice A3 l3.length c3, .pointer (some ⟨bs, 6, none⟩), .agg #[.int .i64 s.t.1, .int .i64 s.t.2], .pointer (some ⟨w.heap.size, 4, none⟩), .int .i64 m.t, .slice A4 l4.length c4, .pointer (some ⟨bs, 8, none⟩), .agg #[.int .i64 s.d.1, .int .i64 s.d.2], .pointer (some ⟨w.heap.size, 5, none⟩), .string (strB m.d), .slice CA m.d.length CC, .slice A5 l5.length c5, .pointer (some ⟨bs, 10, none⟩), .agg #[.int .i64 s.x.1, .int .i64 s.x.2], .pointer (some ⟨w.heap.size, 6, none⟩), .slice P.x.1 m.x.length P.x.2, .slice A6 l6.length c6, .agg (shC s), .pointer (some ⟨w.heap.size, 7, none⟩), .agg #[.int .i64 m.r.1, .int .i64 m.r.2], .slice A7 l7.length c7, .pointer (some ⟨w.heap.size, 9, none⟩), .slice P.b.1 m.b.length P.b.2, .pointer (some ⟨bs, 13, none⟩), .agg #[.int .i64 s.b.1, .int .i64 s.b.2], .slice A8 l8.length c8, .pointer (some ⟨w.heap.size, 10, none⟩), .slice P.p.1 m.p.length P.p.2, .pointer (some ⟨bs, 15, none⟩), .agg #[.int .i64 s.p.1, .int .i64 s.p.2], .slice A9 l9.length c9, .pointer (some ⟨w.heap.size, 11, none⟩), .slice P.q.1 m.q.length P.q.2, .pointer (some ⟨bs, 17, none⟩), .agg #[.int .i64 s.q.1, .int .i64 s.q.2], .slice A10 l10.length c10, .slice (some ⟨g9, 0, none⟩) 11 11, vz], []⟩ W := by
    intro A0 c0 A1 c1 A2 c2 A3 c3 A4 c4 CA CC A5 c5 A6 c6 A7 c7 A8 c8 A9 c9 A10 c10 g9 vz W HBC F0 F1 F2 F3 F4 FC F5 F6 F7 F8 F9 F10 GB FZ
    rw [hG]
    have hHeld : ((fun W => W.heap[w.heap.size]? = some (.cells (msC m P) 30 (0, 0)) ∧ W.heap[bs]? = some (.cells (shC s) 51 (0, 0)))) W := HK.out _ HBC.out
    refine wpAnyH_ready (rs := [55]) (by kernel_rfl) (by simp) ?_
    refine AllReadyH.cons (o := ?o42) ?g42 (fun K hK => ?j42) AllReadyH.nil
    case g42 => (simp only [gA, gB, gC]; rfl)
    case j42 =>
      go_simp
      refine hK.out _ _ (by (try dsimp only); exact hHeld) (fun _ => ?_)
      (try simp only [Act.put, sA, sB, sC])
      refine wpAnyH_done (by kernel_rfl) ?_ _
      go_wp2
      go_ret
      exact ⟨vz, rfl, own_mono FZ.out HB.out.size, bel2M HB.out HBC.out⟩
  have st_2_7_12_17_22_27_28_33_37_42_47_52_53 : ∀ (A0 : Option Addr) (c0 : Nat) (A1 : Option Addr) (c1 : Nat) (A2 : Option Addr) (c2 : Nat) (A3 : Option Addr) (c3 : Nat) (A4 : Option Addr) (c4 : Nat) (CA : Option Addr) (CC : Nat) (A5 : Option Addr) (c5 : Nat) (A6 : Option Addr) (c6 : Nat) (A7 : Option Addr) (c7 : Nat) (A8 : Option Addr) (c8 : Nat) (A9 : Option Addr) (c9 : Nat) (A10 : Option Addr) (c10 : Nat) (g9 : Nat) (W : World) (HBC : Hid (Below w0.heap.size w0 W)) (F0 : Hid (Bs W (.slice A0 l0.length c0) l0)) (F1 : Hid (Bs W (.slice A1 l1.length c1) l1)) (F2 : Hid (Bs W (.slice A2 l2.length c2) l2)) (F3 : Hid (Bs W (.slice A3 l3.length c3) l3)) (F4 : Hid (Bs W (.slice A4 l4.length c4) l4)) (FC : Hid (Bs W (.slice CA m.d.length CC) m.d)) (F5 : Hid (Bs W (.slice A5 l5.length c5) l5)) (F6 : Hid (Bs W (.slice A6 l6.length c6) l6)) (F7 : Hid (Bs W (.slice A7 l7.length c7) l7)) (F8 : Hid (Bs W (.slice A8 l8.length c8) l8)) (F9 : Hid (Bs W (.slice A9 l9.length c9) l9)) (F10 : Hid (Bs W (.slice A10 l10.length c10) l10)) (GB : Hid (W.heap[g9]? = some (.cells #[.slice A0 l0.length c0, .slice A1 l1.length c1, .slice A2 l2.length c2, .slice A3 l3.length c3, .slice A4 l4.length c4, .slice A5 l5.length c5, .slice A6 l6.length c6, .slice A7 l7.length c7, .slice A8 l8.length c8, .slice A9 l9.length c9, .slice A10 l10.length c10] 23 (0, 0)))), G 2 #[true, true, true, true, true, true, true, true, true, true, true, true, true, true, true, true, true, true, true, true, true, true, true, true, true, true, true, true, true, true, true, true, true, true, true, true, true, true, true, true, true, true, true, true, true, true, true, true, true, true, true, true, true, true, false, false] ⟨#[agM m P, .pointer (some ⟨w.heap.size, 0, none⟩), .slice none 0 0, .pointer (some ⟨bs, 0, none⟩), .bool y, .tuple #[.agg (shC s), .bool y], .pointer (some ⟨w.heap.size, 0, none⟩), .int .i64 m.k, .tuple #[.agg (shC s), .bool y], .agg (shC s), .bool y, .pointer (some ⟨w.heap.size, 0, none⟩), .int .i64 m.k, .slice A0 l0.length c0, .pointer (some ⟨bs, 0, none⟩), .agg #[.int .i64 s.v.1, .int .i64 s.v.2], .pointer (some ⟨w.heap.size, 1, none⟩), .int .i64 m.v, .slice A1 l1.length c1, .pointer (some ⟨bs, 2, none⟩), .agg #[.int .i64 s.s.1, .int .i64 s.s.2], .pointer (some ⟨w.heap.size, 2, none⟩), .int .i64 m.s, .slice A2 l2.length c2, .pointer (some ⟨bs, 4, none⟩), .agg #[.int .i64 s.c.1, .int .i64 s.c.2], .pointer (some ⟨w.heap.size, 3, none⟩), .int .i64 m.c, .slice A3 l3.length c3, .pointer (some ⟨bs, 6, none⟩), .agg #[.int .i64 s.t.1, .int .i64 s.t.2], .pointer (some ⟨w.heap.size, 4, none⟩), .int .i64 m.t, .slice A4 l4.length c4, .pointer (some ⟨bs, 8, none⟩), .agg #[.int .i64 s.d.1, .int .i64 s.d.2], .pointer (some ⟨w.heap.size, 5, none⟩), .string (strB m.d), .slice CA m.d.length CC, .slice A5 l5.length c5, .pointer (some ⟨bs, 10, none⟩), .agg #[.int .i64 s.x.1, .int .i64 s.x.2], .pointer (some ⟨w.heap.size, 6, none⟩), .slice P.x.1 m.x.length P.x.2, .slice A6 l6.length c6, .agg (shC s), .pointer (some ⟨w.heap.size, 7, none⟩), .agg #[.int .i64 m.r.1, .int .i64 m.r.2], .slice A7 l7.length c7, .pointer (some ⟨w.heap.size, 9, none⟩), .slice P.b.1 m.b.length P.b.2, .pointer (some ⟨bs, 13, none⟩), .agg #[.int .i64 s.b.1, .int .i64 s.b.2], .slice A8 l8.length c8, .pointer (some ⟨w.heap.size, 10, none⟩), .slice P.p.1 m.p.length P.p.2, .pointer (some ⟨bs, 15, none⟩), .agg #[.int .i64 s.p.1, .int .i64 s.p.2], .slice A9 l9.length c9, .pointer (some ⟨w.heap.size, 11, none⟩), .slice P.q.1 m.q.length P.q.2, .pointer (some ⟨bs, 17, none⟩), .agg #[.int .i64 s.q.1, .int .i64 s.q.2], .slice A10 l10.length c10, .slice (some ⟨g9, 0, none⟩) 11 11, undef], []⟩ W := by
    intro A0 c0 A1 c1 A2 c2 A3 c3 A4 c4 CA CC A5 c5 A6 c6 A7 c7 A8 c8 A9 c9 A10 c10 g9 W HBC F0 F1 F2 F3 F4 FC F5 F6 F7 F8 F9 F10 GB
    rw [hG]
    have hHeld : ((fun W => W.heap[w.heap.size]? = some (.cells (msC m P) 30 (0, 0)) ∧ W.heap[bs]? = some (.cells (shC s) 51 (0, 0)))) W := HK.out _ HBC.out
    refine wpAnyH_ready (rs := [54]) (by kernel_rfl) (by simp) ?_
    refine AllReadyH.cons (o := ?o43) ?g43 (fun K hK => ?j43) AllReadyH.nil
    case g43 => (simp only [gA, gB, gC]; rfl)
    case j43 =>
      go_simp
      (go_at_call 32; refine (HCC.out _ _ (bss_heap (vs := [.slice A0 l0.length c0, .slice A1 l1.length c1, .slice A2 l2.length c2, .slice A3 l3.length c3, .slice A4 l4.length c4, .slice A5 l5.length c5, .slice A6 l6.length c6, .slice A7 l7.length c7, .slice A8 l8.length c8, .slice A9 l9.length c9, .slice A10 l10.length c10]) GB.out [l0, l1, l2, l3, l4, l5, l6, l7, l8, l9, l10] 11 rfl (by decide) ⟨F0.out, F1.out, F2.out, F3.out, F4.out, F5.out, F6.out, F7.out, F8.out, F9.out, F10.out, trivial⟩)).mono ?_)
      rintro e wz ⟨vz, rfl, hoz, hbm⟩
      have FZ := Lib.hid (own_mono hoz HBC.out.size)
      refine hK.out _ _ (by (try dsimp only); exact HK.out _ (bel2M HBC.out hbm)) (fun _ => ?_)
      (try simp only [Act.put, sA, sB, sC])
      refine wpAnyH_norm (fuel' := 1) (listed' := #[true, true, true, true, true, true, true, true, true, true, true, true, true, true, true, true, true, true, true, true, true, true, true, true, true, true, true, true, true, true, true, true, true, true, true, true, true, true, true, true, true, true, true, true, true, true, true, true, true, true, true, true, true, true, true, false]) (by kernel_rfl) (by kernel_rfl) ?_
      have hst := st_2_7_12_17_22_27_28_33_37_42_47_52_53_54 A0 c0 A1 c1 A2 c2 A3 c3 A4 c4 CA CC A5 c5 A6 c6 A7 c7 A8 c8 A9 c9 A10 c10 g9 vz _ (Lib.hid (bel2M HBC.out hbm)) (Lib.hid (F0.out.below hbm (Nat.le_refl _))) (Lib.hid (F1.out.below hbm (Nat.le_refl _))) (Lib.hid (F2.out.below hbm (Nat.le_refl _))) (Lib.hid (F3.out.below hbm (Nat.le_refl _))) (Lib.hid (F4.out.below hbm (Nat.le_refl _))) (Lib.hid (FC.out.below hbm (Nat.le_refl _))) (Lib.hid (F5.out.below hbm (Nat.le_refl _))) (Lib.hid (F6.out.below hbm (Nat.le_refl _))) (Lib.hid (F7.out.below hbm (Nat.le_refl _))) (Lib.hid (F8.out.below hbm (Nat.le_refl _))) (Lib.hid (F9.out.below hbm (Nat.le_refl _))) (Lib.hid (F10.out.below hbm (Nat.le_refl _))) (Lib.hid (heapB GB.out hbm)) FZ
      rw [hG] at hst
      exact hst
  have st_2_7_12_17_22_27_28_33_37_42_47_52 : ∀ (A0 : Option Addr) (c0 : Nat) (A1 : Option Addr) (c1 : Nat) (A2 : Option Addr) (c2 : Nat) (A3 : Option Addr) (c3 : Nat) (A4 : Option Addr) (c4 : Nat) (CA : Option Addr) (CC : Nat) (A5 : Option Addr) (c5 : Nat) (A6 : Option Addr) (c6 : Nat) (A7 : Option Addr) (c7 : Nat) (A8 : Option Addr) (c8 : Nat) (A9 : Option Addr) (c9 : Nat) (A10 : Option Addr) (c10 : Nat) (W : World) (HBC : Hid (Below w0.heap.size w0 W)) (F0 : Hid (Bs W (.slice A0 l0.length c0) l0)) (F1 : Hid (Bs W (.slice A1 l1.length c1) l1)) (F2 : Hid (Bs W (.slice A2 l2.length c2) l2)) (F3 : Hid (Bs W (.slice A3 l3.length c3) l3)) (F4 : Hid (Bs W (.slice A4 l4.length c4) l4)) (FC : Hid (Bs W (.slice CA m.d.length CC) m.d)) (F5 : Hid (Bs W (.slice A5 l5.length c5) l5)) (F6 : Hid (Bs W (.slice A6 l6.length c6) l6)) (F7 : Hid (Bs W (.slice A7 l7.length c7) l7)) (F8 : Hid (Bs W (.slice A8 l8.length c8) l8)) (F9 : Hid (Bs W (.slice A9 l9.length c9) l9)) (F10 : Hid (Bs W (.slice A10 l10.length c10) l10)), G 3 #[true, true, true, true, true, true, true, true, true, true, true, true, true, true, true, true, true, true, true, true, true, true, true, true, true, true, true, true, true, true, true, true, true, true, true, true, true, true, true, true, true, true, true, true, true, true, true, true, true, true, true, true, true, false, false, false] ⟨#[agM m P, .pointer (some ⟨w.heap.size, 0, none⟩), .slice none 0 0, .pointer (some ⟨bs, 0, none⟩), .bool y, .tuple #[.agg (shC s), .bool y], .pointer (some ⟨w.heap.size, 0, none⟩), .int .i64 m.k, .tuple #[.agg (shC s), .bool y], .agg (shC s), .bool y, .pointer (some ⟨w.heap.size, 0, none⟩), .int .i64 m.k, .slice A0 l0.length c0, .pointer (some ⟨bs, 0, none⟩), .agg #[.int .i64 s.v.1, .int .i64 s.v.2], .pointer (some ⟨w.heap.size, 1, none⟩), .int .i64 m.v, .slice A1 l1.length c1, .pointer (some ⟨bs, 2, none⟩), .agg #[.int .i64 s.s.1, .int .i64 s.s.2], .pointer (some ⟨w.heap.size, 2, none⟩), .int .i64 m.s, .slice A2 l2.length c2, .pointer (some ⟨bs, 4, none⟩), .agg #[.int .i64 s.c.1, .int .i64 s.c.2], .pointer (some ⟨w.heap.size, 3, none⟩), .int .i64 m.c, .slice A3 l3.length c3, .pointer (some ⟨bs, 6, none⟩), .agg #[.int .i64 s.t.1, .int .i64 s.t.2], .pointer (some ⟨w.heap.size, 4, none⟩), .int .i64 m.t, .slice A4 l4.length c4, .pointer (some ⟨bs, 8, none⟩), .agg #[.int .i64 s.d.1, .int .i64 s.d.2], .pointer (some ⟨w.heap.size, 5, none⟩), .string (strB m.d), .slice CA m.d.length CC, .slice A5 l5.length c5, .pointer (some ⟨bs, 10, none⟩), .agg #[.int .i64 s.x.1, .int .i64 s.x.2], .pointer (some ⟨w.heap.size, 6, none⟩), .slice P.x.1 m.x.length P.x.2, .slice A6 l6.length c6, .agg (shC s), .pointer (some ⟨w.heap.size, 7, none⟩), .agg #[.int .i64 m.r.1, .int .i64 m.r.2], .slice A7 l7.length c7, .pointer (some ⟨w.heap.size, 9, none⟩), .slice P.b.1 m.b.length P.b.2, .pointer (some ⟨bs, 13, none⟩), .agg #[.int .i64 s.b.1, .int .i64 s.b.2], .slice A8 l8.length c8, .pointer (some ⟨w.heap.size, 10, none⟩), .slice P.p.1 m.p.length P.p.2, .pointer (some ⟨bs, 15, none⟩), .agg #[.int .i64 s.p.1, .int .i64 s.p.2], .slice A9 l9.length c9, .pointer (some ⟨w.heap.size, 11, none⟩), .slice P.q.1 m.q.length P.q.2, .pointer (some ⟨bs, 17, none⟩), .agg #[.int .i64 s.q.1, .int .i64 s.q.2], .slice A10 l10.length c10, undef, undef], []⟩ W := by
    intro A0 c0 A1 c1 A2 c2 A3 c3 A4 c4 CA CC A5 c5 A6 c6 A7 c7 A8 c8 A9 c9 A10 c10 W HBC F0 F1 F2 F3 F4 FC F5 F6 F7 F8 F9 F10
    rw [hG]
    have hHeld : ((fun W => W.heap[w.heap.size]? = some (.cells (msC m P) 30 (0, 0)) ∧ W.heap[bs]? = some (.cells (shC s) 51 (0, 0)))) W := HK.out _ HBC.out
    refine wpAnyH_ready (rs := [53]) (by kernel_rfl) (by simp) ?_
    refine AllReadyH.cons (o := ?o44) ?g44 (fun K hK => ?j44) AllReadyH.nil
    case g44 => (simp only [gA, gB, gC]; rfl)
    case j44 =>
      refine step_built rfl 59 11 _ rfl #[.slice A0 l0.length c0, .slice A1 l1.length c1, .slice A2 l2.length c2, .slice A3 l3.length c3, .slice A4 l4.length c4, .slice A5 l5.length c5, .slice A6 l6.length c6, .slice A7 l7.length c7, .slice A8 l8.length c8, .slice A9 l9.length c9, .slice A10 l10.length c10] 23 (fun W => by go_simp) ?_
      intro g9 w' hg hbm hge
      have GB := Lib.hid hg
      refine hK.out _ _ (by (try dsimp only); exact HK.out _ (bel2M HBC.out hbm)) (fun _ => ?_)
      (try simp only [Act.put, sA, sB, sC])
      refine wpAnyH_norm (fuel' := 2) (listed' := #[true, true, true, true, true, true, true, true, true, true, true, true, true, true, true, true, true, true, true, true, true, true, true, true, true, true, true, true, true, true, true, true, true, true, true, true, true, true, true, true, true, true, true, true, true, true, true, true, true, true, true, true, true, true, false, false]) (by kernel_rfl) (by kernel_rfl) ?_
      have hst := st_2_7_12_17_22_27_28_33_37_42_47_52_53 A0 c0 A1 c1 A2 c2 A3 c3 A4 c4 CA CC A5 c5 A6 c6 A7 c7 A8 c8 A9 c9 A10 c10 g9 _ (Lib.hid (bel2M HBC.out hbm)) (Lib.hid (F0.out.below hbm (Nat.le_refl _))) (Lib.hid (F1.out.below hbm (Nat.le_refl _))) (Lib.hid (F2.out.below hbm (Nat.le_refl _))) (Lib.hid (F3.out.below hbm (Nat.le_refl _))) (Lib.hid (F4.out.below hbm (Nat.le_refl _))) (Lib.hid (FC.out.below hbm (Nat.le_refl _))) (Lib.hid (F5.out.below hbm (Nat.le_refl _))) (Lib.hid (F6.out.below hbm (Nat.le_refl _))) (Lib.hid (F7.out.below hbm (Nat.le_refl _))) (Lib.hid (F8.out.below hbm (Nat.le_refl _))) (Lib.hid (F9.out.below hbm (Nat.le_refl _))) (Lib.hid (F10.out.below hbm (Nat.le_refl _))) GB
      rw [hG] at hst
      exact hst
  have st_2_7_12_17_22_27_28_33_37_42_47 : ∀ (A0 : Option Addr) (c0 : Nat) (A1 : Option Addr) (c1 : Nat) (A2 : Option Addr) (c2 : Nat) (A3 : Option Addr) (c3 : Nat) (A4 : Option Addr) (c4 : Nat) (CA : Option Addr) (CC : Nat) (A5 : Option Addr) (c5 : Nat) (A6 : Option Addr) (c6 : Nat) (A7 : Option Addr) (c7 : Nat) (A8 : Option Addr) (c8 : Nat) (A9 : Option Addr) (c9 : Nat) (W : World) (HBC : Hid (Below w0.heap.size w0 W)) (F0 : Hid (Bs W (.slice A0 l0.length c0) l0)) (F1 : Hid (Bs W (.slice A1 l1.length c1) l1)) (F2 : Hid (Bs W (.slice A2 l2.length c2) l2)) (F3 : Hid (Bs W (.slice A3 l3.length c3) l3)) (F4 : Hid (Bs W (.slice A4 l4.length c4) l4)) (FC : Hid (Bs W (.slice CA m.d.length CC) m.d)) (F5 : Hid (Bs W (.slice A5 l5.length c5) l5)) (F6 : Hid (Bs W (.slice A6 l6.length c6) l6)) (F7 : Hid (Bs W (.slice A7 l7.length c7) l7)) (F8 : Hid (Bs W (.slice A8 l8.length c8) l8)) (F9 : Hid (Bs W (.slice A9 l9.length c9) l9)), G 4 #[true, true, true, true, true, true, true, true, true, true, true, true, true, true, true, true, true, true, true, true, true, true, true, true, true, true, true, true, true, true, true, true, true, true, true, true, true, true, true, true, true, true, true, true, true, true, true, true, true, true, true, true, false, false, false, false] ⟨#[agM m P, .pointer (some ⟨w.heap.size, 0, none⟩), .slice none 0 0, .pointer (some ⟨bs, 0, none⟩), .bool y, .tuple #[.agg (shC s), .bool y], .pointer (some ⟨w.heap.size, 0, none⟩), .int .i64 m.k, .tuple #[.agg (shC s), .bool y], .agg (shC s), .bool y, .pointer (some ⟨w.heap.size, 0, none⟩), .int .i64 m.k, .slice A0 l0.length c0, .pointer (some ⟨bs, 0, none⟩), .agg #[.int .i64 s.v.1, .int .i64 s.v.2], .pointer (some ⟨w.heap.size, 1, none⟩), .int .i64 m.v, .slice A1 l1.length c1, .pointer (some ⟨bs, 2, none⟩), .agg #[.int .i64 s.s.1, .int .i64 s.s.2], .pointer (some ⟨w.heap.size, 2, none⟩), .int .i64 m.s, .slice A2 l2.length c2, .pointer (some ⟨bs, 4, none⟩), .agg #[.int .i64 s.c.1, .int .i64 s.c.2], .pointer (some ⟨w.heap.size, 3, none⟩), .int .i64 m.c, .slice A3 l3.length c3, .pointer (some ⟨bs, 6, none⟩), .agg #[.int .i64 s.t.1, .int .i64 s.t.2], .pointer (some ⟨w.heap.size, 4, none⟩), .int .i64 m.t, .slice A4 l4.length c4, .pointer (some ⟨bs, 8, none⟩), .agg #[.int .i64 s.d.1, .int .i64 s.d.2], .pointer (some ⟨w.heap.size, 5, none⟩), .string (strB m.d), .slice CA m.d.length CC, .slice A5 l5.length c5, .pointer (some ⟨bs, 10, none⟩), .agg #[.int .i64 s.x.1, .int .i64 s.x.2], .pointer (some ⟨w.heap.size, 6, none⟩), .slice P.x.1 m.x.length P.x.2, .slice A6 l6.length c6, .agg (shC s), .pointer (some ⟨w.heap.size, 7, none⟩), .agg #[.int .i64 m.r.1, .int .i64 m.r.2], .slice A7 l7.length c7, .pointer (some ⟨w.heap.size, 9, none⟩), .slice P.b.1 m.b.length P.b.2, .pointer (some ⟨bs, 13, none⟩), .agg #[.int .i64 s.b.1, .int .i64 s.b.2], .slice A8 l8.length c8, .pointer (some ⟨w.heap.size, 10, none⟩), .slice P.p.1 m.p.length P.p.2, .pointer (some ⟨bs, 15, none⟩), .agg #[.int .i64 s.p.1, .int .i64 s.p.2], .slice A9 l9.length c9, .pointer (some ⟨w.heap.size, 11, none⟩), .slice P.q.1 m.q.length P.q.2, .pointer (some ⟨bs, 17, none⟩), .agg #[.int .i64 s.q.1, .int .i64 s.q.2], undef, undef, undef], []⟩ W := by
    intro A0 c0 A1 c1 A2 c2 A3 c3 A4 c4 CA CC A5 c5 A6 c6 A7 c7 A8 c8 A9 c9 W HBC F0 F1 F2 F3 F4 FC F5 F6 F7 F8 F9
    rw [hG]
    have hHeld : ((fun W => W.heap[w.heap.size]? = some (.cells (msC m P) 30 (0, 0)) ∧ W.heap[bs]? = some (.cells (shC s) 51 (0, 0)))) W := HK.out _ HBC.out
    refine wpAnyH_ready (rs := [52]) (by kernel_rfl) (by simp) ?_
    refine AllReadyH.cons (o := ?o45) ?g45 (fun K hK => ?j45) AllReadyH.nil
    case g45 => (simp only [gA, gB, gC]; rfl)
    case j45 =>
      go_simp
      (go_at_call 38; refine (HP10.out _ (bel2M HB.out HBC.out)).mono ?_)
      rintro e wa ⟨va, rfl, hoa, hbm⟩
      obtain ⟨A10, c10, rfl, -⟩ := (own_bs hoa).open
      have F10 := Lib.hid (own_bs hoa)
      refine hK.out _ _ (by (try dsimp only); exact HK.out _ (bel2M HBC.out hbm)) (fun _ => ?_)
      (try simp only [Act.put, sA, sB, sC])
      refine wpAnyH_norm (fuel' := 3) (listed' := #[true, true, true, true, true, true, true, true, true, true, true, true, true, true, true, true, true, true, true, true, true, true, true, true, true, true, true, true, true, true, true, true, true, true, true, true, true, true, true, true, true, true, true, true, true, true, true, true, true, true, true, true, true, false, false, false]) (by kernel_rfl) (by kernel_rfl) ?_
      have hst := st_2_7_12_17_22_27_28_33_37_42_47_52 A0 c0 A1 c1 A2 c2 A3 c3 A4 c4 CA CC A5 c5 A6 c6 A7 c7 A8 c8 A9 c9 A10 c10 _ (Lib.hid (bel2M HBC.out hbm)) (Lib.hid (F0.out.below hbm (Nat.le_refl _))) (Lib.hid (F1.out.below hbm (Nat.le_refl _))) (Lib.hid (F2.out.below hbm (Nat.le_refl _))) (Lib.hid (F3.out.below hbm (Nat.le_refl _))) (Lib.hid (F4.out.below hbm (Nat.le_refl _))) (Lib.hid (FC.out.below hbm (Nat.le_refl _))) (Lib.hid (F5.out.below hbm (Nat.le_refl _))) (Lib.hid (F6.out.below hbm (Nat.le_refl _))) (Lib.hid (F7.out.below hbm (Nat.le_refl _))) (Lib.hid (F8.out.below hbm (Nat.le_refl _))) (Lib.hid (F9.out.below hbm (Nat.le_refl _))) F10
      rw [hG] at hst
      exact hst
  have st_2_7_12_17_22_27_28_33_37_42 : ∀ (A0 : Option Addr) (c0 : Nat) (A1 : Option Addr) (c1 : Nat) (A2 : Option Addr) (c2 : Nat) (A3 : Option Addr) (c3 : Nat) (A4 : Option Addr) (c4 : Nat) (CA : Option Addr) (CC : Nat) (A5 : Option Addr) (c5 : Nat) (A6 : Option Addr) (c6 : Nat) (A7 : Option Addr) (c7 : Nat) (A8 : Option Addr) (c8 : Nat) (W : World) (HBC : Hid (Below w0.heap.size w0 W)) (F0 : Hid (Bs W (.slice A0 l0.length c0) l0)) (F1 : Hid (Bs W (.slice A1 l1.length c1) l1)) (F2 : Hid (Bs W (.slice A2 l2.length c2) l2)) (F3 : Hid (Bs W (.slice A3 l3.length c3) l3)) (F4 : Hid (Bs W (.slice A4 l4.length c4) l4)) (FC : Hid (Bs W (.slice CA m.d.length CC) m.d)) (F5 : Hid (Bs W (.slice A5 l5.length c5) l5)) (F6 : Hid (Bs W (.slice A6 l6.length c6) l6)) (F7 : Hid (Bs W (.slice A7 l7.length c7) l7)) (F8 : Hid (Bs W (.slice A8 l8.length c8) l8)), G 5 #[true, true, true, true, true, true, true, true, true, true, true, true, true, true, true, true, true, true, true, true, true, true, true, true, true, true, true, true, true, true, true, true, true, true, true, true, true, true, true, true, true, true, true, true, true, true, true, false, true, true, true, true, false, false, false, false] ⟨#[agM m P, .pointer (some ⟨w.heap.size, 0, none⟩), .slice none 0 0, .pointer (some ⟨bs, 0, none⟩), .bool y, .tuple #[.agg (shC s), .bool y], .pointer (some ⟨w.heap.size, 0, none⟩), .int .i64 m.k, .tuple #[.agg (shC s), .bool y], .agg (shC s), .bool y, .pointer (some ⟨w.heap.size, 0, none⟩), .int .i64 m.k, .slice A0 l0.length c0, .pointer (some ⟨bs, 0, none⟩), .agg #[.int .i64 s.v.1, .int .i64 s.v.2], .pointer (some ⟨w.heap.size, 1, none⟩), .int .i64 m.v, .slice A1 l1.length c1, .pointer (some ⟨bs, 2, none⟩), .agg #[.int .i64 s.s.1, .int .i64 s.s.2], .pointer (some ⟨w.heap.size, 2, none⟩), .int .i64 m.s, .slice A2 l2.length c2, .pointer (some ⟨bs, 4, none⟩), .agg #[.int .i64 s.c.1, .int .i64 s.c.2], .pointer (some ⟨w.heap.size, 3, none⟩), .int .i64 m.c, .slice A3 l3.length c3, .pointer (some ⟨bs, 6, none⟩), .agg #[.int .i64 s.t.1, .int .i64 s.t.2], .pointer (some ⟨w.heap.size, 4, none⟩), .int .i64 m.t, .slice A4 l4.length c4, .pointer (some ⟨bs, 8, none⟩), .agg #[.int .i64 s.d.1, .int .i64 s.d.2], .pointer (some ⟨w.heap.size, 5, none⟩), .string (strB m.d), .slice CA m.d.length CC, .slice A5 l5.length c5, .pointer (some ⟨bs, 10, none⟩), .agg #[.int .i64 s.x.1, .int .i64 s.x.2], .pointer (some ⟨w.heap.size, 6, none⟩), .slice P.x.1 m.x.length P.x.2, .slice A6 l6.length c6, .agg (shC s), .pointer (some ⟨w.heap.size, 7, none⟩), .agg #[.int .i64 m.r.1, .int .i64 m.r.2], .slice A7 l7.length c7, .pointer (some ⟨w.heap.size, 9, none⟩), .slice P.b.1 m.b.length P.b.2, .pointer (some ⟨bs, 13, none⟩), .agg #[.int .i64 s.b.1, .int .i64 s.b.2], .slice A8 l8.length c8, .pointer (some ⟨w.heap.size, 10, none⟩), .slice P.p.1 m.p.length P.p.2, .pointer (some ⟨bs, 15, none⟩), .agg #[.int .i64 s.p.1, .int .i64 s.p.2], undef, .pointer (some ⟨w.heap.size, 11, none⟩), .slice P.q.1 m.q.length P.q.2, .pointer (some ⟨bs, 17, none⟩), .agg #[.int .i64 s.q.1, .int .i64 s.q.2], undef, undef, undef], []⟩ W := by
    intro A0 c0 A1 c1 A2 c2 A3 c3 A4 c4 CA CC A5 c5 A6 c6 A7 c7 A8 c8 W HBC F0 F1 F2 F3 F4 FC F5 F6 F7 F8
    rw [hG]
    have hHeld : ((fun W => W.heap[w.heap.size]? = some (.cells (msC m P) 30 (0, 0)) ∧ W.heap[bs]? = some (.cells (shC s) 51 (0, 0)))) W := HK.out _ HBC.out
    refine wpAnyH_ready (rs := [47]) (by kernel_rfl) (by simp) ?_
    refine AllReadyH.cons (o := ?o46) ?g46 (fun K hK => ?j46) AllReadyH.nil
    case g46 => (simp only [gA, gB, gC]; rfl)
    case j46 =>
      go_simp
      (go_at_call 37; refine (HP9.out _ (bel2M HB.out HBC.out)).mono ?_)
      rintro e wa ⟨va, rfl, hoa, hbm⟩
      obtain ⟨A9, c9, rfl, -⟩ := (own_bs hoa).open
      have F9 := Lib.hid (own_bs hoa)
      refine hK.out _ _ (by (try dsimp only); exact HK.out _ (bel2M HBC.out hbm)) (fun _ => ?_)
      (try simp only [Act.put, sA, sB, sC])
      refine wpAnyH_norm (fuel' := 4) (listed' := #[true, true, true, true, true, true, true, true, true, true, true, true, true, true, true, true, true, true, true, true, true, true, true, true, true, true, true, true, true, true, true, true, true, true, true, true, true, true, true, true, true, true, true, true, true, true, true, true, true, true, true, true, false, false, false, false]) (by kernel_rfl) (by kernel_rfl) ?_
      have hst := st_2_7_12_17_22_27_28_33_37_42_47 A0 c0 A1 c1 A2 c2 A3 c3 A4 c4 CA CC A5 c5 A6 c6 A7 c7 A8 c8 A9 c9 _ (Lib.hid (bel2M HBC.out hbm)) (Lib.hid (F0.out.below hbm (Nat.le_refl _))) (Lib.hid (F1.out.below hbm (Nat.le_refl _))) (Lib.hid (F2.out.below hbm (Nat.le_refl _))) (Lib.hid (F3.out.below hbm (Nat.le_refl _))) (Lib.hid (F4.out.below hbm (Nat.le_refl _))) (Lib.hid (FC.out.below hbm (Nat.le_refl _))) (Lib.hid (F5.out.below hbm (Nat.le_refl _))) (Lib.hid (F6.out.below hbm (Nat.le_refl _))) (Lib.hid (F7.out.below hbm (Nat.le_refl _))) (Lib.hid (F8.out.below hbm (Nat.le_refl _))) F9
      rw [hG] at hst
      exact hst
  have st_2_7_12_17_22_27_28_33_37 : ∀ (A0 : Option Addr) (c0 : Nat) (A1 : Option Addr) (c1 : Nat) (A2 : Option Addr) (c2 : Nat) (A3 : Option Addr) (c3 : Nat) (A4 : Option Addr) (c4 : Nat) (CA : Option Addr) (CC : Nat) (A5 : Option Addr) (c5 : Nat) (A6 : Option Addr) (c6 : Nat) (A7 : Option Addr) (c7 : Nat) (W : World) (HBC : Hid (Below w0.heap.size w0 W)) (F0 : Hid (Bs W (.slice A0 l0.length c0) l0)) (F1 : Hid (Bs W (.slice A1 l1.length c1) l1)) (F2 : Hid (Bs W (.slice A2 l2.length c2) l2)) (F3 : Hid (Bs W (.slice A3 l3.length c3) l3)) (F4 : Hid (Bs W (.slice A4 l4.length c4) l4)) (FC : Hid (Bs W (.slice CA m.d.length CC) m.d)) (F5 : Hid (Bs W (.slice A5 l5.length c5) l5)) (F6 : Hid (Bs W (.slice A6 l6.length c6) l6)) (F7 : Hid (Bs W (.slice A7 l7.length c7) l7)), G 6 #[true, true, true, true, true, true, true, true, true, true, true, true, true, true, true, true, true, true, true, true, true, true, true, true, true, true, true, true, true, true, true, true, true, true, true, true, true, true, true, true, true, true, false, true, true, true, true, false, true, true, true, true, false, false, false, false] ⟨#[agM m P, .pointer (some ⟨w.heap.size, 0, none⟩), .slice none 0 0, .pointer (some ⟨bs, 0, none⟩), .bool y, .tuple #[.agg (shC s), .bool y], .pointer (some ⟨w.heap.size, 0, none⟩), .int .i64 m.k, .tuple #[.agg (shC s), .bool y], .agg (shC s), .bool y, .pointer (some ⟨w.heap.size, 0, none⟩), .int .i64 m.k, .slice A0 l0.length c0, .pointer (some ⟨bs, 0, none⟩), .agg #[.int .i64 s.v.1, .int .i64 s.v.2], .pointer (some ⟨w.heap.size, 1, none⟩), .int .i64 m.v, .slice A1 l1.length c1, .pointer (some ⟨bs, 2, none⟩), .agg #[.int .i64 s.s.1, .int .i64 s.s.2], .pointer (some ⟨w.heap.size, 2, none⟩), .int .i64 m.s, .slice A2 l2.length c2, .pointer (some ⟨bs, 4, none⟩), .agg #[.int .i64 s.c.1, .int .i64 s.c.2], .pointer (some ⟨w.heap.size, 3, none⟩), .int .i64 m.c, .slice A3 l3.length c3, .pointer (some ⟨bs, 6, none⟩), .agg #[.int .i64 s.t.1, .int .i64 s.t.2], .pointer (some ⟨w.heap.size, 4, none⟩), .int .i64 m.t, .slice A4 l4.length c4, .pointer (some ⟨bs, 8, none⟩), .agg #[.int .i64 s.d.1, .int .i64 s.d.2], .pointer (some ⟨w.heap.size, 5, none⟩), .string (strB m.d), .slice CA m.d.length CC, .slice A5 l5.length c5, .pointer (some ⟨bs, 10, none⟩), .agg #[.int .i64 s.x.1, .int .i64 s.x.2], .pointer (some ⟨w.heap.size, 6, none⟩), .slice P.x.1 m.x.length P.x.2, .slice A6 l6.length c6, .agg (shC s), .pointer (some ⟨w.heap.size, 7, none⟩), .agg #[.int .i64 m.r.1, .int .i64 m.r.2], .slice A7 l7.length c7, .pointer (some ⟨w.heap.size, 9, none⟩), .slice P.b.1 m.b.length P.b.2, .pointer (some ⟨bs, 13, none⟩), .agg #[.int .i64 s.b.1, .int .i64 s.b.2], undef, .pointer (some ⟨w.heap.size, 10, none⟩), .slice P.p.1 m.p.length P.p.2, .pointer (some ⟨bs, 15, none⟩), .agg #[.int .i64 s.p.1, .int .i64 s.p.2], undef, .pointer (some ⟨w.heap.size, 11, none⟩), .slice P.q.1 m.q.length P.q.2, .pointer (some ⟨bs, 17, none⟩), .agg #[.int .i64 s.q.1, .int .i64 s.q.2], undef, undef, undef], []⟩ W := by
    intro A0 c0 A1 c1 A2 c2 A3 c3 A4 c4 CA CC A5 c5 A6 c6 A7 c7 W HBC F0 F1 F2 F3 F4 FC F5 F6 F7
    rw [hG]
    have hHeld : ((fun W => W.heap[w.heap.size]? = some (.cells (msC m P) 30 (0, 0)) ∧ W.heap[bs]? = some (.cells (shC s) 51 (0, 0)))) W := HK.out _ HBC.out
    refine wpAnyH_ready (rs := [42]) (by kernel_rfl) (by simp) ?_
    refine AllReadyH.cons (o := ?o47) ?g47 (fun K hK => ?j47) AllReadyH.nil
    case g47 => (simp only [gA, gB, gC]; rfl)
    case j47 =>
      go_simp
      (go_at_call 37; refine (HP8.out _ (bel2M HB.out HBC.out)).mono ?_)
      rintro e wa ⟨va, rfl, hoa, hbm⟩
      obtain ⟨A8, c8, rfl, -⟩ := (own_bs hoa).open
      have F8 := Lib.hid (own_bs hoa)
      refine hK.out _ _ (by (try dsimp only); exact HK.out _ (bel2M HBC.out hbm)) (fun _ => ?_)
      (try simp only [Act.put, sA, sB, sC])
      refine wpAnyH_norm (fuel' := 5) (listed' := #[true, true, true, true, true, true, true, true, true, true, true, true, true, true, true, true, true, true, true, true, true, true, true, true, true, true, true, true, true, true, true, true, true, true, true, true, true, true, true, true, true, true, true, true, true, true, true, false, true, true, true, true, false, false, false, false]) (by kernel_rfl) (by kernel_rfl) ?_
      have hst := st_2_7_12_17_22_27_28_33_37_42 A0 c0 A1 c1 A2 c2 A3 c3 A4 c4 CA CC A5 c5 A6 c6 A7 c7 A8 c8 _ (Lib.hid (bel2M HBC.out hbm)) (Lib.hid (F0.out.below hbm (Nat.le_refl _))) (Lib.hid (F1.out.below hbm (Nat.le_refl _))) (Lib.hid (F2.out.below hbm (Nat.le_refl _))) (Lib.hid (F3.out.below hbm (Nat.le_refl _))) (Lib.hid (F4.out.below hbm (Nat.le_refl _))) (Lib.hid (FC.out.below hbm (Nat.le_refl _))) (Lib.hid (F5.out.below hbm (Nat.le_refl _))) (Lib.hid (F6.out.below hbm (Nat.le_refl _))) (Lib.hid (F7.out.below hbm (Nat.le_refl _))) F8
      rw [hG] at hst
      exact hst
  have st_2_7_12_17_22_27_28_33 : ∀ (A0 : Option Addr) (c0 : Nat) (A1 : Option Addr) (c1 : Nat) (A2 : Option Addr) (c2 : Nat) (A3 : Option Addr) (c3 : Nat) (A4 : Option Addr) (c4 : Nat) (CA : Option Addr) (CC : Nat) (A5 : Option Addr) (c5 : Nat) (A6 : Option Addr) (c6 : Nat) (W : World) (HBC : Hid (Below w0.heap.size w0 W)) (F0 : Hid (Bs W (.slice A0 l0.length c0) l0)) (F1 : Hid (Bs W (.slice A1 l1.length c1) l1)) (F2 : Hid (Bs W (.slice A2 l2.length c2) l2)) (F3 : Hid (Bs W (.slice A3 l3.length c3) l3)) (F4 : Hid (Bs W (.slice A4 l4.length c4) l4)) (FC : Hid (Bs W (.slice CA m.d.length CC) m.d)) (F5 : Hid (Bs W (.slice A5 l5.length c5) l5)) (F6 : Hid (Bs W (.slice A6 l6.length c6) l6)), G 7 #[true, true, true, true, true, true, true, true, true, true, true, true, true, true, true, true, true, true, true, true, true, true, true, true, true, true, true, true, true, true, true, true, true, true, true, true, true, false, true, true, true, true, false, true, true, true, true, false, true, true, true, true, false, false, false, false] ⟨#[agM m P, .pointer (some ⟨w.heap.size, 0, none⟩), .slice none 0 0, .pointer (some ⟨bs, 0, none⟩), .bool y, .tuple #[.agg (shC s), .bool y], .pointer (some ⟨w.heap.size, 0, none⟩), .int .i64 m.k, .tuple #[.agg (shC s), .bool y], .agg (shC s), .bool y, .pointer (some ⟨w.heap.size, 0, none⟩), .int .i64 m.k, .slice A0 l0.length c0, .pointer (some ⟨bs, 0, none⟩), .agg #[.int .i64 s.v.1, .int .i64 s.v.2], .pointer (some ⟨w.heap.size, 1, none⟩), .int .i64 m.v, .slice A1 l1.length c1, .pointer (some ⟨bs, 2, none⟩), .agg #[.int .i64 s.s.1, .int .i64 s.s.2], .pointer (some ⟨w.heap.size, 2, none⟩), .int .i64 m.s, .slice A2 l2.length c2, .pointer (some ⟨bs, 4, none⟩), .agg #[.int .i64 s.c.1, .int .i64 s.c.2], .pointer (some ⟨w.heap.size, 3, none⟩), .int .i64 m.c, .slice A3 l3.length c3, .pointer (some ⟨bs, 6, none⟩), .agg #[.int .i64 s.t.1, .int .i64 s.t.2], .pointer (some ⟨w.heap.size, 4, none⟩), .int .i64 m.t, .slice A4 l4.length c4, .pointer (some ⟨bs, 8, none⟩), .agg #[.int .i64 s.d.1, .int .i64 s.d.2], .pointer (some ⟨w.heap.size, 5, none⟩), .string (strB m.d), .slice CA m.d.length CC, .slice A5 l5.length c5, .pointer (some ⟨bs, 10, none⟩), .agg #[.int .i64 s.x.1, .int .i64 s.x.2], .pointer (some ⟨w.heap.size, 6, none⟩), .slice P.x.1 m.x.length P.x.2, .slice A6 l6.length c6, .agg (shC s), .pointer (some ⟨w.heap.size, 7, none⟩), .agg #[.int .i64 m.r.1, .int .i64 m.r.2], undef, .pointer (some ⟨w.heap.size, 9, none⟩), .slice P.b.1 m.b.length P.b.2, .pointer (some ⟨bs, 13, none⟩), .agg #[.int .i64 s.b.1, .int .i64 s.b.2], undef, .pointer (some ⟨w.heap.size, 10, none⟩), .slice P.p.1 m.p.length P.p.2, .pointer (some ⟨bs, 15, none⟩), .agg #[.int .i64 s.p.1, .int .i64 s.p.2], undef, .pointer (some ⟨w.heap.size, 11, none⟩), .slice P.q.1 m.q.length P.q.2, .pointer (some ⟨bs, 17, none⟩), .agg #[.int .i64 s.q.1, .int .i64 s.q.2], undef, undef, undef], []⟩ W := by
    intro A0 c0 A1 c1 A2 c2 A3 c3 A4 c4 CA CC A5 c5 A6 c6 W HBC F0 F1 F2 F3 F4 FC F5 F6
    rw [hG]
    have hHeld : ((fun W => W.heap[w.heap.size]? = some (.cells (msC m P) 30 (0, 0)) ∧ W.heap[bs]? = some (.cells (shC s) 51 (0, 0)))) W := HK.out _ HBC.out
    refine wpAnyH_ready (rs := [37]) (by kernel_rfl) (by simp) ?_
    refine AllReadyH.cons (o := ?o48) ?g48 (fun K hK => ?j48) AllReadyH.nil
    case g48 => (simp only [gA, gB, gC]; rfl)
    case j48 =>
      go_simp
      (go_at_call 36; refine (HP7.out _).mono ?_)
      rintro e wa ⟨va, rfl, hoa, hbm⟩
      obtain ⟨A7, c7, rfl, -⟩ := (own_bs hoa).open
      have F7 := Lib.hid (own_bs hoa)
      refine hK.out _ _ (by (try dsimp only); exact HK.out _ (bel2M HBC.out hbm)) (fun _ => ?_)
      (try simp only [Act.put, sA, sB, sC])
      refine wpAnyH_norm (fuel' := 6) (listed' := #[true, true, true, true, true, true, true, true, true, true, true, true, true, true, true, true, true, true, true, true, true, true, true, true, true, true, true, true, true, true, true, true, true, true, true, true, true, true, true, true, true, true, false, true, true, true, true, false, true, true, true, true, false, false, false, false]) (by kernel_rfl) (by kernel_rfl) ?_
      have hst := st_2_7_12_17_22_27_28_33_37 A0 c0 A1 c1 A2 c2 A3 c3 A4 c4 CA CC A5 c5 A6 c6 A7 c7 _ (Lib.hid (bel2M HBC.out hbm)) (Lib.hid (F0.out.below hbm (Nat.le_refl _))) (Lib.hid (F1.out.below hbm (Nat.le_refl _))) (Lib.hid (F2.out.below hbm (Nat.le_refl _))) (Lib.hid (F3.out.below hbm (Nat.le_refl _))) (Lib.hid (F4.out.below hbm (Nat.le_refl _))) (Lib.hid (FC.out.below hbm (Nat.le_refl _))) (Lib.hid (F5.out.below hbm (Nat.le_refl _))) (Lib.hid (F6.out.below hbm (Nat.le_refl _))) F7
      rw [hG] at hst
      exact hst
  have st_2_7_12_17_22_27_28 : ∀ (A0 : Option Addr) (c0 : Nat) (A1 : Option Addr) (c1 : Nat) (A2 : Option Addr) (c2 : Nat) (A3 : Option Addr) (c3 : Nat) (A4 : Option Addr) (c4 : Nat) (CA : Option Addr) (CC : Nat) (A5 : Option Addr) (c5 : Nat) (W : World) (HBC : Hid (Below w0.heap.size w0 W)) (F0 : Hid (Bs W (.slice A0 l0.length c0) l0)) (F1 : Hid (Bs W (.slice A1 l1.length c1) l1)) (F2 : Hid (Bs W (.slice A2 l2.length c2) l2)) (F3 : Hid (Bs W (.slice A3 l3.length c3) l3)) (F4 : Hid (Bs W (.slice A4 l4.length c4) l4)) (FC : Hid (Bs W (.slice CA m.d.length CC) m.d)) (F5 : Hid (Bs W (.slice A5 l5.length c5) l5)), G 8 #[true, true, true, true, true, true, true, true, true, true, true, true, true, true, true, true, true, true, true, true, true, true, true, true, true, true, true, true, true, true, true, true, true, false, true, true, true, false, true, true, true, true, false, true, true, true, true, false, true, true, true, true, false, false, false, false] ⟨#[agM m P, .pointer (some ⟨w.heap.size, 0, none⟩), .slice none 0 0, .pointer (some ⟨bs, 0, none⟩), .bool y, .tuple #[.agg (shC s), .bool y], .pointer (some ⟨w.heap.size, 0, none⟩), .int .i64 m.k, .tuple #[.agg (shC s), .bool y], .agg (shC s), .bool y, .pointer (some ⟨w.heap.size, 0, none⟩), .int .i64 m.k, .slice A0 l0.length c0, .pointer (some ⟨bs, 0, none⟩), .agg #[.int .i64 s.v.1, .int .i64 s.v.2], .pointer (some ⟨w.heap.size, 1, none⟩), .int .i64 m.v, .slice A1 l1.length c1, .pointer (some ⟨bs, 2, none⟩), .agg #[.int .i64 s.s.1, .int .i64 s.s.2], .pointer (some ⟨w.heap.size, 2, none⟩), .int .i64 m.s, .slice A2 l2.length c2, .pointer (some ⟨bs, 4, none⟩), .agg #[.int .i64 s.c.1, .int .i64 s.c.2], .pointer (some ⟨w.heap.size, 3, none⟩), .int .i64 m.c, .slice A3 l3.length c3, .pointer (some ⟨bs, 6, none⟩), .agg #[.int .i64 s.t.1, .int .i64 s.t.2], .pointer (some ⟨w.heap.size, 4, none⟩), .int .i64 m.t, .slice A4 l4.length c4, .pointer (some ⟨bs, 8, none⟩), .agg #[.int .i64 s.d.1, .int .i64 s.d.2], .pointer (some ⟨w.heap.size, 5, none⟩), .string (strB m.d), .slice CA m.d.length CC, .slice A5 l5.length c5, .pointer (some ⟨bs, 10, none⟩), .agg #[.int .i64 s.x.1, .int .i64 s.x.2], .pointer (some ⟨w.heap.size, 6, none⟩), .slice P.x.1 m.x.length P.x.2, undef, .agg (shC s), .pointer (some ⟨w.heap.size, 7, none⟩), .agg #[.int .i64 m.r.1, .int .i64 m.r.2], undef, .pointer (some ⟨w.heap.size, 9, none⟩), .slice P.b.1 m.b.length P.b.2, .pointer (some ⟨bs, 13, none⟩), .agg #[.int .i64 s.b.1, .int .i64 s.b.2], undef, .pointer (some ⟨w.heap.size, 10, none⟩), .slice P.p.1 m.p.length P.p.2, .pointer (some ⟨bs, 15, none⟩), .agg #[.int .i64 s.p.1, .int .i64 s.p.2], undef, .pointer (some ⟨w.heap.size, 11, none⟩), .slice P.q.1 m.q.length P.q.2, .pointer (some ⟨bs, 17, none⟩), .agg #[.int .i64 s.q.1, .int .i64 s.q.2], undef, undef, undef], []⟩ W := by
    intro A0 c0 A1 c1 A2 c2 A3 c3 A4 c4 CA CC A5 c5 W HBC F0 F1 F2 F3 F4 FC F5
    rw [hG]
    have hHeld : ((fun W => W.heap[w.heap.size]? = some (.cells (msC m P) 30 (0, 0)) ∧ W.heap[bs]? = some (.cells (shC s) 51 (0, 0)))) W := HK.out _ HBC.out
    refine wpAnyH_ready (rs := [33]) (by kernel_rfl) (by simp) ?_
    refine AllReadyH.cons (o := ?o49) ?g49 (fun K hK => ?j49) AllReadyH.nil
    case g49 => (simp only [gA, gB, gC]; rfl)
    case j49 =>
      go_simp
      (go_at_call 35; refine (HP6.out _ (bel2M HB.out HBC.out)).mono ?_)
      rintro e wa ⟨va, rfl, hoa, hbm⟩
      obtain ⟨A6, c6, rfl, -⟩ := (own_bs hoa).open
      have F6 := Lib.hid (own_bs hoa)
      refine hK.out _ _ (by (try dsimp only); exact HK.out _ (bel2M HBC.out hbm)) (fun _ => ?_)
      (try simp only [Act.put, sA, sB, sC])
      refine wpAnyH_norm (fuel' := 7) (listed' := #[true, true, true, true, true, true, true, true, true, true, true, true, true, true, true, true, true, true, true, true, true, true, true, true, true, true, true, true, true, true, true, true, true, true, true, true, true, false, true, true, true, true, false, true, true, true, true, false, true, true, true, true, false, false, false, false]) (by kernel_rfl) (by kernel_rfl) ?_
      have hst := st_2_7_12_17_22_27_28_33 A0 c0 A1 c1 A2 c2 A3 c3 A4 c4 CA CC A5 c5 A6 c6 _ (Lib.hid (bel2M HBC.out hbm)) (Lib.hid (F0.out.below hbm (Nat.le_refl _))) (Lib.hid (F1.out.below hbm (Nat.le_refl _))) (Lib.hid (F2.out.below hbm (Nat.le_refl _))) (Lib.hid (F3.out.below hbm (Nat.le_refl _))) (Lib.hid (F4.out.below hbm (Nat.le_refl _))) (Lib.hid (FC.out.below hbm (Nat.le_refl _))) (Lib.hid (F5.out.below hbm (Nat.le_refl _))) F6
      rw [hG] at hst
      exact hst
  have st_2_7_12_17_22_27 : ∀ (A0 : Option Addr) (c0 : Nat) (A1 : Option Addr) (c1 : Nat) (A2 : Option Addr) (c2 : Nat) (A3 : Option Addr) (c3 : Nat) (A4 : Option Addr) (c4 : Nat) (CA : Option Addr) (CC : Nat) (W : World) (HBC : Hid (Below w0.heap.size w0 W)) (F0 : Hid (Bs W (.slice A0 l0.length c0) l0)) (F1 : Hid (Bs W (.slice A1 l1.length c1) l1)) (F2 : Hid (Bs W (.slice A2 l2.length c2) l2)) (F3 : Hid (Bs W (.slice A3 l3.length c3) l3)) (F4 : Hid (Bs W (.slice A4 l4.length c4) l4)) (FC : Hid (Bs W (.slice CA m.d.length CC) m.d)), G 9 #[true, true, true, true, true, true, true, true, true, true, true, true, true, true, true, true, true, true, true, true, true, true, true, true, true, true, true, true, false, true, true, true, true, false, true, true, true, false, true, true, true, true, false, true, true, true, true, false, true, true, true, true, false, false, false, false] ⟨#[agM m P, .pointer (some ⟨w.heap.size, 0, none⟩), .slice none 0 0, .pointer (some ⟨bs, 0, none⟩), .bool y, .tuple #[.agg (shC s), .bool y], .pointer (some ⟨w.heap.size, 0, none⟩), .int .i64 m.k, .tuple #[.agg (shC s), .bool y], .agg (shC s), .bool y, .pointer (some ⟨w.heap.size, 0, none⟩), .int .i64 m.k, .slice A0 l0.length c0, .pointer (some ⟨bs, 0, none⟩), .agg #[.int .i64 s.v.1, .int .i64 s.v.2], .pointer (some ⟨w.heap.size, 1, none⟩), .int .i64 m.v, .slice A1 l1.length c1, .pointer (some ⟨bs, 2, none⟩), .agg #[.int .i64 s.s.1, .int .i64 s.s.2], .pointer (some ⟨w.heap.size, 2, none⟩), .int .i64 m.s, .slice A2 l2.length c2, .pointer (some ⟨bs, 4, none⟩), .agg #[.int .i64 s.c.1, .int .i64 s.c.2], .pointer (some ⟨w.heap.size, 3, none⟩), .int .i64 m.c, .slice A3 l3.length c3, .pointer (some ⟨bs, 6, none⟩), .agg #[.int .i64 s.t.1, .int .i64 s.t.2], .pointer (some ⟨w.heap.size, 4, none⟩), .int .i64 m.t, .slice A4 l4.length c4, .pointer (some ⟨bs, 8, none⟩), .agg #[.int .i64 s.d.1, .int .i64 s.d.2], .pointer (some ⟨w.heap.size, 5, none⟩), .string (strB m.d), .slice CA m.d.length CC, undef, .pointer (some ⟨bs, 10, none⟩), .agg #[.int .i64 s.x.1, .int .i64 s.x.2], .pointer (some ⟨w.heap.size, 6, none⟩), .slice P.x.1 m.x.length P.x.2, undef, .agg (shC s), .pointer (some ⟨w.heap.size, 7, none⟩), .agg #[.int .i64 m.r.1, .int .i64 m.r.2], undef, .pointer (some ⟨w.heap.size, 9, none⟩), .slice P.b.1 m.b.length P.b.2, .pointer (some ⟨bs, 13, none⟩), .agg #[.int .i64 s.b.1, .int .i64 s.b.2], undef, .pointer (some ⟨w.heap.size, 10, none⟩), .slice P.p.1 m.p.length P.p.2, .pointer (some ⟨bs, 15, none⟩), .agg #[.int .i64 s.p.1, .int .i64 s.p.2], undef, .pointer (some ⟨w.heap.size, 11, none⟩), .slice P.q.1 m.q.length P.q.2, .pointer (some ⟨bs, 17, none⟩), .agg #[.int .i64 s.q.1, .int .i64 s.q.2], undef, undef, undef], []⟩ W := by
    intro A0 c0 A1 c1 A2 c2 A3 c3 A4 c4 CA CC W HBC F0 F1 F2 F3 F4 FC
    rw [hG]
    have hHeld : ((fun W => W.heap[w.heap.size]? = some (.cells (msC m P) 30 (0, 0)) ∧ W.heap[bs]? = some (.cells (shC s) 51 (0, 0)))) W := HK.out _ HBC.out
    refine wpAnyH_ready (rs := [28]) (by kernel_rfl) (by simp) ?_
    refine AllReadyH.cons (o := ?o50) ?g50 (fun K hK => ?j50) AllReadyH.nil
    case g50 => (simp only [gA, gB, gC]; rfl)
    case j50 =>
      go_simp
      (go_at_call 35; refine (HP5.out _ _ _ FC.out).mono ?_)
      rintro e wa ⟨va, rfl, hoa, hbm⟩
      obtain ⟨A5, c5, rfl, -⟩ := (own_bs hoa).open
      have F5 := Lib.hid (own_bs hoa)
      refine hK.out _ _ (by (try dsimp only); exact HK.out _ (bel2M HBC.out hbm)) (fun _ => ?_)
      (try simp only [Act.put, sA, sB, sC])
      refine wpAnyH_norm (fuel' := 8) (listed' := #[true, true, true, true, true, true, true, true, true, true, true, true, true, true, true, true, true, true, true, true, true, true, true, true, true, true, true, true, true, true, true, true, true, false, true, true, true, false, true, true, true, true, false, true, true, true, true, false, true, true, true, true, false, false, false, false]) (by kernel_rfl) (by kernel_rfl) ?_
      have hst := st_2_7_12_17_22_27_28 A0 c0 A1 c1 A2 c2 A3 c3 A4 c4 CA CC A5 c5 _ (Lib.hid (bel2M HBC.out hbm)) (Lib.hid (F0.out.below hbm (Nat.le_refl _))) (Lib.hid (F1.out.below hbm (Nat.le_refl _))) (Lib.hid (F2.out.below hbm (Nat.le_refl _))) (Lib.hid (F3.out.below hbm (Nat.le_refl _))) (Lib.hid (F4.out.below hbm (Nat.le_refl _))) (Lib.hid (FC.out.below hbm (Nat.le_refl _))) F5
      rw [hG] at hst
      exact hst
  have st_2_7_12_17_27 : ∀ (A0 : Option Addr) (c0 : Nat) (A1 : Option Addr) (c1 : Nat) (A2 : Option Addr) (c2 : Nat) (A3 : Option Addr) (c3 : Nat) (CA : Option Addr) (CC : Nat) (W : World) (HBC : Hid (Below w0.heap.size w0 W)) (F0 : Hid (Bs W (.slice A0 l0.length c0) l0)) (F1 : Hid (Bs W (.slice A1 l1.length c1) l1)) (F2 : Hid (Bs W (.slice A2 l2.length c2) l2)) (F3 : Hid (Bs W (.slice A3 l3.length c3) l3)) (FC : Hid (Bs W (.slice CA m.d.length CC) m.d)), G 10 #[true, true, true, true, true, true, true, true, true, true, true, true, true, true, true, true, true, true, true, true, true, true, false, true, true, true, true, true, false, true, true, true, true, false, true, true, true, false, true, true, true, true, false, true, true, true, true, false, true, true, true, true, false, false, false, false] ⟨#[agM m P, .pointer (some ⟨w.heap.size, 0, none⟩), .slice none 0 0, .pointer (some ⟨bs, 0, none⟩), .bool y, .tuple #[.agg (shC s), .bool y], .pointer (some ⟨w.heap.size, 0, none⟩), .int .i64 m.k, .tuple #[.agg (shC s), .bool y], .agg (shC s), .bool y, .pointer (some ⟨w.heap.size, 0, none⟩), .int .i64 m.k, .slice A0 l0.length c0, .pointer (some ⟨bs, 0, none⟩), .agg #[.int .i64 s.v.1, .int .i64 s.v.2], .pointer (some ⟨w.heap.size, 1, none⟩), .int .i64 m.v, .slice A1 l1.length c1, .pointer (some ⟨bs, 2, none⟩), .agg #[.int .i64 s.s.1, .int .i64 s.s.2], .pointer (some ⟨w.heap.size, 2, none⟩), .int .i64 m.s, .slice A2 l2.length c2, .pointer (some ⟨bs, 4, none⟩), .agg #[.int .i64 s.c.1, .int .i64 s.c.2], .pointer (some ⟨w.heap.size, 3, none⟩), .int .i64 m.c, .slice A3 l3.length c3, .pointer (some ⟨bs, 6, none⟩), .agg #[.int .i64 s.t.1, .int .i64 s.t.2], .pointer (some ⟨w.heap.size, 4, none⟩), .int .i64 m.t, undef, .pointer (some ⟨bs, 8, none⟩), .agg #[.int .i64 s.d.1, .int .i64 s.d.2], .pointer (some ⟨w.heap.size, 5, none⟩), .string (strB m.d), .slice CA m.d.length CC, undef, .pointer (some ⟨bs, 10, none⟩), .agg #[.int .i64 s.x.1, .int .i64 s.x.2], .pointer (some ⟨w.heap.size, 6, none⟩), .slice P.x.1 m.x.length P.x.2, undef, .agg (shC s), .pointer (some ⟨w.heap.size, 7, none⟩), .agg #[.int .i64 m.r.1, .int .i64 m.r.2], undef, .pointer (some ⟨w.heap.size, 9, none⟩), .slice P.b.1 m.b.length P.b.2, .pointer (some ⟨bs, 13, none⟩), .agg #[.int .i64 s.b.1, .int .i64 s.b.2], undef, .pointer (some ⟨w.heap.size, 10, none⟩), .slice P.p.1 m.p.length P.p.2, .pointer (some ⟨bs, 15, none⟩), .agg #[.int .i64 s.p.1, .int .i64 s.p.2], undef, .pointer (some ⟨w.heap.size, 11, none⟩), .slice P.q.1 m.q.length P.q.2, .pointer (some ⟨bs, 17, none⟩), .agg #[.int .i64 s.q.1, .int .i64 s.q.2], undef, undef, undef], []⟩ W := by
    intro A0 c0 A1 c1 A2 c2 A3 c3 CA CC W HBC F0 F1 F2 F3 FC
    rw [hG]
    have hHeld : ((fun W => W.heap[w.heap.size]? = some (.cells (msC m P) 30 (0, 0)) ∧ W.heap[bs]? = some (.cells (shC s) 51 (0, 0)))) W := HK.out _ HBC.out
    refine wpAnyH_ready (rs := [22]) (by kernel_rfl) (by simp) ?_
    refine AllReadyH.cons (o := ?o51) ?g51 (fun K hK => ?j51) AllReadyH.nil
    case g51 => (simp only [gA, gB, gC]; rfl)
    case j51 =>
      go_simp
      (go_at_call 34; refine (HP4.out _).mono ?_)
      rintro e wa ⟨va, rfl, hoa, hbm⟩
      obtain ⟨A4, c4, rfl, -⟩ := (own_bs hoa).open
      have F4 := Lib.hid (own_bs hoa)
      refine hK.out _ _ (by (try dsimp only); exact HK.out _ (bel2M HBC.out hbm)) (fun _ => ?_)
      (try simp only [Act.put, sA, sB, sC])
      refine wpAnyH_norm (fuel' := 9) (listed' := #[true, true, true, true, true, true, true, true, true, true, true, true, true, true, true, true, true, true, true, true, true, true, true, true, true, true, true, true, false, true, true, true, true, false, true, true, true, false, true, true, true, true, false, true, true, true, true, false, true, true, true, true, false, false, false, false]) (by kernel_rfl) (by kernel_rfl) ?_
      have hst := st_2_7_12_17_22_27 A0 c0 A1 c1 A2 c2 A3 c3 A4 c4 CA CC _ (Lib.hid (bel2M HBC.out hbm)) (Lib.hid (F0.out.below hbm (Nat.le_refl _))) (Lib.hid (F1.out.below hbm (Nat.le_refl _))) (Lib.hid (F2.out.below hbm (Nat.le_refl _))) (Lib.hid (F3.out.below hbm (Nat.le_refl _))) F4 (Lib.hid (FC.out.below hbm (Nat.le_refl _)))
      rw [hG] at hst
      exact hst
  have st_2_7_12_17_22 : ∀ (A0 : Option Addr) (c0 : Nat) (A1 : Option Addr) (c1 : Nat) (A2 : Option Addr) (c2 : Nat) (A3 : Option Addr) (c3 : Nat) (A4 : Option Addr) (c4 : Nat) (W : World) (HBC : Hid (Below w0.heap.size w0 W)) (F0 : Hid (Bs W (.slice A0 l0.length c0) l0)) (F1 : Hid (Bs W (.slice A1 l1.length c1) l1)) (F2 : Hid (Bs W (.slice A2 l2.length c2) l2)) (F3 : Hid (Bs W (.slice A3 l3.length c3) l3)) (F4 : Hid (Bs W (.slice A4 l4.length c4) l4)), G 10 #[true, true, true, true, true, true, true, true, true, true, true, true, true, true, true, true, true, true, true, true, true, true, true, true, true, true, true, false, false, true, true, true, true, false, true, true, true, false, true, true, true, true, false, true, true, true, true, false, true, true, true, true, false, false, false, false] ⟨#[agM m P, .pointer (some ⟨w.heap.size, 0, none⟩), .slice none 0 0, .pointer (some ⟨bs, 0, none⟩), .bool y, .tuple #[.agg (shC s), .bool y], .pointer (some ⟨w.heap.size, 0, none⟩), .int .i64 m.k, .tuple #[.agg (shC s), .bool y], .agg (shC s), .bool y, .pointer (some ⟨w.heap.size, 0, none⟩), .int .i64 m.k, .slice A0 l0.length c0, .pointer (some ⟨bs, 0, none⟩), .agg #[.int .i64 s.v.1, .int .i64 s.v.2], .pointer (some ⟨w.heap.size, 1, none⟩), .int .i64 m.v, .slice A1 l1.length c1, .pointer (some ⟨bs, 2, none⟩), .agg #[.int .i64 s.s.1, .int .i64 s.s.2], .pointer (some ⟨w.heap.size, 2, none⟩), .int .i64 m.s, .slice A2 l2.length c2, .pointer (some ⟨bs, 4, none⟩), .agg #[.int .i64 s.c.1, .int .i64 s.c.2], .pointer (some ⟨w.heap.size, 3, none⟩), .int .i64 m.c, .slice A3 l3.length c3, .pointer (some ⟨bs, 6, none⟩), .agg #[.int .i64 s.t.1, .int .i64 s.t.2], .pointer (some ⟨w.heap.size, 4, none⟩), .int .i64 m.t, .slice A4 l4.length c4, .pointer (some ⟨bs, 8, none⟩), .agg #[.int .i64 s.d.1, .int .i64 s.d.2], .pointer (some ⟨w.heap.size, 5, none⟩), .string (strB m.d), undef, undef, .pointer (some ⟨bs, 10, none⟩), .agg #[.int .i64 s.x.1, .int .i64 s.x.2], .pointer (some ⟨w.heap.size, 6, none⟩), .slice P.x.1 m.x.length P.x.2, undef, .agg (shC s), .pointer (some ⟨w.heap.size, 7, none⟩), .agg #[.int .i64 m.r.1, .int .i64 m.r.2], undef, .pointer (some ⟨w.heap.size, 9, none⟩), .slice P.b.1 m.b.length P.b.2, .pointer (some ⟨bs, 13, none⟩), .agg #[.int .i64 s.b.1, .int .i64 s.b.2], undef, .pointer (some ⟨w.heap.size, 10, none⟩), .slice P.p.1 m.p.length P.p.2, .pointer (some ⟨bs, 15, none⟩), .agg #[.int .i64 s.p.1, .int .i64 s.p.2], undef, .pointer (some ⟨w.heap.size, 11, none⟩), .slice P.q.1 m.q.length P.q.2, .pointer (some ⟨bs, 17, none⟩), .agg #[.int .i64 s.q.1, .int .i64 s.q.2], undef, undef, undef], []⟩ W := by
    intro A0 c0 A1 c1 A2 c2 A3 c3 A4 c4 W HBC F0 F1 F2 F3 F4
    rw [hG]
    have hHeld : ((fun W => W.heap[w.heap.size]? = some (.cells (msC m P) 30 (0, 0)) ∧ W.heap[bs]? = some (.cells (shC s) 51 (0, 0)))) W := HK.out _ HBC.out
    refine wpAnyH_ready (rs := [27]) (by kernel_rfl) (by simp) ?_
    refine AllReadyH.cons (o := ?o52) ?g52 (fun K hK => ?j52) AllReadyH.nil
    case g52 => (simp only [gA, gB, gC]; rfl)
    case j52 =>
      refine step_conv rfl _ 22 23 rfl _ Try.underlying22 Try.underlying23 Try.underlying5 m.d rfl HDL.out ?_
      intro CA CC w' hcs hbm
      have FC := Lib.hid hcs
      refine hK.out _ _ (by (try dsimp only); exact HK.out _ (bel2M HBC.out hbm)) (fun _ => ?_)
      (try simp only [Act.put, sA, sB, sC])
      refine wpAnyH_norm (fuel' := 9) (listed' := #[true, true, true, true, true, true, true, true, true, true, true, true, true, true, true, true, true, true, true, true, true, true, true, true, true, true, true, true, false, true, true, true, true, false, true, true, true, false, true, true, true, true, false, true, true, true, true, false, true, true, true, true, false, false, false, false]) (by kernel_rfl) (by kernel_rfl) ?_
      have hst := st_2_7_12_17_22_27 A0 c0 A1 c1 A2 c2 A3 c3 A4 c4 CA CC _ (Lib.hid (bel2M HBC.out hbm)) (Lib.hid (F0.out.below hbm (Nat.le_refl _))) (Lib.hid (F1.out.below hbm (Nat.le_refl _))) (Lib.hid (F2.out.below hbm (Nat.le_refl _))) (Lib.hid (F3.out.below hbm (Nat.le_refl _))) (Lib.hid (F4.out.below hbm (Nat.le_refl _))) FC
      rw [hG] at hst
      exact hst
  have st_2_7_12_27 : ∀ (A0 : Option Addr) (c0 : Nat) (A1 : Option Addr) (c1 : Nat) (A2 : Option Addr) (c2 : Nat) (CA : Option Addr) (CC : Nat) (W : World) (HBC : Hid (Below w0.heap.size w0 W)) (F0 : Hid (Bs W (.slice A0 l0.length c0) l0)) (F1 : Hid (Bs W (.slice A1 l1.length c1) l1)) (F2 : Hid (Bs W (.slice A2 l2.length c2) l2)) (FC : Hid (Bs W (.slice CA m.d.length CC) m.d)), G 11 #[true, true, true, true, true, true, true, true, true, true, true, true, true, true, true, true, true, false, true, true, true, true, false, true, true, true, true, true, false, true, true, true, true, false, true, true, true, false, true, true, true, true, false, true, true, true, true, false, true, true, true, true, false, false, false, false] ⟨#[agM m P, .pointer (some ⟨w.heap.size, 0, none⟩), .slice none 0 0, .pointer (some ⟨bs, 0, none⟩), .bool y, .tuple #[.agg (shC s), .bool y], .pointer (some ⟨w.heap.size, 0, none⟩), .int .i64 m.k, .tuple #[.agg (shC s), .bool y], .agg (shC s), .bool y, .pointer (some ⟨w.heap.size, 0, none⟩), .int .i64 m.k, .slice A0 l0.length c0, .pointer (some ⟨bs, 0, none⟩), .agg #[.int .i64 s.v.1, .int .i64 s.v.2], .pointer (some ⟨w.heap.size, 1, none⟩), .int .i64 m.v, .slice A1 l1.length c1, .pointer (some ⟨bs, 2, none⟩), .agg #[.int .i64 s.s.1, .int .i64 s.s.2], .pointer (some ⟨w.heap.size, 2, none⟩), .int .i64 m.s, .slice A2 l2.length c2, .pointer (some ⟨bs, 4, none⟩), .agg #[.int .i64 s.c.1, .int .i64 s.c.2], .pointer (some ⟨w.heap.size, 3, none⟩), .int .i64 m.c, undef, .pointer (some ⟨bs, 6, none⟩), .agg #[.int .i64 s.t.1, .int .i64 s.t.2], .pointer (some ⟨w.heap.size, 4, none⟩), .int .i64 m.t, undef, .pointer (some ⟨bs, 8, none⟩), .agg #[.int .i64 s.d.1, .int .i64 s.d.2], .pointer (some ⟨w.heap.size, 5, none⟩), .string (strB m.d), .slice CA m.d.length CC, undef, .pointer (some ⟨bs, 10, none⟩), .agg #[.int .i64 s.x.1, .int .i64 s.x.2], .pointer (some ⟨w.heap.size, 6, none⟩), .slice P.x.1 m.x.length P.x.2, undef, .agg (shC s), .pointer (some ⟨w.heap.size, 7, none⟩), .agg #[.int .i64 m.r.1, .int .i64 m.r.2], undef, .pointer (some ⟨w.heap.size, 9, none⟩), .slice P.b.1 m.b.length P.b.2, .pointer (some ⟨bs, 13, none⟩), .agg #[.int .i64 s.b.1, .int .i64 s.b.2], undef, .pointer (some ⟨w.heap.size, 10, none⟩), .slice P.p.1 m.p.length P.p.2, .pointer (some ⟨bs, 15, none⟩), .agg #[.int .i64 s.p.1, .int .i64 s.p.2], undef, .pointer (some ⟨w.heap.size, 11, none⟩), .slice P.q.1 m.q.length P.q.2, .pointer (some ⟨bs, 17, none⟩), .agg #[.int .i64 s.q.1, .int .i64 s.q.2], undef, undef, undef], []⟩ W := by
    intro A0 c0 A1 c1 A2 c2 CA CC W HBC F0 F1 F2 FC
    rw [hG]
    have hHeld : ((fun W => W.heap[w.heap.size]? = some (.cells (msC m P) 30 (0, 0)) ∧ W.heap[bs]? = some (.cells (shC s) 51 (0, 0)))) W := HK.out _ HBC.out
    refine wpAnyH_ready (rs := [17]) (by kernel_rfl) (by simp) ?_
    refine AllReadyH.cons (o := ?o53) ?g53 (fun K hK => ?j53) AllReadyH.nil
    case g53 => (simp only [gA, gB, gC]; rfl)
    case j53 =>
      go_simp
      (go_at_call 34; refine (HP3.out _).mono ?_)
      rintro e wa ⟨va, rfl, hoa, hbm⟩
      obtain ⟨A3, c3, rfl, -⟩ := (own_bs hoa).open
      have F3 := Lib.hid (own_bs hoa)
      refine hK.out _ _ (by (try dsimp only); exact HK.out _ (bel2M HBC.out hbm)) (fun _ => ?_)
      (try simp only [Act.put, sA, sB, sC])
      refine wpAnyH_norm (fuel' := 10) (listed' := #[true, true, true, true, true, true, true, true, true, true, true, true, true, true, true, true, true, true, true, true, true, true, false, true, true, true, true, true, false, true, true, true, true, false, true, true, true, false, true, true, true, true, false, true, true, true, true, false, true, true, true, true, false, false, false, false]) (by kernel_rfl) (by kernel_rfl) ?_
      have hst := st_2_7_12_17_27 A0 c0 A1 c1 A2 c2 A3 c3 CA CC _ (Lib.hid (bel2M HBC.out hbm)) (Lib.hid (F0.out.below hbm (Nat.le_refl _))) (Lib.hid (F1.out.below hbm (Nat.le_refl _))) (Lib.hid (F2.out.below hbm (Nat.le_refl _))) F3 (Lib.hid (FC.out.below hbm (Nat.le_refl _)))
      rw [hG] at hst
      exact hst
  have st_2_7_12_17 : ∀ (A0 : Option Addr) (c0 : Nat) (A1 : Option Addr) (c1 : Nat) (A2 : Option Addr) (c2 : Nat) (A3 : Option Addr) (c3 : Nat) (W : World) (HBC : Hid (Below w0.heap.size w0 W)) (F0 : Hid (Bs W (.slice A0 l0.length c0) l0)) (F1 : Hid (Bs W (.slice A1 l1.length c1) l1)) (F2 : Hid (Bs W (.slice A2 l2.length c2) l2)) (F3 : Hid (Bs W (.slice A3 l3.length c3) l3)), G 11 #[true, true, true, true, true, true, true, true, true, true, true, true, true, true, true, true, true, true, true, true, true, true, false, true, true, true, true, false, false, true, true, true, true, false, true, true, true, false, true, true, true, true, false, true, true, true, true, false, true, true, true, true, false, false, false, false] ⟨#[agM m P, .pointer (some ⟨w.heap.size, 0, none⟩), .slice none 0 0, .pointer (some ⟨bs, 0, none⟩), .bool y, .tuple #[.agg (shC s), .bool y], .pointer (some ⟨w.heap.size, 0, none⟩), .int .i64 m.k, .tuple #[.agg (shC s), .bool y], .agg (shC s), .bool y, .pointer (some ⟨w.heap.size, 0, none⟩), .int .i64 m.k, .slice A0 l0.length c0, .pointer (some ⟨bs, 0, none⟩), .agg #[.int .i64 s.v.1, .int .i64 s.v.2], .pointer (some ⟨w.heap.size, 1, none⟩), .int .i64 m.v, .slice A1 l1.length c1, .pointer (some ⟨bs, 2, none⟩), .agg #[.int .i64 s.s.1, .int .i64 s.s.2], .pointer (some ⟨w.heap.size, 2, none⟩), .int .i64 m.s, .slice A2 l2.length c2, .pointer (some ⟨bs, 4, none⟩), .agg #[.int .i64 s.c.1, .int .i64 s.c.2], .pointer (some ⟨w.heap.size, 3, none⟩), .int .i64 m.c, .slice A3 l3.length c3, .pointer (some ⟨bs, 6, none⟩), .agg #[.int .i64 s.t.1, .int .i64 s.t.2], .pointer (some ⟨w.heap.size, 4, none⟩), .int .i64 m.t, undef, .pointer (some ⟨bs, 8, none⟩), .agg #[.int .i64 s.d.1, .int .i64 s.d.2], .pointer (some ⟨w.heap.size, 5, none⟩), .string (strB m.d), undef, undef, .pointer (some ⟨bs, 10, none⟩), .agg #[.int .i64 s.x.1, .int .i64 s.x.2], .pointer (some ⟨w.heap.size, 6, none⟩), .slice P.x.1 m.x.length P.x.2, undef, .agg (shC s), .pointer (some ⟨w.heap.size, 7, none⟩), .agg #[.int .i64 m.r.1, .int .i64 m.r.2], undef, .pointer (some ⟨w.heap.size, 9, none⟩), .slice P.b.1 m.b.length P.b.2, .pointer (some ⟨bs, 13, none⟩), .agg #[.int .i64 s.b.1, .int .i64 s.b.2], undef, .pointer (some ⟨w.heap.size, 10, none⟩), .slice P.p.1 m.p.length P.p.2, .pointer (some ⟨bs, 15, none⟩), .agg #[.int .i64 s.p.1, .int .i64 s.p.2], undef, .pointer (some ⟨w.heap.size, 11, none⟩), .slice P.q.1 m.q.length P.q.2, .pointer (some ⟨bs, 17, none⟩), .agg #[.int .i64 s.q.1, .int .i64 s.q.2], undef, undef, undef], []⟩ W := by
    intro A0 c0 A1 c1 A2 c2 A3 c3 W HBC F0 F1 F2 F3
    rw [hG]
    have hHeld : ((fun W => W.heap[w.heap.size]? = some (.cells (msC m P) 30 (0, 0)) ∧ W.heap[bs]? = some (.cells (shC s) 51 (0, 0)))) W := HK.out _ HBC.out
    refine wpAnyH_ready (rs := [22, 27]) (by kernel_rfl) (by simp) ?_
    refine AllReadyH.cons (o := ?o54) ?g54 (fun K hK => ?j54) (AllReadyH.cons (o := ?o55) ?g55 (fun K hK => ?j55) AllReadyH.nil)
    case g54 => (simp only [gA, gB, gC]; rfl)
    case g55 => (simp only [gA, gB, gC]; rfl)
    case j54 =>
      go_simp
      (go_at_call 34; refine (HP4.out _).mono ?_)
      rintro e wa ⟨va, rfl, hoa, hbm⟩
      obtain ⟨A4, c4, rfl, -⟩ := (own_bs hoa).open
      have F4 := Lib.hid (own_bs hoa)
      refine hK.out _ _ (by (try dsimp only); exact HK.out _ (bel2M HBC.out hbm)) (fun _ => ?_)
      (try simp only [Act.put, sA, sB, sC])
      refine wpAnyH_norm (fuel' := 10) (listed' := #[true, true, true, true, true, true, true, true, true, true, true, true, true, true, true, true, true, true, true, true, true, true, true, true, true, true, true, false, false, true, true, true, true, false, true, true, true, false, true, true, true, true, false, true, true, true, true, false, true, true, true, true, false, false, false, false]) (by kernel_rfl) (by kernel_rfl) ?_
      have hst := st_2_7_12_17_22 A0 c0 A1 c1 A2 c2 A3 c3 A4 c4 _ (Lib.hid (bel2M HBC.out hbm)) (Lib.hid (F0.out.below hbm (Nat.le_refl _))) (Lib.hid (F1.out.below hbm (Nat.le_refl _))) (Lib.hid (F2.out.below hbm (Nat.le_refl _))) (Lib.hid (F3.out.below hbm (Nat.le_refl _))) F4
      rw [hG] at hst
      exact hst
    case j55 =>
      refine step_conv rfl _ 22 23 rfl _ Try.underlying22 Try.underlying23 Try.underlying5 m.d rfl HDL.out ?_
      intro CA CC w' hcs hbm
      have FC := Lib.hid hcs
      refine hK.out _ _ (by (try dsimp only); exact HK.out _ (bel2M HBC.out hbm)) (fun _ => ?_)
      (try simp only [Act.put, sA, sB, sC])
      refine wpAnyH_norm (fuel' := 10) (listed' := #[true, true, true, true, true, true, true, true, true, true, true, true, true, true, true, true, true, true, true, true, true, true, false, true, true, true, true, true, false, true, true, true, true, false, true, true, true, false, true, true, true, true, false, true, true, true, true, false, true, true, true, true, false, false, false, false]) (by kernel_rfl) (by kernel_rfl) ?_
      have hst := st_2_7_12_17_27 A0 c0 A1 c1 A2 c2 A3 c3 CA CC _ (Lib.hid (bel2M HBC.out hbm)) (Lib.hid (F0.out.below hbm (Nat.le_refl _))) (Lib.hid (F1.out.below hbm (Nat.le_refl _))) (Lib.hid (F2.out.below hbm (Nat.le_refl _))) (Lib.hid (F3.out.below hbm (Nat.le_refl _))) FC
      rw [hG] at hst
      exact hst
  have st_2_7_27 : ∀ (A0 : Option Addr) (c0 : Nat) (A1 : Option Addr) (c1 : Nat) (CA : Option Addr) (CC : Nat) (W : World) (HBC : Hid (Below w0.heap.size w0 W)) (F0 : Hid (Bs W (.slice A0 l0.length c0) l0)) (F1 : Hid (Bs W (.slice A1 l1.length c1) l1)) (FC : Hid (Bs W (.slice CA m.d.length CC) m.d)), G 12 #[true, true, true, true, true, true, true, true, true, true, true, true, false, true, true, true, true, false, true, true, true, true, false, true, true, true, true, true, false, true, true, true, true, false, true, true, true, false, true, true, true, true, false, true, true, true, true, false, true, true, true, true, false, false, false, false] ⟨#[agM m P, .pointer (some ⟨w.heap.size, 0, none⟩), .slice none 0 0, .pointer (some ⟨bs, 0, none⟩), .bool y, .tuple #[.agg (shC s), .bool y], .pointer (some ⟨w.heap.size, 0, none⟩), .int .i64 m.k, .tuple #[.agg (shC s), .bool y], .agg (shC s), .bool y, .pointer (some ⟨w.heap.size, 0, none⟩), .int .i64 m.k, .slice A0 l0.length c0, .pointer (some ⟨bs, 0, none⟩), .agg #[.int .i64 s.v.1, .int .i64 s.v.2], .pointer (some ⟨w.heap.size, 1, none⟩), .int .i64 m.v, .slice A1 l1.length c1, .pointer (some ⟨bs, 2, none⟩), .agg #[.int .i64 s.s.1, .int .i64 s.s.2], .pointer (some ⟨w.heap.size, 2, none⟩), .int .i64 m.s, undef, .pointer (some ⟨bs, 4, none⟩), .agg #[.int .i64 s.c.1, .int .i64 s.c.2], .pointer (some ⟨w.heap.size, 3, none⟩), .int .i64 m.c, undef, .pointer (some ⟨bs, 6, none⟩), .agg #[.int .i64 s.t.1, .int .i64 s.t.2], .pointer (some ⟨w.heap.size, 4, none⟩), .int .i64 m.t, undef, .pointer (some ⟨bs, 8, none⟩), .agg #[.int .i64 s.d.1, .int .i64 s.d.2], .pointer (some ⟨w.heap.size, 5, none⟩), .string (strB m.d), .slice CA m.d.length CC, undef, .pointer (some ⟨bs, 10, none⟩), .agg #[.int .i64 s.x.1, .int .i64 s.x.2], .pointer (some ⟨w.heap.size, 6, none⟩), .slice P.x.1 m.x.length P.x.2, undef, .agg (shC s), .pointer (some ⟨w.heap.size, 7, none⟩), .agg #[.int .i64 m.r.1, .int .i64 m.r.2], undef, .pointer (some ⟨w.heap.size, 9, none⟩), .slice P.b.1 m.b.length P.b.2, .pointer (some ⟨bs, 13, none⟩), .agg #[.int .i64 s.b.1, .int .i64 s.b.2], undef, .pointer (some ⟨w.heap.size, 10, none⟩), .slice P.p.1 m.p.length P.p.2, .pointer (some ⟨bs, 15, none⟩), .agg #[.int .i64 s.p.1, .int .i64 s.p.2], undef, .pointer (some ⟨w.heap.size, 11, none⟩), .slice P.q.1 m.q.length P.q.2, .pointer (some ⟨bs, 17, none⟩), .agg #[.int .i64 s.q.1, .int .i64 s.q.2], undef, undef, undef], []⟩ W := by
    intro A0 c0 A1 c1 CA CC W HBC F0 F1 FC
    rw [hG]
    have hHeld : ((fun W => W.heap[w.heap.size]? = some (.cells (msC m P) 30 (0, 0)) ∧ W.heap[bs]? = some (.cells (shC s) 51 (0, 0)))) W := HK.out _ HBC.out
    refine wpAnyH_ready (rs := [12]) (by kernel_rfl) (by simp) ?_
    refine AllReadyH.cons (o := ?o56) ?g56 (fun K hK => ?j56) AllReadyH.nil
    case g56 => (simp only [gA, gB, gC]; rfl)
    case j56 =>
      go_simp
      (go_at_call 34; refine (HP2.out _).mono ?_)
      rintro e wa ⟨va, rfl, hoa, hbm⟩
      obtain ⟨A2, c2, rfl, -⟩ := (own_bs hoa).open
      have F2 := Lib.hid (own_bs hoa)
      refine hK.out _ _ (by (try dsimp only); exact HK.out _ (bel2M HBC.out hbm)) (fun _ => ?_)
      (try simp only [Act.put, sA, sB, sC])
      refine wpAnyH_norm (fuel' := 11) (listed' := #[true, true, true, true, true, true, true, true, true, true, true, true, true, true, true, true, true, false, true, true, true, true, false, true, true, true, true, true, false, true, true, true, true, false, true, true, true, false, true, true, true, true, false, true, true, true, true, false, true, true, true, true, false, false, false, false]) (by kernel_rfl) (by kernel_rfl) ?_
      have hst := st_2_7_12_27 A0 c0 A1 c1 A2 c2 CA CC _ (Lib.hid (bel2M HBC.out hbm)) (Lib.hid (F0.out.below hbm (Nat.le_refl _))) (Lib.hid (F1.out.below hbm (Nat.le_refl _))) F2 (Lib.hid (FC.out.below hbm (Nat.le_refl _)))
      rw [hG] at hst
      exact hst
  have st_2_7_12 : ∀ (A0 : Option Addr) (c0 : Nat) (A1 : Option Addr) (c1 : Nat) (A2 : Option Addr) (c2 : Nat) (W : World) (HBC : Hid (Below w0.heap.size w0 W)) (F0 : Hid (Bs W (.slice A0 l0.length c0) l0)) (F1 : Hid (Bs W (.slice A1 l1.length c1) l1)) (F2 : Hid (Bs W (.slice A2 l2.length c2) l2)), G 12 #[true, true, true, true, true, true, true, true, true, true, true, true, true, true, true, true, true, false, true, true, true, true, false, true, true, true, true, false, false, true, true, true, true, false, true, true, true, false, true, true, true, true, false, true, true, true, true, false, true, true, true, true, false, false, false, false] ⟨#[agM m P, .pointer (some ⟨w.heap.size, 0, none⟩), .slice none 0 0, .pointer (some ⟨bs, 0, none⟩), .bool y, .tuple #[.agg (shC s), .bool y], .pointer (some ⟨w.heap.size, 0, none⟩), .int .i64 m.k, .tuple #[.agg (shC s), .bool y], .agg (shC s), .bool y, .pointer (some ⟨w.heap.size, 0, none⟩), .int .i64 m.k, .slice A0 l0.length c0, .pointer (some ⟨bs, 0, none⟩), .agg #[.int .i64 s.v.1, .int .i64 s.v.2], .pointer (some ⟨w.heap.size, 1, none⟩), .int .i64 m.v, .slice A1 l1.length c1, .pointer (some ⟨bs, 2, none⟩), .agg #[.int .i64 s.s.1, .int .i64 s.s.2], .pointer (some ⟨w.heap.size, 2, none⟩), .int .i64 m.s, .slice A2 l2.length c2, .pointer (some ⟨bs, 4, none⟩), .agg #[.int .i64 s.c.1, .int .i64 s.c.2], .pointer (some ⟨w.heap.size, 3, none⟩), .int .i64 m.c, undef, .pointer (some ⟨bs, 6, none⟩), .agg #[.int .i64 s.t.1, .int .i64 s.t.2], .pointer (some ⟨w.heap.size, 4, none⟩), .int .i64 m.t, undef, .pointer (some ⟨bs, 8, none⟩), .agg #[.int .i64 s.d.1, .int .i64 s.d.2], .pointer (some ⟨w.heap.size, 5, none⟩), .string (strB m.d), undef, undef, .pointer (some ⟨bs, 10, none⟩), .agg #[.int .i64 s.x.1, .int .i64 s.x.2], .pointer (some ⟨w.heap.size, 6, none⟩), .slice P.x.1 m.x.length P.x.2, undef, .agg (shC s), .pointer (some ⟨w.heap.size, 7, none⟩), .agg #[.int .i64 m.r.1, .int .i64 m.r.2], undef, .pointer (some ⟨w.heap.size, 9, none⟩), .slice P.b.1 m.b.length P.b.2, .pointer (some ⟨bs, 13, none⟩), .agg #[.int .i64 s.b.1, .int .i64 s.b.2], undef, .pointer (some ⟨w.heap.size, 10, none⟩), .slice P.p.1 m.p.length P.p.2, .pointer (some ⟨bs, 15, none⟩), .agg #[.int .i64 s.p.1, .int .i64 s.p.2], undef, .pointer (some ⟨w.heap.size, 11, none⟩), .slice P.q.1 m.q.length P.q.2, .pointer (some ⟨bs, 17, none⟩), .agg #[.int .i64 s.q.1, .int .i64 s.q.2], undef, undef, undef], []⟩ W := by
    intro A0 c0 A1 c1 A2 c2 W HBC F0 F1 F2
    rw [hG]
    have hHeld : ((fun W => W.heap[w.heap.size]? = some (.cells (msC m P) 30 (0, 0)) ∧ W.heap[bs]? = some (.cells (shC s) 51 (0, 0)))) W := HK.out _ HBC.out
    refine wpAnyH_ready (rs := [17, 27]) (by kernel_rfl) (by simp) ?_
    refine AllReadyH.cons (o := ?o57) ?g57 (fun K hK => ?j57) (AllReadyH.cons (o := ?o58) ?g58 (fun K hK => ?j58) AllReadyH.nil)
    case g57 => (simp only [gA, gB, gC]; rfl)
    case g58 => (simp only [gA, gB, gC]; rfl)
    case j57 =>
      go_simp
      (go_at_call 34; refine (HP3.out _).mono ?_)
      rintro e wa ⟨va, rfl, hoa, hbm⟩
      obtain ⟨A3, c3, rfl, -⟩ := (own_bs hoa).open
      have F3 := Lib.hid (own_bs hoa)
      refine hK.out _ _ (by (try dsimp only); exact HK.out _ (bel2M HBC.out hbm)) (fun _ => ?_)
      (try simp only [Act.put, sA, sB, sC])
      refine wpAnyH_norm (fuel' := 11) (listed' := #[true, true, true, true, true, true, true, true, true, true, true, true, true, true, true, true, true, true, true, true, true, true, false, true, true, true, true, false, false, true, true, true, true, false, true, true, true, false, true, true, true, true, false, true, true, true, true, false, true, true, true, true, false, false, false, false]) (by kernel_rfl) (by kernel_rfl) ?_
      have hst := st_2_7_12_17 A0 c0 A1 c1 A2 c2 A3 c3 _ (Lib.hid (bel2M HBC.out hbm)) (Lib.hid (F0.out.below hbm (Nat.le_refl _))) (Lib.hid (F1.out.below hbm (Nat.le_refl _))) (Lib.hid (F2.out.below hbm (Nat.le_refl _))) F3
      rw [hG] at hst
      exact hst
    case j58 =>
      refine step_conv rfl _ 22 23 rfl _ Try.underlying22 Try.underlying23 Try.underlying5 m.d rfl HDL.out ?_
      intro CA CC w' hcs hbm
      have FC := Lib.hid hcs
      refine hK.out _ _ (by (try dsimp only); exact HK.out _ (bel2M HBC.out hbm)) (fun _ => ?_)
      (try simp only [Act.put, sA, sB, sC])
      refine wpAnyH_norm (fuel' := 11) (listed' := #[true, true, true, true, true, true, true, true, true, true, true, true, true, true, true, true, true, false, true, true, true, true, false, true, true, true, true, true, false, true, true, true, true, false, true, true, true, false, true, true, true, true, false, true, true, true, true, false, true, true, true, true, false, false, false, false]) (by kernel_rfl) (by kernel_rfl) ?_
      have hst := st_2_7_12_27 A0 c0 A1 c1 A2 c2 CA CC _ (Lib.hid (bel2M HBC.out hbm)) (Lib.hid (F0.out.below hbm (Nat.le_refl _))) (Lib.hid (F1.out.below hbm (Nat.le_refl _))) (Lib.hid (F2.out.below hbm (Nat.le_refl _))) FC
      rw [hG] at hst
      exact hst
  have st_2_27 : ∀ (A0 : Option Addr) (c0 : Nat) (CA : Option Addr) (CC : Nat) (W : World) (HBC : Hid (Below w0.heap.size w0 W)) (F0 : Hid (Bs W (.slice A0 l0.length c0) l0)) (FC : Hid (Bs W (.slice CA m.d.length CC) m.d)), G 13 #[true, true, true, true, true, true, true, false, true, true, true, true, false, true, true, true, true, false, true, true, true, true, false, true, true, true, true, true, false, true, true, true, true, false, true, true, true, false, true, true, true, true, false, true, true, true, true, false, true, true, true, true, false, false, false, false] ⟨#[agM m P, .pointer (some ⟨w.heap.size, 0, none⟩), .slice none 0 0, .pointer (some ⟨bs, 0, none⟩), .bool y, .tuple #[.agg (shC s), .bool y], .pointer (some ⟨w.heap.size, 0, none⟩), .int .i64 m.k, .tuple #[.agg (shC s), .bool y], .agg (shC s), .bool y, .pointer (some ⟨w.heap.size, 0, none⟩), .int .i64 m.k, .slice A0 l0.length c0, .pointer (some ⟨bs, 0, none⟩), .agg #[.int .i64 s.v.1, .int .i64 s.v.2], .pointer (some ⟨w.heap.size, 1, none⟩), .int .i64 m.v, undef, .pointer (some ⟨bs, 2, none⟩), .agg #[.int .i64 s.s.1, .int .i64 s.s.2], .pointer (some ⟨w.heap.size, 2, none⟩), .int .i64 m.s, undef, .pointer (some ⟨bs, 4, none⟩), .agg #[.int .i64 s.c.1, .int .i64 s.c.2], .pointer (some ⟨w.heap.size, 3, none⟩), .int .i64 m.c, undef, .pointer (some ⟨bs, 6, none⟩), .agg #[.int .i64 s.t.1, .int .i64 s.t.2], .pointer (some ⟨w.heap.size, 4, none⟩), .int .i64 m.t, undef, .pointer (some ⟨bs, 8, none⟩), .agg #[.int .i64 s.d.1, .int .i64 s.d.2], .pointer (some ⟨w.heap.size, 5, none⟩), .string (strB m.d), .slice CA m.d.length CC, undef, .pointer (some ⟨bs, 10, none⟩), .agg #[.int .i64 s.x.1, .int .i64 s.x.2], .pointer (some ⟨w.heap.size, 6, none⟩), .slice P.x.1 m.x.length P.x.2, undef, .agg (shC s), .pointer (some ⟨w.heap.size, 7, none⟩), .agg #[.int .i64 m.r.1, .int .i64 m.r.2], undef, .pointer (some ⟨w.heap.size, 9, none⟩), .slice P.b.1 m.b.length P.b.2, .pointer (some ⟨bs, 13, none⟩), .agg #[.int .i64 s.b.1, .int .i64 s.b.2], undef, .pointer (some ⟨w.heap.size, 10, none⟩), .slice P.p.1 m.p.length P.p.2, .pointer (some ⟨bs, 15, none⟩), .agg #[.int .i64 s.p.1, .int .i64 s.p.2], undef, .pointer (some ⟨w.heap.size, 11, none⟩), .slice P.q.1 m.q.length P.q.2, .pointer (some ⟨bs, 17, none⟩), .agg #[.int .i64 s.q.1, .int .i64 s.q.2], undef, undef, undef], []⟩ W := by
    intro A0 c0 CA CC W HBC F0 FC
    rw [hG]
    have hHeld : ((fun W => W.heap[w.heap.size]? = some (.cells (msC m P) 30 (0, 0)) ∧ W.heap[bs]? = some (.cells (shC s) 51 (0, 0)))) W := HK.out _ HBC.out
    refine wpAnyH_ready (rs := [7]) (by kernel_rfl) (by simp) ?_
    refine AllReadyH.cons (o := ?o59) ?g59 (fun K hK => ?j59) AllReadyH.nil
    case g59 => (simp only [gA, gB, gC]; rfl)
    case j59 =>
      go_simp
      (go_at_call 34; refine (HP1.out _).mono ?_)
      rintro e wa ⟨va, rfl, hoa, hbm⟩
      obtain ⟨A1, c1, rfl, -⟩ := (own_bs hoa).open
      have F1 := Lib.hid (own_bs hoa)
      refine hK.out _ _ (by (try dsimp only); exact HK.out _ (bel2M HBC.out hbm)) (fun _ => ?_)
      (try simp only [Act.put, sA, sB, sC])
      refine wpAnyH_norm (fuel' := 12) (listed' := #[true, true, true, true, true, true, true, true, true, true, true, true, false, true, true, true, true, false, true, true, true, true, false, true, true, true, true, true, false, true, true, true, true, false, true, true, true, false, true, true, true, true, false, true, true, true, true, false, true, true, true, true, false, false, false, false]) (by kernel_rfl) (by kernel_rfl) ?_
      have hst := st_2_7_27 A0 c0 A1 c1 CA CC _ (Lib.hid (bel2M HBC.out hbm)) (Lib.hid (F0.out.below hbm (Nat.le_refl _))) F1 (Lib.hid (FC.out.below hbm (Nat.le_refl _)))
      rw [hG] at hst
      exact hst
  have st_2_7 : ∀ (A0 : Option Addr) (c0 : Nat) (A1 : Option Addr) (c1 : Nat) (W : World) (HBC : Hid (Below w0.heap.size w0 W)) (F0 : Hid (Bs W (.slice A0 l0.length c0) l0)) (F1 : Hid (Bs W (.slice A1 l1.length c1) l1)), G 13 #[true, true, true, true, true, true, true, true, true, true, true, true, false, true, true, true, true, false, true, true, true, true, false, true, true, true, true, false, false, true, true, true, true, false, true, true, true, false, true, true, true, true, false, true, true, true, true, false, true, true, true, true, false, false, false, false] ⟨#[agM m P, .pointer (some ⟨w.heap.size, 0, none⟩), .slice none 0 0, .pointer (some ⟨bs, 0, none⟩), .bool y, .tuple #[.agg (shC s), .bool y], .pointer (some ⟨w.heap.size, 0, none⟩), .int .i64 m.k, .tuple #[.agg (shC s), .bool y], .agg (shC s), .bool y, .pointer (some ⟨w.heap.size, 0, none⟩), .int .i64 m.k, .slice A0 l0.length c0, .pointer (some ⟨bs, 0, none⟩), .agg #[.int .i64 s.v.1, .int .i64 s.v.2], .pointer (some ⟨w.heap.size, 1, none⟩), .int .i64 m.v, .slice A1 l1.length c1, .pointer (some ⟨bs, 2, none⟩), .agg #[.int .i64 s.s.1, .int .i64 s.s.2], .pointer (some ⟨w.heap.size, 2, none⟩), .int .i64 m.s, undef, .pointer (some ⟨bs, 4, none⟩), .agg #[.int .i64 s.c.1, .int .i64 s.c.2], .pointer (some ⟨w.heap.size, 3, none⟩), .int .i64 m.c, undef, .pointer (some ⟨bs, 6, none⟩), .agg #[.int .i64 s.t.1, .int .i64 s.t.2], .pointer (some ⟨w.heap.size, 4, none⟩), .int .i64 m.t, undef, .pointer (some ⟨bs, 8, none⟩), .agg #[.int .i64 s.d.1, .int .i64 s.d.2], .pointer (some ⟨w.heap.size, 5, none⟩), .string (strB m.d), undef, undef, .pointer (some ⟨bs, 10, none⟩), .agg #[.int .i64 s.x.1, .int .i64 s.x.2], .pointer (some ⟨w.heap.size, 6, none⟩), .slice P.x.1 m.x.length P.x.2, undef, .agg (shC s), .pointer (some ⟨w.heap.size, 7, none⟩), .agg #[.int .i64 m.r.1, .int .i64 m.r.2], undef, .pointer (some ⟨w.heap.size, 9, none⟩), .slice P.b.1 m.b.length P.b.2, .pointer (some ⟨bs, 13, none⟩), .agg #[.int .i64 s.b.1, .int .i64 s.b.2], undef, .pointer (some ⟨w.heap.size, 10, none⟩), .slice P.p.1 m.p.length P.p.2, .pointer (some ⟨bs, 15, none⟩), .agg #[.int .i64 s.p.1, .int .i64 s.p.2], undef, .pointer (some ⟨w.heap.size, 11, none⟩), .slice P.q.1 m.q.length P.q.2, .pointer (some ⟨bs, 17, none⟩), .agg #[.int .i64 s.q.1, .int .i64 s.q.2], undef, undef, undef], []⟩ W := by
    intro A0 c0 A1 c1 W HBC F0 F1
    rw [hG]
    have hHeld : ((fun W => W.heap[w.heap.size]? = some (.cells (msC m P) 30 (0, 0)) ∧ W.heap[bs]? = some (.cells (shC s) 51 (0, 0)))) W := HK.out _ HBC.out
    refine wpAnyH_ready (rs := [12, 27]) (by kernel_rfl) (by simp) ?_
    refine AllReadyH.cons (o := ?o60) ?g60 (fun K hK => ?j60) (AllReadyH.cons (o := ?o61) ?g61 (fun K hK => ?j61) AllReadyH.nil)
    case g60 => (simp only [gA, gB, gC]; rfl)
    case g61 => (simp only [gA, gB, gC]; rfl)
    case j60 =>
      go_simp
      (go_at_call 34; refine (HP2.out _).mono ?_)
      rintro e wa ⟨va, rfl, hoa, hbm⟩
      obtain ⟨A2, c2, rfl, -⟩ := (own_bs hoa).open
      have F2 := Lib.hid (own_bs hoa)
      refine hK.out _ _ (by (try dsimp only); exact HK.out _ (bel2M HBC.out hbm)) (fun _ => ?_)
      (try simp only [Act.put, sA, sB, sC])
      refine wpAnyH_norm (fuel' := 12) (listed' := #[true, true, true, true, true, true, true, true, true, true, true, true, true, true, true, true, true, false, true, true, true, true, false, true, true, true, true, false, false, true, true, true, true, false, true, true, true, false, true, true, true, true, false, true, true, true, true, false, true, true, true, true, false, false, false, false]) (by kernel_rfl) (by kernel_rfl) ?_
      have hst := st_2_7_12 A0 c0 A1 c1 A2 c2 _ (Lib.hid (bel2M HBC.out hbm)) (Lib.hid (F0.out.below hbm (Nat.le_refl _))) (Lib.hid (F1.out.below hbm (Nat.le_refl _))) F2
      rw [hG] at hst
      exact hst
    case j61 =>
      refine step_conv rfl _ 22 23 rfl _ Try.underlying22 Try.underlying23 Try.underlying5 m.d rfl HDL.out ?_
      intro CA CC w' hcs hbm
      have FC := Lib.hid hcs
      refine hK.out _ _ (by (try dsimp only); exact HK.out _ (bel2M HBC.out hbm)) (fun _ => ?_)
      (try simp only [Act.put, sA, sB, sC])
      refine wpAnyH_norm (fuel' := 12) (listed' := #[true, true, true, true, true, true, true, true, true, true, true, true, false, true, true, true, true, false, true, true, true, true, false, true, true, true, true, true, false, true, true, true, true, false, true, true, true, false, true, true, true, true, false, true, true, true, true, false, true, true, true, true, false, false, false, false]) (by kernel_rfl) (by kernel_rfl) ?_
      have hst := st_2_7_27 A0 c0 A1 c1 CA CC _ (Lib.hid (bel2M HBC.out hbm)) (Lib.hid (F0.out.below hbm (Nat.le_refl _))) (Lib.hid (F1.out.below hbm (Nat.le_refl _))) FC
      rw [hG] at hst
      exact hst
  have st_27 : ∀ (CA : Option Addr) (CC : Nat) (W : World) (HBC : Hid (Below w0.heap.size w0 W)) (FC : Hid (Bs W (.slice CA m.d.length CC) m.d)), G 14 #[true, true, false, true, true, true, true, false, true, true, true, true, false, true, true, true, true, false, true, true, true, true, false, true, true, true, true, true, false, true, true, true, true, false, true, true, true, false, true, true, true, true, false, true, true, true, true, false, true, true, true, true, false, false, false, false] ⟨#[agM m P, .pointer (some ⟨w.heap.size, 0, none⟩), .slice none 0 0, .pointer (some ⟨bs, 0, none⟩), .bool y, .tuple #[.agg (shC s), .bool y], .pointer (some ⟨w.heap.size, 0, none⟩), .int .i64 m.k, .tuple #[.agg (shC s), .bool y], .agg (shC s), .bool y, .pointer (some ⟨w.heap.size, 0, none⟩), .int .i64 m.k, undef, .pointer (some ⟨bs, 0, none⟩), .agg #[.int .i64 s.v.1, .int .i64 s.v.2], .pointer (some ⟨w.heap.size, 1, none⟩), .int .i64 m.v, undef, .pointer (some ⟨bs, 2, none⟩), .agg #[.int .i64 s.s.1, .int .i64 s.s.2], .pointer (some ⟨w.heap.size, 2, none⟩), .int .i64 m.s, undef, .pointer (some ⟨bs, 4, none⟩), .agg #[.int .i64 s.c.1, .int .i64 s.c.2], .pointer (some ⟨w.heap.size, 3, none⟩), .int .i64 m.c, undef, .pointer (some ⟨bs, 6, none⟩), .agg #[.int .i64 s.t.1, .int .i64 s.t.2], .pointer (some ⟨w.heap.size, 4, none⟩), .int .i64 m.t, undef, .pointer (some ⟨bs, 8, none⟩), .agg #[.int .i64 s.d.1, .int .i64 s.d.2], .pointer (some ⟨w.heap.size, 5, none⟩), .string (strB m.d), .slice CA m.d.length CC, undef, .pointer (some ⟨bs, 10, none⟩), .agg #[.int .i64 s.x.1, .int .i64 s.x.2], .pointer (some ⟨w.heap.size, 6, none⟩), .slice P.x.1 m.x.length P.x.2, undef, .agg (shC s), .pointer (some ⟨w.heap.size, 7, none⟩), .agg #[.int .i64 m.r.1, .int .i64 m.r.2], undef, .pointer (some ⟨w.heap.size, 9, none⟩), .slice P.b.1 m.b.length P.b.2, .pointer (some ⟨bs, 13, none⟩), .agg #[.int .i64 s.b.1, .int .i64 s.b.2], undef, .pointer (some ⟨w.heap.size, 10, none⟩), .slice P.p.1 m.p.length P.p.2, .pointer (some ⟨bs, 15, none⟩), .agg #[.int .i64 s.p.1, .int .i64 s.p.2], undef, .pointer (some ⟨w.heap.size, 11, none⟩), .slice P.q.1 m.q.length P.q.2, .pointer (some ⟨bs, 17, none⟩), .agg #[.int .i64 s.q.1, .int .i64 s.q.2], undef, undef, undef], []⟩ W := by
    intro CA CC W HBC FC
    rw [hG]
    have hHeld : ((fun W => W.heap[w.heap.size]? = some (.cells (msC m P) 30 (0, 0)) ∧ W.heap[bs]? = some (.cells (shC s) 51 (0, 0)))) W := HK.out _ HBC.out
    refine wpAnyH_ready (rs := [2]) (by kernel_rfl) (by simp) ?_
    refine AllReadyH.cons (o := ?o62) ?g62 (fun K hK => ?j62) AllReadyH.nil
    case g62 => (simp only [gA, gB, gC]; rfl)
    case j62 =>
      go_simp
      (go_at_call 33; refine (HP0.out _).mono ?_)
      rintro e wa ⟨va, rfl, hoa, hbm⟩
      obtain ⟨A0, c0, rfl, -⟩ := (own_bs hoa).open
      have F0 := Lib.hid (own_bs hoa)
      refine hK.out _ _ (by (try dsimp only); exact HK.out _ (bel2M HBC.out hbm)) (fun _ => ?_)
      (try simp only [Act.put, sA, sB, sC])
      refine wpAnyH_norm (fuel' := 13) (listed' := #[true, true, true, true, true, true, true, false, true, true, true, true, false, true, true, true, true, false, true, true, true, true, false, true, true, true, true, true, false, true, true, true, true, false, true, true, true, false, true, true, true, true, false, true, true, true, true, false, true, true, true, true, false, false, false, false]) (by kernel_rfl) (by kernel_rfl) ?_
      have hst := st_2_27 A0 c0 CA CC _ (Lib.hid (bel2M HBC.out hbm)) F0 (Lib.hid (FC.out.below hbm (Nat.le_refl _)))
      rw [hG] at hst
      exact hst
  have st_2 : ∀ (A0 : Option Addr) (c0 : Nat) (W : World) (HBC : Hid (Below w0.heap.size w0 W)) (F0 : Hid (Bs W (.slice A0 l0.length c0) l0)), G 14 #[true, true, true, true, true, true, true, false, true, true, true, true, false, true, true, true, true, false, true, true, true, true, false, true, true, true, true, false, false, true, true, true, true, false, true, true, true, false, true, true, true, true, false, true, true, true, true, false, true, true, true, true, false, false, false, false] ⟨#[agM m P, .pointer (some ⟨w.heap.size, 0, none⟩), .slice none 0 0, .pointer (some ⟨bs, 0, none⟩), .bool y, .tuple #[.agg (shC s), .bool y], .pointer (some ⟨w.heap.size, 0, none⟩), .int .i64 m.k, .tuple #[.agg (shC s), .bool y], .agg (shC s), .bool y, .pointer (some ⟨w.heap.size, 0, none⟩), .int .i64 m.k, .slice A0 l0.length c0, .pointer (some ⟨bs, 0, none⟩), .agg #[.int .i64 s.v.1, .int .i64 s.v.2], .pointer (some ⟨w.heap.size, 1, none⟩), .int .i64 m.v, undef, .pointer (some ⟨bs, 2, none⟩), .agg #[.int .i64 s.s.1, .int .i64 s.s.2], .pointer (some ⟨w.heap.size, 2, none⟩), .int .i64 m.s, undef, .pointer (some ⟨bs, 4, none⟩), .agg #[.int .i64 s.c.1, .int .i64 s.c.2], .pointer (some ⟨w.heap.size, 3, none⟩), .int .i64 m.c, undef, .pointer (some ⟨bs, 6, none⟩), .agg #[.int .i64 s.t.1, .int .i64 s.t.2], .pointer (some ⟨w.heap.size, 4, none⟩), .int .i64 m.t, undef, .pointer (some ⟨bs, 8, none⟩), .agg #[.int .i64 s.d.1, .int .i64 s.d.2], .pointer (some ⟨w.heap.size, 5, none⟩), .string (strB m.d), undef, undef, .pointer (some ⟨bs, 10, none⟩), .agg #[.int .i64 s.x.1, .int .i64 s.x.2], .pointer (some ⟨w.heap.size, 6, none⟩), .slice P.x.1 m.x.length P.x.2, undef, .agg (shC s), .pointer (some ⟨w.heap.size, 7, none⟩), .agg #[.int .i64 m.r.1, .int .i64 m.r.2], undef, .pointer (some ⟨w.heap.size, 9, none⟩), .slice P.b.1 m.b.length P.b.2, .pointer (some ⟨bs, 13, none⟩), .agg #[.int .i64 s.b.1, .int .i64 s.b.2], undef, .pointer (some ⟨w.heap.size, 10, none⟩), .slice P.p.1 m.p.length P.p.2, .pointer (some ⟨bs, 15, none⟩), .agg #[.int .i64 s.p.1, .int .i64 s.p.2], undef, .pointer (some ⟨w.heap.size, 11, none⟩), .slice P.q.1 m.q.length P.q.2, .pointer (some ⟨bs, 17, none⟩), .agg #[.int .i64 s.q.1, .int .i64 s.q.2], undef, undef, undef], []⟩ W := by
    intro A0 c0 W HBC F0
    rw [hG]
    have hHeld : ((fun W => W.heap[w.heap.size]? = some (.cells (msC m P) 30 (0, 0)) ∧ W.heap[bs]? = some (.cells (shC s) 51 (0, 0)))) W := HK.out _ HBC.out
    refine wpAnyH_ready (rs := [7, 27]) (by kernel_rfl) (by simp) ?_
    refine AllReadyH.cons (o := ?o63) ?g63 (fun K hK => ?j63) (AllReadyH.cons (o := ?o64) ?g64 (fun K hK => ?j64) AllReadyH.nil)
    case g63 => (simp only [gA, gB, gC]; rfl)
    case g64 => (simp only [gA, gB, gC]; rfl)
    case j63 =>
      go_simp
      (go_at_call 34; refine (HP1.out _).mono ?_)
      rintro e wa ⟨va, rfl, hoa, hbm⟩
      obtain ⟨A1, c1, rfl, -⟩ := (own_bs hoa).open
      have F1 := Lib.hid (own_bs hoa)
      refine hK.out _ _ (by (try dsimp only); exact HK.out _ (bel2M HBC.out hbm)) (fun _ => ?_)
      (try simp only [Act.put, sA, sB, sC])
      refine wpAnyH_norm (fuel' := 13) (listed' := #[true, true, true, true, true, true, true, true, true, true, true, true, false, true, true, true, true, false, true, true, true, true, false, true, true, true, true, false, false, true, true, true, true, false, true, true, true, false, true, true, true, true, false, true, true, true, true, false, true, true, true, true, false, false, false, false]) (by kernel_rfl) (by kernel_rfl) ?_
      have hst := st_2_7 A0 c0 A1 c1 _ (Lib.hid (bel2M HBC.out hbm)) (Lib.hid (F0.out.below hbm (Nat.le_refl _))) F1
      rw [hG] at hst
      exact hst
    case j64 =>
      refine step_conv rfl _ 22 23 rfl _ Try.underlying22 Try.underlying23 Try.underlying5 m.d rfl HDL.out ?_
      intro CA CC w' hcs hbm
      have FC := Lib.hid hcs
      refine hK.out _ _ (by (try dsimp only); exact HK.out _ (bel2M HBC.out hbm)) (fun _ => ?_)
      (try simp only [Act.put, sA, sB, sC])
      refine wpAnyH_norm (fuel' := 13) (listed' := #[true, true, true, true, true, true, true, false, true, true, true, true, false, true, true, true, true, false, true, true, true, true, false, true, true, true, true, true, false, true, true, true, true, false, true, true, true, false, true, true, true, true, false, true, true, true, true, false, true, true, true, true, false, false, false, false]) (by kernel_rfl) (by kernel_rfl) ?_
      have hst := st_2_27 A0 c0 CA CC _ (Lib.hid (bel2M HBC.out hbm)) (Lib.hid (F0.out.below hbm (Nat.le_refl _))) FC
      rw [hG] at hst
      exact hst
  have st : ∀  (W : World) (HBC : Hid (Below w0.heap.size w0 W)) , G 15 #[true, true, false, true, true, true, true, false, true, true, true, true, false, true, true, true, true, false, true, true, true, true, false, true, true, true, true, false, false, true, true, true, true, false, true, true, true, false, true, true, true, true, false, true, true, true, true, false, true, true, true, true, false, false, false, false] ⟨#[agM m P, .pointer (some ⟨w.heap.size, 0, none⟩), .slice none 0 0, .pointer (some ⟨bs, 0, none⟩), .bool y, .tuple #[.agg (shC s), .bool y], .pointer (some ⟨w.heap.size, 0, none⟩), .int .i64 m.k, .tuple #[.agg (shC s), .bool y], .agg (shC s), .bool y, .pointer (some ⟨w.heap.size, 0, none⟩), .int .i64 m.k, undef, .pointer (some ⟨bs, 0, none⟩), .agg #[.int .i64 s.v.1, .int .i64 s.v.2], .pointer (some ⟨w.heap.size, 1, none⟩), .int .i64 m.v, undef, .pointer (some ⟨bs, 2, none⟩), .agg #[.int .i64 s.s.1, .int .i64 s.s.2], .pointer (some ⟨w.heap.size, 2, none⟩), .int .i64 m.s, undef, .pointer (some ⟨bs, 4, none⟩), .agg #[.int .i64 s.c.1, .int .i64 s.c.2], .pointer (some ⟨w.heap.size, 3, none⟩), .int .i64 m.c, undef, .pointer (some ⟨bs, 6, none⟩), .agg #[.int .i64 s.t.1, .int .i64 s.t.2], .pointer (some ⟨w.heap.size, 4, none⟩), .int .i64 m.t, undef, .pointer (some ⟨bs, 8, none⟩), .agg #[.int .i64 s.d.1, .int .i64 s.d.2], .pointer (some ⟨w.heap.size, 5, none⟩), .string (strB m.d), undef, undef, .pointer (some ⟨bs, 10, none⟩), .agg #[.int .i64 s.x.1, .int .i64 s.x.2], .pointer (some ⟨w.heap.size, 6, none⟩), .slice P.x.1 m.x.length P.x.2, undef, .agg (shC s), .pointer (some ⟨w.heap.size, 7, none⟩), .agg #[.int .i64 m.r.1, .int .i64 m.r.2], undef, .pointer (some ⟨w.heap.size, 9, none⟩), .slice P.b.1 m.b.length P.b.2, .pointer (some ⟨bs, 13, none⟩), .agg #[.int .i64 s.b.1, .int .i64 s.b.2], undef, .pointer (some ⟨w.heap.size, 10, none⟩), .slice P.p.1 m.p.length P.p.2, .pointer (some ⟨bs, 15, none⟩), .agg #[.int .i64 s.p.1, .int .i64 s.p.2], undef, .pointer (some ⟨w.heap.size, 11, none⟩), .slice P.q.1 m.q.length P.q.2, .pointer (some ⟨bs, 17, none⟩), .agg #[.int .i64 s.q.1, .int .i64 s.q.2], undef, undef, undef], []⟩ W := by
    intro  W HBC 
    rw [hG]
    have hHeld : ((fun W => W.heap[w.heap.size]? = some (.cells (msC m P) 30 (0, 0)) ∧ W.heap[bs]? = some (.cells (shC s) 51 (0, 0)))) W := HK.out _ HBC.out
    refine wpAnyH_ready (rs := [2, 27]) (by kernel_rfl) (by simp) ?_
    refine AllReadyH.cons (o := ?o65) ?g65 (fun K hK => ?j65) (AllReadyH.cons (o := ?o66) ?g66 (fun K hK => ?j66) AllReadyH.nil)
    case g65 => (simp only [gA, gB, gC]; rfl)
    case g66 => (simp only [gA, gB, gC]; rfl)
    case j65 =>
      go_simp
      (go_at_call 33; refine (HP0.out _).mono ?_)
      rintro e wa ⟨va, rfl, hoa, hbm⟩
      obtain ⟨A0, c0, rfl, -⟩ := (own_bs hoa).open
      have F0 := Lib.hid (own_bs hoa)
      refine hK.out _ _ (by (try dsimp only); exact HK.out _ (bel2M HBC.out hbm)) (fun _ => ?_)
      (try simp only [Act.put, sA, sB, sC])
      refine wpAnyH_norm (fuel' := 14) (listed' := #[true, true, true, true, true, true, true, false, true, true, true, true, false, true, true, true, true, false, true, true, true, true, false, true, true, true, true, false, false, true, true, true, true, false, true, true, true, false, true, true, true, true, false, true, true, true, true, false, true, true, true, true, false, false, false, false]) (by kernel_rfl) (by kernel_rfl) ?_
      have hst := st_2 A0 c0 _ (Lib.hid (bel2M HBC.out hbm)) F0
      rw [hG] at hst
      exact hst
    case j66 =>
      refine step_conv rfl _ 22 23 rfl _ Try.underlying22 Try.underlying23 Try.underlying5 m.d rfl HDL.out ?_
      intro CA CC w' hcs hbm
      have FC := Lib.hid hcs
      refine hK.out _ _ (by (try dsimp only); exact HK.out _ (bel2M HBC.out hbm)) (fun _ => ?_)
      (try simp only [Act.put, sA, sB, sC])
      refine wpAnyH_norm (fuel' := 14) (listed' := #[true, true, false, true, true, true, true, false, true, true, true, true, false, true, true, true, true, false, true, true, true, true, false, true, true, true, true, true, false, true, true, true, true, false, true, true, true, false, true, true, true, true, false, true, true, true, true, false, true, true, true, true, false, false, false, false]) (by kernel_rfl) (by kernel_rfl) ?_
      have hst := st_27 CA CC _ (Lib.hid (bel2M HBC.out hbm)) FC
      rw [hG] at hst
      exact hst
  exact st _ (Lib.hid (HBC.out))

end Go.Proofs.Ytjekpchcbbiohaa
