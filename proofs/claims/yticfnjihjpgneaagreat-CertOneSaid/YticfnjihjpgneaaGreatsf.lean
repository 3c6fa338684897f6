/- sf: GFit GChk2 GExec GPutM (made by shake.py). -/
import Derived.BigGuard
import Derived.Test.YticfnjihjpgneaaGreatse
namespace Go.Proofs.YticfnjihjpgneaaGreat
open Go.RowKit
set_option linter.unusedVariables false
set_option linter.unusedSimpArgs false
set_option maxRecDepth 20000

/- fits (gengchk.py) -/
set_option maxHeartbeats 2000000 in
theorem fits_0 (s : Shp) (m : Msg) (P : Plc) (w : World) (h : MsgK w m P) (h0 : allowB s.v m.v = false) : Calls Tryz.prog 186 #[.agg (shC s), agM m P] w (Ans (.bool false) w) := by
  obtain ⟨x1, x2, x3⟩ := box2B w (shC s) (msC m P) 236 46
  have C0 := Lib.hid (fun W => show Calls Tryz.prog 208 #[.agg #[.int .i64 s.v.1, .int .i64 s.v.2], .int .i64 m.v] W (Ans (.bool false) W) from by have := gAllow_any s.v m.v W; rw [h0] at this; exact this)
  have HS := Lib.hid x1
  have HM := Lib.hid x2
  have HB := Lib.hid x3
  have hxl := strB_size m.d
  clear x1 x2 x3 h
  go_enter Tryz.func186, Tryz.ntmps186
  go_wp2_with (first
      | (go_at_call_of 208 ([Value.int .i64 m.v]); refine (C0.out _).mono ?_; rintro e w' ⟨rfl, hb⟩; have HB := Lib.hid (bel2M HB.out hb); rename (∀ (a : Act) (w_1 : World), Code.wp _ _ _ a w_1 → _) => hK1; rename (∀ (a : Act) (w_1 : World), wpList _ _ _ _ a w_1 → _) => hK; refine hK _ _ (sim_end 4 (.bool false) (by kernel_rfl) fun b hb1 hb2 => hK1 _ _ ?_); go_wp2_with fail; refine bodyPost_ret (v := .bool false) ?_ hb2 ⟨rfl, HB.out⟩; rw [results_tmp (t := 4) rfl, hb1]))
set_option maxHeartbeats 2000000 in
theorem fits_1 (s : Shp) (m : Msg) (P : Plc) (w : World) (h : MsgK w m P) (h0 : allowB s.v m.v = true) (h1 : allowB s.s m.s = false) : Calls Tryz.prog 186 #[.agg (shC s), agM m P] w (Ans (.bool false) w) := by
  obtain ⟨x1, x2, x3⟩ := box2B w (shC s) (msC m P) 236 46
  have C0 := Lib.hid (fun W => show Calls Tryz.prog 208 #[.agg #[.int .i64 s.v.1, .int .i64 s.v.2], .int .i64 m.v] W (Ans (.bool true) W) from by have := gAllow_any s.v m.v W; rw [h0] at this; exact this)
  have C1 := Lib.hid (fun W => show Calls Tryz.prog 208 #[.agg #[.int .i64 s.s.1, .int .i64 s.s.2], .int .i64 m.s] W (Ans (.bool false) W) from by have := gAllow_any s.s m.s W; rw [h1] at this; exact this)
  have HS := Lib.hid x1
  have HM := Lib.hid x2
  have HB := Lib.hid x3
  have hxl := strB_size m.d
  clear x1 x2 x3 h
  go_enter Tryz.func186, Tryz.ntmps186
  go_wp2_with (first
      | (go_at_call_of 208 ([Value.int .i64 m.v]); refine (C0.out _).mono ?_; rintro e w' ⟨rfl, hb⟩; have HS := Lib.hid (heapB HS.out hb); have HM := Lib.hid (heapB HM.out hb); have HB := Lib.hid (bel2M HB.out hb); clear hb; have y2 := rowCell HS.out 2 (.int .i64 s.s.1) rfl; have y3 := rowCell HS.out 3 (.int .i64 s.s.2) rfl; have m2 := rowCell HM.out 2 (.int .i64 m.s) rfl)
      | (go_at_call_of 208 ([Value.int .i64 m.s]); refine (C1.out _).mono ?_; rintro e w' ⟨rfl, hb⟩; have HB := Lib.hid (bel2M HB.out hb); rename (∀ (a : Act) (w_1 : World), Code.wp _ _ _ a w_1 → _) => hK1; rename (∀ (a : Act) (w_1 : World), wpList _ _ _ _ a w_1 → _) => hK; refine hK _ _ (sim_end 4 (.bool false) (by kernel_rfl) fun b hb1 hb2 => hK1 _ _ ?_); go_wp2_with fail; refine bodyPost_ret (v := .bool false) ?_ hb2 ⟨rfl, HB.out⟩; rw [results_tmp (t := 4) rfl, hb1]))
set_option maxHeartbeats 2000000 in
theorem fits_2 (s : Shp) (m : Msg) (P : Plc) (w : World) (h : MsgK w m P) (h0 : allowB s.v m.v = true) (h1 : allowB s.s m.s = true) (h2 : allowB s.c m.c = false) : Calls Tryz.prog 186 #[.agg (shC s), agM m P] w (Ans (.bool false) w) := by
  obtain ⟨x1, x2, x3⟩ := box2B w (shC s) (msC m P) 236 46
  have C0 := Lib.hid (fun W => show Calls Tryz.prog 208 #[.agg #[.int .i64 s.v.1, .int .i64 s.v.2], .int .i64 m.v] W (Ans (.bool true) W) from by have := gAllow_any s.v m.v W; rw [h0] at this; exact this)
  have C1 := Lib.hid (fun W => show Calls Tryz.prog 208 #[.agg #[.int .i64 s.s.1, .int .i64 s.s.2], .int .i64 m.s] W (Ans (.bool true) W) from by have := gAllow_any s.s m.s W; rw [h1] at this; exact this)
  have C2 := Lib.hid (fun W => show Calls Tryz.prog 208 #[.agg #[.int .i64 s.c.1, .int .i64 s.c.2], .int .i64 m.c] W (Ans (.bool false) W) from by have := gAllow_any s.c m.c W; rw [h2] at this; exact this)
  have HS := Lib.hid x1
  have HM := Lib.hid x2
  have HB := Lib.hid x3
  have hxl := strB_size m.d
  clear x1 x2 x3 h
  go_enter Tryz.func186, Tryz.ntmps186
  go_wp2_with (first
      | (go_at_call_of 208 ([Value.int .i64 m.v]); refine (C0.out _).mono ?_; rintro e w' ⟨rfl, hb⟩; have HS := Lib.hid (heapB HS.out hb); have HM := Lib.hid (heapB HM.out hb); have HB := Lib.hid (bel2M HB.out hb); clear hb; have y2 := rowCell HS.out 2 (.int .i64 s.s.1) rfl; have y3 := rowCell HS.out 3 (.int .i64 s.s.2) rfl; have m2 := rowCell HM.out 2 (.int .i64 m.s) rfl)
      | (go_at_call_of 208 ([Value.int .i64 m.s]); refine (C1.out _).mono ?_; rintro e w' ⟨rfl, hb⟩; have HS := Lib.hid (heapB HS.out hb); have HM := Lib.hid (heapB HM.out hb); have HB := Lib.hid (bel2M HB.out hb); clear hb; have y4 := rowCell HS.out 4 (.int .i64 s.c.1) rfl; have y5 := rowCell HS.out 5 (.int .i64 s.c.2) rfl; have m3 := rowCell HM.out 3 (.int .i64 m.c) rfl)
      | (go_at_call_of 208 ([Value.int .i64 m.c]); refine (C2.out _).mono ?_; rintro e w' ⟨rfl, hb⟩; have HB := Lib.hid (bel2M HB.out hb); rename (∀ (a : Act) (w_1 : World), Code.wp _ _ _ a w_1 → _) => hK1; rename (∀ (a : Act) (w_1 : World), wpList _ _ _ _ a w_1 → _) => hK; refine hK _ _ (sim_end 4 (.bool false) (by kernel_rfl) fun b hb1 hb2 => hK1 _ _ ?_); go_wp2_with fail; refine bodyPost_ret (v := .bool false) ?_ hb2 ⟨rfl, HB.out⟩; rw [results_tmp (t := 4) rfl, hb1]))
set_option maxHeartbeats 2000000 in
theorem fits_3 (s : Shp) (m : Msg) (P : Plc) (w : World) (h : MsgK w m P) (h0 : allowB s.v m.v = true) (h1 : allowB s.s m.s = true) (h2 : allowB s.c m.c = true) (h3 : allowB s.t m.t = false) : Calls Tryz.prog 186 #[.agg (shC s), agM m P] w (Ans (.bool false) w) := by
  obtain ⟨x1, x2, x3⟩ := box2B w (shC s) (msC m P) 236 46
  have C0 := Lib.hid (fun W => show Calls Tryz.prog 208 #[.agg #[.int .i64 s.v.1, .int .i64 s.v.2], .int .i64 m.v] W (Ans (.bool true) W) from by have := gAllow_any s.v m.v W; rw [h0] at this; exact this)
  have C1 := Lib.hid (fun W => show Calls Tryz.prog 208 #[.agg #[.int .i64 s.s.1, .int .i64 s.s.2], .int .i64 m.s] W (Ans (.bool true) W) from by have := gAllow_any s.s m.s W; rw [h1] at this; exact this)
  have C2 := Lib.hid (fun W => show Calls Tryz.prog 208 #[.agg #[.int .i64 s.c.1, .int .i64 s.c.2], .int .i64 m.c] W (Ans (.bool true) W) from by have := gAllow_any s.c m.c W; rw [h2] at this; exact this)
  have C3 := Lib.hid (fun W => show Calls Tryz.prog 208 #[.agg #[.int .i64 s.t.1, .int .i64 s.t.2], .int .i64 m.t] W (Ans (.bool false) W) from by have := gAllow_any s.t m.t W; rw [h3] at this; exact this)
  have HS := Lib.hid x1
  have HM := Lib.hid x2
  have HB := Lib.hid x3
  have hxl := strB_size m.d
  clear x1 x2 x3 h
  go_enter Tryz.func186, Tryz.ntmps186
  go_wp2_with (first
      | (go_at_call_of 208 ([Value.int .i64 m.v]); refine (C0.out _).mono ?_; rintro e w' ⟨rfl, hb⟩; have HS := Lib.hid (heapB HS.out hb); have HM := Lib.hid (heapB HM.out hb); have HB := Lib.hid (bel2M HB.out hb); clear hb; have y2 := rowCell HS.out 2 (.int .i64 s.s.1) rfl; have y3 := rowCell HS.out 3 (.int .i64 s.s.2) rfl; have m2 := rowCell HM.out 2 (.int .i64 m.s) rfl)
      | (go_at_call_of 208 ([Value.int .i64 m.s]); refine (C1.out _).mono ?_; rintro e w' ⟨rfl, hb⟩; have HS := Lib.hid (heapB HS.out hb); have HM := Lib.hid (heapB HM.out hb); have HB := Lib.hid (bel2M HB.out hb); clear hb; have y4 := rowCell HS.out 4 (.int .i64 s.c.1) rfl; have y5 := rowCell HS.out 5 (.int .i64 s.c.2) rfl; have m3 := rowCell HM.out 3 (.int .i64 m.c) rfl)
      | (go_at_call_of 208 ([Value.int .i64 m.c]); refine (C2.out _).mono ?_; rintro e w' ⟨rfl, hb⟩; have HS := Lib.hid (heapB HS.out hb); have HM := Lib.hid (heapB HM.out hb); have HB := Lib.hid (bel2M HB.out hb); clear hb; have y6 := rowCell HS.out 6 (.int .i64 s.t.1) rfl; have y7 := rowCell HS.out 7 (.int .i64 s.t.2) rfl; have m4 := rowCell HM.out 4 (.int .i64 m.t) rfl)
      | (go_at_call_of 208 ([Value.int .i64 m.t]); refine (C3.out _).mono ?_; rintro e w' ⟨rfl, hb⟩; have HB := Lib.hid (bel2M HB.out hb); rename (∀ (a : Act) (w_1 : World), Code.wp _ _ _ a w_1 → _) => hK1; rename (∀ (a : Act) (w_1 : World), wpList _ _ _ _ a w_1 → _) => hK; refine hK _ _ (sim_end 4 (.bool false) (by kernel_rfl) fun b hb1 hb2 => hK1 _ _ ?_); go_wp2_with fail; refine bodyPost_ret (v := .bool false) ?_ hb2 ⟨rfl, HB.out⟩; rw [results_tmp (t := 4) rfl, hb1]))
set_option maxHeartbeats 2000000 in
theorem fits_4 (s : Shp) (m : Msg) (P : Plc) (w : World) (h : MsgK w m P) (h0 : allowB s.v m.v = true) (h1 : allowB s.s m.s = true) (h2 : allowB s.c m.c = true) (h3 : allowB s.t m.t = true) (h4 : allowB s.d (m.d.length : Nat) = false) : Calls Tryz.prog 186 #[.agg (shC s), agM m P] w (Ans (.bool false) w) := by
  obtain ⟨x1, x2, x3⟩ := box2B w (shC s) (msC m P) 236 46
  have C0 := Lib.hid (fun W => show Calls Tryz.prog 208 #[.agg #[.int .i64 s.v.1, .int .i64 s.v.2], .int .i64 m.v] W (Ans (.bool true) W) from by have := gAllow_any s.v m.v W; rw [h0] at this; exact this)
  have C1 := Lib.hid (fun W => show Calls Tryz.prog 208 #[.agg #[.int .i64 s.s.1, .int .i64 s.s.2], .int .i64 m.s] W (Ans (.bool true) W) from by have := gAllow_any s.s m.s W; rw [h1] at this; exact this)
  have C2 := Lib.hid (fun W => show Calls Tryz.prog 208 #[.agg #[.int .i64 s.c.1, .int .i64 s.c.2], .int .i64 m.c] W (Ans (.bool true) W) from by have := gAllow_any s.c m.c W; rw [h2] at this; exact this)
  have C3 := Lib.hid (fun W => show Calls Tryz.prog 208 #[.agg #[.int .i64 s.t.1, .int .i64 s.t.2], .int .i64 m.t] W (Ans (.bool true) W) from by have := gAllow_any s.t m.t W; rw [h3] at this; exact this)
  have C4 := Lib.hid (fun W => show Calls Tryz.prog 208 #[.agg #[.int .i64 s.d.1, .int .i64 s.d.2], .int .i64 (m.d.length : Nat)] W (Ans (.bool false) W) from by have := gAllow_any s.d (m.d.length : Nat) W; rw [h4] at this; exact this)
  have HS := Lib.hid x1
  have HM := Lib.hid x2
  have HB := Lib.hid x3
  have hxl := strB_size m.d
  clear x1 x2 x3 h
  go_enter Tryz.func186, Tryz.ntmps186
  go_wp2_with (first
      | (go_at_call_of 208 ([Value.int .i64 m.v]); refine (C0.out _).mono ?_; rintro e w' ⟨rfl, hb⟩; have HS := Lib.hid (heapB HS.out hb); have HM := Lib.hid (heapB HM.out hb); have HB := Lib.hid (bel2M HB.out hb); clear hb; have y2 := rowCell HS.out 2 (.int .i64 s.s.1) rfl; have y3 := rowCell HS.out 3 (.int .i64 s.s.2) rfl; have m2 := rowCell HM.out 2 (.int .i64 m.s) rfl)
      | (go_at_call_of 208 ([Value.int .i64 m.s]); refine (C1.out _).mono ?_; rintro e w' ⟨rfl, hb⟩; have HS := Lib.hid (heapB HS.out hb); have HM := Lib.hid (heapB HM.out hb); have HB := Lib.hid (bel2M HB.out hb); clear hb; have y4 := rowCell HS.out 4 (.int .i64 s.c.1) rfl; have y5 := rowCell HS.out 5 (.int .i64 s.c.2) rfl; have m3 := rowCell HM.out 3 (.int .i64 m.c) rfl)
      | (go_at_call_of 208 ([Value.int .i64 m.c]); refine (C2.out _).mono ?_; rintro e w' ⟨rfl, hb⟩; have HS := Lib.hid (heapB HS.out hb); have HM := Lib.hid (heapB HM.out hb); have HB := Lib.hid (bel2M HB.out hb); clear hb; have y6 := rowCell HS.out 6 (.int .i64 s.t.1) rfl; have y7 := rowCell HS.out 7 (.int .i64 s.t.2) rfl; have m4 := rowCell HM.out 4 (.int .i64 m.t) rfl)
      | (go_at_call_of 208 ([Value.int .i64 m.t]); refine (C3.out _).mono ?_; rintro e w' ⟨rfl, hb⟩; have HS := Lib.hid (heapB HS.out hb); have HM := Lib.hid (heapB HM.out hb); have HB := Lib.hid (bel2M HB.out hb); clear hb; have y8 := rowCell HS.out 8 (.int .i64 s.d.1) rfl; have y9 := rowCell HS.out 9 (.int .i64 s.d.2) rfl; have m5 := rowCell HM.out 5 (.string (strB m.d)) rfl)
      | (go_at_call_of 208 ([Value.int .i64 (m.d.length : Nat)]); refine (C4.out _).mono ?_; rintro e w' ⟨rfl, hb⟩; have HB := Lib.hid (bel2M HB.out hb); rename (∀ (a : Act) (w_1 : World), Code.wp _ _ _ a w_1 → _) => hK1; rename (∀ (a : Act) (w_1 : World), wpList _ _ _ _ a w_1 → _) => hK; refine hK _ _ (sim_end 4 (.bool false) (by kernel_rfl) fun b hb1 hb2 => hK1 _ _ ?_); go_wp2_with fail; refine bodyPost_ret (v := .bool false) ?_ hb2 ⟨rfl, HB.out⟩; rw [results_tmp (t := 4) rfl, hb1]))
set_option maxHeartbeats 2000000 in
theorem fits_5 (s : Shp) (m : Msg) (P : Plc) (w : World) (h : MsgK w m P) (h0 : allowB s.v m.v = true) (h1 : allowB s.s m.s = true) (h2 : allowB s.c m.c = true) (h3 : allowB s.t m.t = true) (h4 : allowB s.d (m.d.length : Nat) = true) (h5 : allowB s.x (m.x.length : Nat) = false) : Calls Tryz.prog 186 #[.agg (shC s), agM m P] w (Ans (.bool false) w) := by
  obtain ⟨x1, x2, x3⟩ := box2B w (shC s) (msC m P) 236 46
  have C0 := Lib.hid (fun W => show Calls Tryz.prog 208 #[.agg #[.int .i64 s.v.1, .int .i64 s.v.2], .int .i64 m.v] W (Ans (.bool true) W) from by have := gAllow_any s.v m.v W; rw [h0] at this; exact this)
  have C1 := Lib.hid (fun W => show Calls Tryz.prog 208 #[.agg #[.int .i64 s.s.1, .int .i64 s.s.2], .int .i64 m.s] W (Ans (.bool true) W) from by have := gAllow_any s.s m.s W; rw [h1] at this; exact this)
  have C2 := Lib.hid (fun W => show Calls Tryz.prog 208 #[.agg #[.int .i64 s.c.1, .int .i64 s.c.2], .int .i64 m.c] W (Ans (.bool true) W) from by have := gAllow_any s.c m.c W; rw [h2] at this; exact this)
  have C3 := Lib.hid (fun W => show Calls Tryz.prog 208 #[.agg #[.int .i64 s.t.1, .int .i64 s.t.2], .int .i64 m.t] W (Ans (.bool true) W) from by have := gAllow_any s.t m.t W; rw [h3] at this; exact this)
  have C4 := Lib.hid (fun W => show Calls Tryz.prog 208 #[.agg #[.int .i64 s.d.1, .int .i64 s.d.2], .int .i64 (m.d.length : Nat)] W (Ans (.bool true) W) from by have := gAllow_any s.d (m.d.length : Nat) W; rw [h4] at this; exact this)
  have C5 := Lib.hid (fun W => show Calls Tryz.prog 208 #[.agg #[.int .i64 s.x.1, .int .i64 s.x.2], .int .i64 (m.x.length : Nat)] W (Ans (.bool false) W) from by have := gAllow_any s.x (m.x.length : Nat) W; rw [h5] at this; exact this)
  have HS := Lib.hid x1
  have HM := Lib.hid x2
  have HB := Lib.hid x3
  have hxl := strB_size m.d
  clear x1 x2 x3 h
  go_enter Tryz.func186, Tryz.ntmps186
  go_wp2_with (first
      | (go_at_call_of 208 ([Value.int .i64 m.v]); refine (C0.out _).mono ?_; rintro e w' ⟨rfl, hb⟩; have HS := Lib.hid (heapB HS.out hb); have HM := Lib.hid (heapB HM.out hb); have HB := Lib.hid (bel2M HB.out hb); clear hb; have y2 := rowCell HS.out 2 (.int .i64 s.s.1) rfl; have y3 := rowCell HS.out 3 (.int .i64 s.s.2) rfl; have m2 := rowCell HM.out 2 (.int .i64 m.s) rfl)
      | (go_at_call_of 208 ([Value.int .i64 m.s]); refine (C1.out _).mono ?_; rintro e w' ⟨rfl, hb⟩; have HS := Lib.hid (heapB HS.out hb); have HM := Lib.hid (heapB HM.out hb); have HB := Lib.hid (bel2M HB.out hb); clear hb; have y4 := rowCell HS.out 4 (.int .i64 s.c.1) rfl; have y5 := rowCell HS.out 5 (.int .i64 s.c.2) rfl; have m3 := rowCell HM.out 3 (.int .i64 m.c) rfl)
      | (go_at_call_of 208 ([Value.int .i64 m.c]); refine (C2.out _).mono ?_; rintro e w' ⟨rfl, hb⟩; have HS := Lib.hid (heapB HS.out hb); have HM := Lib.hid (heapB HM.out hb); have HB := Lib.hid (bel2M HB.out hb); clear hb; have y6 := rowCell HS.out 6 (.int .i64 s.t.1) rfl; have y7 := rowCell HS.out 7 (.int .i64 s.t.2) rfl; have m4 := rowCell HM.out 4 (.int .i64 m.t) rfl)
      | (go_at_call_of 208 ([Value.int .i64 m.t]); refine (C3.out _).mono ?_; rintro e w' ⟨rfl, hb⟩; have HS := Lib.hid (heapB HS.out hb); have HM := Lib.hid (heapB HM.out hb); have HB := Lib.hid (bel2M HB.out hb); clear hb; have y8 := rowCell HS.out 8 (.int .i64 s.d.1) rfl; have y9 := rowCell HS.out 9 (.int .i64 s.d.2) rfl; have m5 := rowCell HM.out 5 (.string (strB m.d)) rfl)
      | (go_at_call_of 208 ([Value.int .i64 (m.d.length : Nat)]); refine (C4.out _).mono ?_; rintro e w' ⟨rfl, hb⟩; have HS := Lib.hid (heapB HS.out hb); have HM := Lib.hid (heapB HM.out hb); have HB := Lib.hid (bel2M HB.out hb); clear hb; have y10 := rowCell HS.out 10 (.int .i64 s.x.1) rfl; have y11 := rowCell HS.out 11 (.int .i64 s.x.2) rfl; have m6 := rowCell HM.out 6 (.slice P.x.1 m.x.length P.x.2) rfl)
      | (go_at_call_of 208 ([Value.int .i64 (m.x.length : Nat)]); refine (C5.out _).mono ?_; rintro e w' ⟨rfl, hb⟩; have HB := Lib.hid (bel2M HB.out hb); rename (∀ (a : Act) (w_1 : World), Code.wp _ _ _ a w_1 → _) => hK1; rename (∀ (a : Act) (w_1 : World), wpList _ _ _ _ a w_1 → _) => hK; refine hK _ _ (sim_end 4 (.bool false) (by kernel_rfl) fun b hb1 hb2 => hK1 _ _ ?_); go_wp2_with fail; refine bodyPost_ret (v := .bool false) ?_ hb2 ⟨rfl, HB.out⟩; rw [results_tmp (t := 4) rfl, hb1]))
set_option maxHeartbeats 2000000 in
theorem fits_6 (s : Shp) (m : Msg) (P : Plc) (w : World) (h : MsgK w m P) (h0 : allowB s.v m.v = true) (h1 : allowB s.s m.s = true) (h2 : allowB s.c m.c = true) (h3 : allowB s.t m.t = true) (h4 : allowB s.d (m.d.length : Nat) = true) (h5 : allowB s.x (m.x.length : Nat) = true) (h6 : noRes s m.r = false) : Calls Tryz.prog 186 #[.agg (shC s), agM m P] w (Ans (.bool false) w) := by
  obtain ⟨x1, x2, x3⟩ := box2B w (shC s) (msC m P) 236 46
  have C0 := Lib.hid (fun W => show Calls Tryz.prog 208 #[.agg #[.int .i64 s.v.1, .int .i64 s.v.2], .int .i64 m.v] W (Ans (.bool true) W) from by have := gAllow_any s.v m.v W; rw [h0] at this; exact this)
  have C1 := Lib.hid (fun W => show Calls Tryz.prog 208 #[.agg #[.int .i64 s.s.1, .int .i64 s.s.2], .int .i64 m.s] W (Ans (.bool true) W) from by have := gAllow_any s.s m.s W; rw [h1] at this; exact this)
  have C2 := Lib.hid (fun W => show Calls Tryz.prog 208 #[.agg #[.int .i64 s.c.1, .int .i64 s.c.2], .int .i64 m.c] W (Ans (.bool true) W) from by have := gAllow_any s.c m.c W; rw [h2] at this; exact this)
  have C3 := Lib.hid (fun W => show Calls Tryz.prog 208 #[.agg #[.int .i64 s.t.1, .int .i64 s.t.2], .int .i64 m.t] W (Ans (.bool true) W) from by have := gAllow_any s.t m.t W; rw [h3] at this; exact this)
  have C4 := Lib.hid (fun W => show Calls Tryz.prog 208 #[.agg #[.int .i64 s.d.1, .int .i64 s.d.2], .int .i64 (m.d.length : Nat)] W (Ans (.bool true) W) from by have := gAllow_any s.d (m.d.length : Nat) W; rw [h4] at this; exact this)
  have C5 := Lib.hid (fun W => show Calls Tryz.prog 208 #[.agg #[.int .i64 s.x.1, .int .i64 s.x.2], .int .i64 (m.x.length : Nat)] W (Ans (.bool true) W) from by have := gAllow_any s.x (m.x.length : Nat) W; rw [h5] at this; exact this)
  have HS := Lib.hid x1
  have HM := Lib.hid x2
  have HB := Lib.hid x3
  have hxl := strB_size m.d
  clear x1 x2 x3 h
  unfold noRes at h6
  have hr : s.r = false ∧ (decide (m.r.1 = 0) && decide (m.r.2 = 0)) = false := by simpa using h6
  obtain ⟨hr, hr2⟩ := hr
  by_cases hz1 : m.r.1 = 0
  · have hz2 : ¬ m.r.2 = 0 := by intro h; simp [hz1, h] at hr2
    clear hr2 h6
    go_enter Tryz.func186, Tryz.ntmps186
    go_wp2_with (first
        | (go_at_call_of 208 ([Value.int .i64 m.v]); refine (C0.out _).mono ?_; rintro e w' ⟨rfl, hb⟩; have HS := Lib.hid (heapB HS.out hb); have HM := Lib.hid (heapB HM.out hb); have HB := Lib.hid (bel2M HB.out hb); clear hb; have y2 := rowCell HS.out 2 (.int .i64 s.s.1) rfl; have y3 := rowCell HS.out 3 (.int .i64 s.s.2) rfl; have m2 := rowCell HM.out 2 (.int .i64 m.s) rfl)
        | (go_at_call_of 208 ([Value.int .i64 m.s]); refine (C1.out _).mono ?_; rintro e w' ⟨rfl, hb⟩; have HS := Lib.hid (heapB HS.out hb); have HM := Lib.hid (heapB HM.out hb); have HB := Lib.hid (bel2M HB.out hb); clear hb; have y4 := rowCell HS.out 4 (.int .i64 s.c.1) rfl; have y5 := rowCell HS.out 5 (.int .i64 s.c.2) rfl; have m3 := rowCell HM.out 3 (.int .i64 m.c) rfl)
        | (go_at_call_of 208 ([Value.int .i64 m.c]); refine (C2.out _).mono ?_; rintro e w' ⟨rfl, hb⟩; have HS := Lib.hid (heapB HS.out hb); have HM := Lib.hid (heapB HM.out hb); have HB := Lib.hid (bel2M HB.out hb); clear hb; have y6 := rowCell HS.out 6 (.int .i64 s.t.1) rfl; have y7 := rowCell HS.out 7 (.int .i64 s.t.2) rfl; have m4 := rowCell HM.out 4 (.int .i64 m.t) rfl)
        | (go_at_call_of 208 ([Value.int .i64 m.t]); refine (C3.out _).mono ?_; rintro e w' ⟨rfl, hb⟩; have HS := Lib.hid (heapB HS.out hb); have HM := Lib.hid (heapB HM.out hb); have HB := Lib.hid (bel2M HB.out hb); clear hb; have y8 := rowCell HS.out 8 (.int .i64 s.d.1) rfl; have y9 := rowCell HS.out 9 (.int .i64 s.d.2) rfl; have m5 := rowCell HM.out 5 (.string (strB m.d)) rfl)
        | (go_at_call_of 208 ([Value.int .i64 (m.d.length : Nat)]); refine (C4.out _).mono ?_; rintro e w' ⟨rfl, hb⟩; have HS := Lib.hid (heapB HS.out hb); have HM := Lib.hid (heapB HM.out hb); have HB := Lib.hid (bel2M HB.out hb); clear hb; have y10 := rowCell HS.out 10 (.int .i64 s.x.1) rfl; have y11 := rowCell HS.out 11 (.int .i64 s.x.2) rfl; have m6 := rowCell HM.out 6 (.slice P.x.1 m.x.length P.x.2) rfl)
        | (go_at_call_of 208 ([Value.int .i64 (m.x.length : Nat)]); refine (C5.out _).mono ?_; rintro e w' ⟨rfl, hb⟩; have HS := Lib.hid (heapB HS.out hb); have HM := Lib.hid (heapB HM.out hb); have HB := Lib.hid (bel2M HB.out hb); clear hb; have y12 := rowCell HS.out 12 (.bool s.r) rfl; have y13 := rowCell HS.out 13 (.int .i64 s.b.1) rfl; have y14 := rowCell HS.out 14 (.int .i64 s.b.2) rfl; rw [hr] at y12; have m7 := rowCell HM.out 7 (.int .i64 m.r.1) rfl; have m8 := rowCell HM.out 8 (.int .i64 m.r.2) rfl; have m9 := rowCell HM.out 9 (.slice P.b.1 m.b.length P.b.2) rfl))
    go_ret
    exact ⟨rfl, HB.out⟩
  · clear hr2 h6
    go_enter Tryz.func186, Tryz.ntmps186
    go_wp2_with (first
        | (go_at_call_of 208 ([Value.int .i64 m.v]); refine (C0.out _).mono ?_; rintro e w' ⟨rfl, hb⟩; have HS := Lib.hid (heapB HS.out hb); have HM := Lib.hid (heapB HM.out hb); have HB := Lib.hid (bel2M HB.out hb); clear hb; have y2 := rowCell HS.out 2 (.int .i64 s.s.1) rfl; have y3 := rowCell HS.out 3 (.int .i64 s.s.2) rfl; have m2 := rowCell HM.out 2 (.int .i64 m.s) rfl)
        | (go_at_call_of 208 ([Value.int .i64 m.s]); refine (C1.out _).mono ?_; rintro e w' ⟨rfl, hb⟩; have HS := Lib.hid (heapB HS.out hb); have HM := Lib.hid (heapB HM.out hb); have HB := Lib.hid (bel2M HB.out hb); clear hb; have y4 := rowCell HS.out 4 (.int .i64 s.c.1) rfl; have y5 := rowCell HS.out 5 (.int .i64 s.c.2) rfl; have m3 := rowCell HM.out 3 (.int .i64 m.c) rfl)
        | (go_at_call_of 208 ([Value.int .i64 m.c]); refine (C2.out _).mono ?_; rintro e w' ⟨rfl, hb⟩; have HS := Lib.hid (heapB HS.out hb); have HM := Lib.hid (heapB HM.out hb); have HB := Lib.hid (bel2M HB.out hb); clear hb; have y6 := rowCell HS.out 6 (.int .i64 s.t.1) rfl; have y7 := rowCell HS.out 7 (.int .i64 s.t.2) rfl; have m4 := rowCell HM.out 4 (.int .i64 m.t) rfl)
        | (go_at_call_of 208 ([Value.int .i64 m.t]); refine (C3.out _).mono ?_; rintro e w' ⟨rfl, hb⟩; have HS := Lib.hid (heapB HS.out hb); have HM := Lib.hid (heapB HM.out hb); have HB := Lib.hid (bel2M HB.out hb); clear hb; have y8 := rowCell HS.out 8 (.int .i64 s.d.1) rfl; have y9 := rowCell HS.out 9 (.int .i64 s.d.2) rfl; have m5 := rowCell HM.out 5 (.string (strB m.d)) rfl)
        | (go_at_call_of 208 ([Value.int .i64 (m.d.length : Nat)]); refine (C4.out _).mono ?_; rintro e w' ⟨rfl, hb⟩; have HS := Lib.hid (heapB HS.out hb); have HM := Lib.hid (heapB HM.out hb); have HB := Lib.hid (bel2M HB.out hb); clear hb; have y10 := rowCell HS.out 10 (.int .i64 s.x.1) rfl; have y11 := rowCell HS.out 11 (.int .i64 s.x.2) rfl; have m6 := rowCell HM.out 6 (.slice P.x.1 m.x.length P.x.2) rfl)
        | (go_at_call_of 208 ([Value.int .i64 (m.x.length : Nat)]); refine (C5.out _).mono ?_; rintro e w' ⟨rfl, hb⟩; have HS := Lib.hid (heapB HS.out hb); have HM := Lib.hid (heapB HM.out hb); have HB := Lib.hid (bel2M HB.out hb); clear hb; have y12 := rowCell HS.out 12 (.bool s.r) rfl; have y13 := rowCell HS.out 13 (.int .i64 s.b.1) rfl; have y14 := rowCell HS.out 14 (.int .i64 s.b.2) rfl; rw [hr] at y12; have m7 := rowCell HM.out 7 (.int .i64 m.r.1) rfl; have m8 := rowCell HM.out 8 (.int .i64 m.r.2) rfl; have m9 := rowCell HM.out 9 (.slice P.b.1 m.b.length P.b.2) rfl))
    go_ret
    exact ⟨rfl, HB.out⟩
set_option maxHeartbeats 2000000 in
theorem fits_7 (s : Shp) (m : Msg) (P : Plc) (w : World) (h : MsgK w m P) (h0 : allowB s.v m.v = true) (h1 : allowB s.s m.s = true) (h2 : allowB s.c m.c = true) (h3 : allowB s.t m.t = true) (h4 : allowB s.d (m.d.length : Nat) = true) (h5 : allowB s.x (m.x.length : Nat) = true) (h6 : noRes s m.r = true) (h7 : eachE m.b s.b = false) : Calls Tryz.prog 186 #[.agg (shC s), agM m P] w (Ans (.bool false) w) := by
  obtain ⟨x1, x2, x3⟩ := box2B w (shC s) (msC m P) 236 46
  have C0 := Lib.hid (fun W => show Calls Tryz.prog 208 #[.agg #[.int .i64 s.v.1, .int .i64 s.v.2], .int .i64 m.v] W (Ans (.bool true) W) from by have := gAllow_any s.v m.v W; rw [h0] at this; exact this)
  have C1 := Lib.hid (fun W => show Calls Tryz.prog 208 #[.agg #[.int .i64 s.s.1, .int .i64 s.s.2], .int .i64 m.s] W (Ans (.bool true) W) from by have := gAllow_any s.s m.s W; rw [h1] at this; exact this)
  have C2 := Lib.hid (fun W => show Calls Tryz.prog 208 #[.agg #[.int .i64 s.c.1, .int .i64 s.c.2], .int .i64 m.c] W (Ans (.bool true) W) from by have := gAllow_any s.c m.c W; rw [h2] at this; exact this)
  have C3 := Lib.hid (fun W => show Calls Tryz.prog 208 #[.agg #[.int .i64 s.t.1, .int .i64 s.t.2], .int .i64 m.t] W (Ans (.bool true) W) from by have := gAllow_any s.t m.t W; rw [h3] at this; exact this)
  have C4 := Lib.hid (fun W => show Calls Tryz.prog 208 #[.agg #[.int .i64 s.d.1, .int .i64 s.d.2], .int .i64 (m.d.length : Nat)] W (Ans (.bool true) W) from by have := gAllow_any s.d (m.d.length : Nat) W; rw [h4] at this; exact this)
  have C5 := Lib.hid (fun W => show Calls Tryz.prog 208 #[.agg #[.int .i64 s.x.1, .int .i64 s.x.2], .int .i64 (m.x.length : Nat)] W (Ans (.bool true) W) from by have := gAllow_any s.x (m.x.length : Nat) W; rw [h5] at this; exact this)
  have C7 := Lib.hid (fun W (hb : Below w.heap.size w W) => show Calls Tryz.prog 209 #[.slice P.b.1 m.b.length P.b.2, .agg #[.int .i64 s.b.1, .int .i64 s.b.2], .func (Fn.func 210) #[] #[]] W (Ans (.bool false) W) from by have := eachE_any P.b.1 P.b.2 m.b s.b W (h.b.below hb); rw [h7] at this; exact this)
  have HS := Lib.hid x1
  have HM := Lib.hid x2
  have HB := Lib.hid x3
  have hxl := strB_size m.d
  clear x1 x2 x3 h
  unfold noRes at h6
  cases hr : s.r
  · have hz : m.r.1 = 0 ∧ m.r.2 = 0 := by simpa [hr] using h6
    obtain ⟨hz1, hz2⟩ := hz
    go_enter Tryz.func186, Tryz.ntmps186
    go_wp2_with (first
        | (go_at_call_of 208 ([Value.int .i64 m.v]); refine (C0.out _).mono ?_; rintro e w' ⟨rfl, hb⟩; have HS := Lib.hid (heapB HS.out hb); have HM := Lib.hid (heapB HM.out hb); have HB := Lib.hid (bel2M HB.out hb); clear hb; have y2 := rowCell HS.out 2 (.int .i64 s.s.1) rfl; have y3 := rowCell HS.out 3 (.int .i64 s.s.2) rfl; have m2 := rowCell HM.out 2 (.int .i64 m.s) rfl)
        | (go_at_call_of 208 ([Value.int .i64 m.s]); refine (C1.out _).mono ?_; rintro e w' ⟨rfl, hb⟩; have HS := Lib.hid (heapB HS.out hb); have HM := Lib.hid (heapB HM.out hb); have HB := Lib.hid (bel2M HB.out hb); clear hb; have y4 := rowCell HS.out 4 (.int .i64 s.c.1) rfl; have y5 := rowCell HS.out 5 (.int .i64 s.c.2) rfl; have m3 := rowCell HM.out 3 (.int .i64 m.c) rfl)
        | (go_at_call_of 208 ([Value.int .i64 m.c]); refine (C2.out _).mono ?_; rintro e w' ⟨rfl, hb⟩; have HS := Lib.hid (heapB HS.out hb); have HM := Lib.hid (heapB HM.out hb); have HB := Lib.hid (bel2M HB.out hb); clear hb; have y6 := rowCell HS.out 6 (.int .i64 s.t.1) rfl; have y7 := rowCell HS.out 7 (.int .i64 s.t.2) rfl; have m4 := rowCell HM.out 4 (.int .i64 m.t) rfl)
        | (go_at_call_of 208 ([Value.int .i64 m.t]); refine (C3.out _).mono ?_; rintro e w' ⟨rfl, hb⟩; have HS := Lib.hid (heapB HS.out hb); have HM := Lib.hid (heapB HM.out hb); have HB := Lib.hid (bel2M HB.out hb); clear hb; have y8 := rowCell HS.out 8 (.int .i64 s.d.1) rfl; have y9 := rowCell HS.out 9 (.int .i64 s.d.2) rfl; have m5 := rowCell HM.out 5 (.string (strB m.d)) rfl)
        | (go_at_call_of 208 ([Value.int .i64 (m.d.length : Nat)]); refine (C4.out _).mono ?_; rintro e w' ⟨rfl, hb⟩; have HS := Lib.hid (heapB HS.out hb); have HM := Lib.hid (heapB HM.out hb); have HB := Lib.hid (bel2M HB.out hb); clear hb; have y10 := rowCell HS.out 10 (.int .i64 s.x.1) rfl; have y11 := rowCell HS.out 11 (.int .i64 s.x.2) rfl; have m6 := rowCell HM.out 6 (.slice P.x.1 m.x.length P.x.2) rfl)
        | (go_at_call_of 208 ([Value.int .i64 (m.x.length : Nat)]); refine (C5.out _).mono ?_; rintro e w' ⟨rfl, hb⟩; have HS := Lib.hid (heapB HS.out hb); have HM := Lib.hid (heapB HM.out hb); have HB := Lib.hid (bel2M HB.out hb); clear hb; have y12 := rowCell HS.out 12 (.bool s.r) rfl; have y13 := rowCell HS.out 13 (.int .i64 s.b.1) rfl; have y14 := rowCell HS.out 14 (.int .i64 s.b.2) rfl; rw [hr] at y12; have m7 := rowCell HM.out 7 (.int .i64 m.r.1) rfl; have m8 := rowCell HM.out 8 (.int .i64 m.r.2) rfl; have m9 := rowCell HM.out 9 (.slice P.b.1 m.b.length P.b.2) rfl)
        | (go_at_call_of 209 (Value.slice P.b.1 m.b.length P.b.2); refine (C7.out _ HB.out).mono ?_; rintro e w' ⟨rfl, hb⟩; have HB := Lib.hid (bel2M HB.out hb); rename (∀ (a : Act) (w_1 : World), Code.wp _ _ _ a w_1 → _) => hK1; rename (∀ (a : Act) (w_1 : World), wpList _ _ _ _ a w_1 → _) => hK; refine hK _ _ (sim_end 4 (.bool false) (by kernel_rfl) fun b hb1 hb2 => hK1 _ _ ?_); go_wp2_with fail; refine bodyPost_ret (v := .bool false) ?_ hb2 ⟨rfl, HB.out⟩; rw [results_tmp (t := 4) rfl, hb1]))
  · skip
    go_enter Tryz.func186, Tryz.ntmps186
    go_wp2_with (first
        | (go_at_call_of 208 ([Value.int .i64 m.v]); refine (C0.out _).mono ?_; rintro e w' ⟨rfl, hb⟩; have HS := Lib.hid (heapB HS.out hb); have HM := Lib.hid (heapB HM.out hb); have HB := Lib.hid (bel2M HB.out hb); clear hb; have y2 := rowCell HS.out 2 (.int .i64 s.s.1) rfl; have y3 := rowCell HS.out 3 (.int .i64 s.s.2) rfl; have m2 := rowCell HM.out 2 (.int .i64 m.s) rfl)
        | (go_at_call_of 208 ([Value.int .i64 m.s]); refine (C1.out _).mono ?_; rintro e w' ⟨rfl, hb⟩; have HS := Lib.hid (heapB HS.out hb); have HM := Lib.hid (heapB HM.out hb); have HB := Lib.hid (bel2M HB.out hb); clear hb; have y4 := rowCell HS.out 4 (.int .i64 s.c.1) rfl; have y5 := rowCell HS.out 5 (.int .i64 s.c.2) rfl; have m3 := rowCell HM.out 3 (.int .i64 m.c) rfl)
        | (go_at_call_of 208 ([Value.int .i64 m.c]); refine (C2.out _).mono ?_; rintro e w' ⟨rfl, hb⟩; have HS := Lib.hid (heapB HS.out hb); have HM := Lib.hid (heapB HM.out hb); have HB := Lib.hid (bel2M HB.out hb); clear hb; have y6 := rowCell HS.out 6 (.int .i64 s.t.1) rfl; have y7 := rowCell HS.out 7 (.int .i64 s.t.2) rfl; have m4 := rowCell HM.out 4 (.int .i64 m.t) rfl)
        | (go_at_call_of 208 ([Value.int .i64 m.t]); refine (C3.out _).mono ?_; rintro e w' ⟨rfl, hb⟩; have HS := Lib.hid (heapB HS.out hb); have HM := Lib.hid (heapB HM.out hb); have HB := Lib.hid (bel2M HB.out hb); clear hb; have y8 := rowCell HS.out 8 (.int .i64 s.d.1) rfl; have y9 := rowCell HS.out 9 (.int .i64 s.d.2) rfl; have m5 := rowCell HM.out 5 (.string (strB m.d)) rfl)
        | (go_at_call_of 208 ([Value.int .i64 (m.d.length : Nat)]); refine (C4.out _).mono ?_; rintro e w' ⟨rfl, hb⟩; have HS := Lib.hid (heapB HS.out hb); have HM := Lib.hid (heapB HM.out hb); have HB := Lib.hid (bel2M HB.out hb); clear hb; have y10 := rowCell HS.out 10 (.int .i64 s.x.1) rfl; have y11 := rowCell HS.out 11 (.int .i64 s.x.2) rfl; have m6 := rowCell HM.out 6 (.slice P.x.1 m.x.length P.x.2) rfl)
        | (go_at_call_of 208 ([Value.int .i64 (m.x.length : Nat)]); refine (C5.out _).mono ?_; rintro e w' ⟨rfl, hb⟩; have HS := Lib.hid (heapB HS.out hb); have HM := Lib.hid (heapB HM.out hb); have HB := Lib.hid (bel2M HB.out hb); clear hb; have y12 := rowCell HS.out 12 (.bool s.r) rfl; have y13 := rowCell HS.out 13 (.int .i64 s.b.1) rfl; have y14 := rowCell HS.out 14 (.int .i64 s.b.2) rfl; rw [hr] at y12; have m7 := rowCell HM.out 7 (.int .i64 m.r.1) rfl; have m8 := rowCell HM.out 8 (.int .i64 m.r.2) rfl; have m9 := rowCell HM.out 9 (.slice P.b.1 m.b.length P.b.2) rfl)
        | (go_at_call_of 209 (Value.slice P.b.1 m.b.length P.b.2); refine (C7.out _ HB.out).mono ?_; rintro e w' ⟨rfl, hb⟩; have HB := Lib.hid (bel2M HB.out hb); rename (∀ (a : Act) (w_1 : World), Code.wp _ _ _ a w_1 → _) => hK1; rename (∀ (a : Act) (w_1 : World), wpList _ _ _ _ a w_1 → _) => hK; refine hK _ _ (sim_end 4 (.bool false) (by kernel_rfl) fun b hb1 hb2 => hK1 _ _ ?_); go_wp2_with fail; refine bodyPost_ret (v := .bool false) ?_ hb2 ⟨rfl, HB.out⟩; rw [results_tmp (t := 4) rfl, hb1]))
set_option maxHeartbeats 2000000 in
theorem fits_8 (s : Shp) (m : Msg) (P : Plc) (w : World) (h : MsgK w m P) (h0 : allowB s.v m.v = true) (h1 : allowB s.s m.s = true) (h2 : allowB s.c m.c = true) (h3 : allowB s.t m.t = true) (h4 : allowB s.d (m.d.length : Nat) = true) (h5 : allowB s.x (m.x.length : Nat) = true) (h6 : noRes s m.r = true) (h7 : eachE m.b s.b = true) (h8 : eachE m.p s.p = false) : Calls Tryz.prog 186 #[.agg (shC s), agM m P] w (Ans (.bool false) w) := by
  obtain ⟨x1, x2, x3⟩ := box2B w (shC s) (msC m P) 236 46
  have C0 := Lib.hid (fun W => show Calls Tryz.prog 208 #[.agg #[.int .i64 s.v.1, .int .i64 s.v.2], .int .i64 m.v] W (Ans (.bool true) W) from by have := gAllow_any s.v m.v W; rw [h0] at this; exact this)
  have C1 := Lib.hid (fun W => show Calls Tryz.prog 208 #[.agg #[.int .i64 s.s.1, .int .i64 s.s.2], .int .i64 m.s] W (Ans (.bool true) W) from by have := gAllow_any s.s m.s W; rw [h1] at this; exact this)
  have C2 := Lib.hid (fun W => show Calls Tryz.prog 208 #[.agg #[.int .i64 s.c.1, .int .i64 s.c.2], .int .i64 m.c] W (Ans (.bool true) W) from by have := gAllow_any s.c m.c W; rw [h2] at this; exact this)
  have C3 := Lib.hid (fun W => show Calls Tryz.prog 208 #[.agg #[.int .i64 s.t.1, .int .i64 s.t.2], .int .i64 m.t] W (Ans (.bool true) W) from by have := gAllow_any s.t m.t W; rw [h3] at this; exact this)
  have C4 := Lib.hid (fun W => show Calls Tryz.prog 208 #[.agg #[.int .i64 s.d.1, .int .i64 s.d.2], .int .i64 (m.d.length : Nat)] W (Ans (.bool true) W) from by have := gAllow_any s.d (m.d.length : Nat) W; rw [h4] at this; exact this)
  have C5 := Lib.hid (fun W => show Calls Tryz.prog 208 #[.agg #[.int .i64 s.x.1, .int .i64 s.x.2], .int .i64 (m.x.length : Nat)] W (Ans (.bool true) W) from by have := gAllow_any s.x (m.x.length : Nat) W; rw [h5] at this; exact this)
  have C7 := Lib.hid (fun W (hb : Below w.heap.size w W) => show Calls Tryz.prog 209 #[.slice P.b.1 m.b.length P.b.2, .agg #[.int .i64 s.b.1, .int .i64 s.b.2], .func (Fn.func 210) #[] #[]] W (Ans (.bool true) W) from by have := eachE_any P.b.1 P.b.2 m.b s.b W (h.b.below hb); rw [h7] at this; exact this)
  have C8 := Lib.hid (fun W (hb : Below w.heap.size w W) => show Calls Tryz.prog 209 #[.slice P.p.1 m.p.length P.p.2, .agg #[.int .i64 s.p.1, .int .i64 s.p.2], .func (Fn.func 210) #[] #[]] W (Ans (.bool false) W) from by have := eachE_any P.p.1 P.p.2 m.p s.p W (h.p.below hb); rw [h8] at this; exact this)
  have HS := Lib.hid x1
  have HM := Lib.hid x2
  have HB := Lib.hid x3
  have hxl := strB_size m.d
  clear x1 x2 x3 h
  unfold noRes at h6
  cases hr : s.r
  · have hz : m.r.1 = 0 ∧ m.r.2 = 0 := by simpa [hr] using h6
    obtain ⟨hz1, hz2⟩ := hz
    go_enter Tryz.func186, Tryz.ntmps186
    go_wp2_with (first
        | (go_at_call_of 208 ([Value.int .i64 m.v]); refine (C0.out _).mono ?_; rintro e w' ⟨rfl, hb⟩; have HS := Lib.hid (heapB HS.out hb); have HM := Lib.hid (heapB HM.out hb); have HB := Lib.hid (bel2M HB.out hb); clear hb; have y2 := rowCell HS.out 2 (.int .i64 s.s.1) rfl; have y3 := rowCell HS.out 3 (.int .i64 s.s.2) rfl; have m2 := rowCell HM.out 2 (.int .i64 m.s) rfl)
        | (go_at_call_of 208 ([Value.int .i64 m.s]); refine (C1.out _).mono ?_; rintro e w' ⟨rfl, hb⟩; have HS := Lib.hid (heapB HS.out hb); have HM := Lib.hid (heapB HM.out hb); have HB := Lib.hid (bel2M HB.out hb); clear hb; have y4 := rowCell HS.out 4 (.int .i64 s.c.1) rfl; have y5 := rowCell HS.out 5 (.int .i64 s.c.2) rfl; have m3 := rowCell HM.out 3 (.int .i64 m.c) rfl)
        | (go_at_call_of 208 ([Value.int .i64 m.c]); refine (C2.out _).mono ?_; rintro e w' ⟨rfl, hb⟩; have HS := Lib.hid (heapB HS.out hb); have HM := Lib.hid (heapB HM.out hb); have HB := Lib.hid (bel2M HB.out hb); clear hb; have y6 := rowCell HS.out 6 (.int .i64 s.t.1) rfl; have y7 := rowCell HS.out 7 (.int .i64 s.t.2) rfl; have m4 := rowCell HM.out 4 (.int .i64 m.t) rfl)
        | (go_at_call_of 208 ([Value.int .i64 m.t]); refine (C3.out _).mono ?_; rintro e w' ⟨rfl, hb⟩; have HS := Lib.hid (heapB HS.out hb); have HM := Lib.hid (heapB HM.out hb); have HB := Lib.hid (bel2M HB.out hb); clear hb; have y8 := rowCell HS.out 8 (.int .i64 s.d.1) rfl; have y9 := rowCell HS.out 9 (.int .i64 s.d.2) rfl; have m5 := rowCell HM.out 5 (.string (strB m.d)) rfl)
        | (go_at_call_of 208 ([Value.int .i64 (m.d.length : Nat)]); refine (C4.out _).mono ?_; rintro e w' ⟨rfl, hb⟩; have HS := Lib.hid (heapB HS.out hb); have HM := Lib.hid (heapB HM.out hb); have HB := Lib.hid (bel2M HB.out hb); clear hb; have y10 := rowCell HS.out 10 (.int .i64 s.x.1) rfl; have y11 := rowCell HS.out 11 (.int .i64 s.x.2) rfl; have m6 := rowCell HM.out 6 (.slice P.x.1 m.x.length P.x.2) rfl)
        | (go_at_call_of 208 ([Value.int .i64 (m.x.length : Nat)]); refine (C5.out _).mono ?_; rintro e w' ⟨rfl, hb⟩; have HS := Lib.hid (heapB HS.out hb); have HM := Lib.hid (heapB HM.out hb); have HB := Lib.hid (bel2M HB.out hb); clear hb; have y12 := rowCell HS.out 12 (.bool s.r) rfl; have y13 := rowCell HS.out 13 (.int .i64 s.b.1) rfl; have y14 := rowCell HS.out 14 (.int .i64 s.b.2) rfl; rw [hr] at y12; have m7 := rowCell HM.out 7 (.int .i64 m.r.1) rfl; have m8 := rowCell HM.out 8 (.int .i64 m.r.2) rfl; have m9 := rowCell HM.out 9 (.slice P.b.1 m.b.length P.b.2) rfl)
        | (go_at_call_of 209 (Value.slice P.b.1 m.b.length P.b.2); refine (C7.out _ HB.out).mono ?_; rintro e w' ⟨rfl, hb⟩; have HS := Lib.hid (heapB HS.out hb); have HM := Lib.hid (heapB HM.out hb); have HB := Lib.hid (bel2M HB.out hb); clear hb; have y15 := rowCell HS.out 15 (.int .i64 s.p.1) rfl; have y16 := rowCell HS.out 16 (.int .i64 s.p.2) rfl; have m10 := rowCell HM.out 10 (.slice P.p.1 m.p.length P.p.2) rfl)
        | (go_at_call_of 209 (Value.slice P.p.1 m.p.length P.p.2); refine (C8.out _ HB.out).mono ?_; rintro e w' ⟨rfl, hb⟩; have HB := Lib.hid (bel2M HB.out hb); rename (∀ (a : Act) (w_1 : World), Code.wp _ _ _ a w_1 → _) => hK1; rename (∀ (a : Act) (w_1 : World), wpList _ _ _ _ a w_1 → _) => hK; refine hK _ _ (sim_end 4 (.bool false) (by kernel_rfl) fun b hb1 hb2 => hK1 _ _ ?_); go_wp2_with fail; refine bodyPost_ret (v := .bool false) ?_ hb2 ⟨rfl, HB.out⟩; rw [results_tmp (t := 4) rfl, hb1]))
  · skip
    go_enter Tryz.func186, Tryz.ntmps186
    go_wp2_with (first
        | (go_at_call_of 208 ([Value.int .i64 m.v]); refine (C0.out _).mono ?_; rintro e w' ⟨rfl, hb⟩; have HS := Lib.hid (heapB HS.out hb); have HM := Lib.hid (heapB HM.out hb); have HB := Lib.hid (bel2M HB.out hb); clear hb; have y2 := rowCell HS.out 2 (.int .i64 s.s.1) rfl; have y3 := rowCell HS.out 3 (.int .i64 s.s.2) rfl; have m2 := rowCell HM.out 2 (.int .i64 m.s) rfl)
        | (go_at_call_of 208 ([Value.int .i64 m.s]); refine (C1.out _).mono ?_; rintro e w' ⟨rfl, hb⟩; have HS := Lib.hid (heapB HS.out hb); have HM := Lib.hid (heapB HM.out hb); have HB := Lib.hid (bel2M HB.out hb); clear hb; have y4 := rowCell HS.out 4 (.int .i64 s.c.1) rfl; have y5 := rowCell HS.out 5 (.int .i64 s.c.2) rfl; have m3 := rowCell HM.out 3 (.int .i64 m.c) rfl)
        | (go_at_call_of 208 ([Value.int .i64 m.c]); refine (C2.out _).mono ?_; rintro e w' ⟨rfl, hb⟩; have HS := Lib.hid (heapB HS.out hb); have HM := Lib.hid (heapB HM.out hb); have HB := Lib.hid (bel2M HB.out hb); clear hb; have y6 := rowCell HS.out 6 (.int .i64 s.t.1) rfl; have y7 := rowCell HS.out 7 (.int .i64 s.t.2) rfl; have m4 := rowCell HM.out 4 (.int .i64 m.t) rfl)
        | (go_at_call_of 208 ([Value.int .i64 m.t]); refine (C3.out _).mono ?_; rintro e w' ⟨rfl, hb⟩; have HS := Lib.hid (heapB HS.out hb); have HM := Lib.hid (heapB HM.out hb); have HB := Lib.hid (bel2M HB.out hb); clear hb; have y8 := rowCell HS.out 8 (.int .i64 s.d.1) rfl; have y9 := rowCell HS.out 9 (.int .i64 s.d.2) rfl; have m5 := rowCell HM.out 5 (.string (strB m.d)) rfl)
        | (go_at_call_of 208 ([Value.int .i64 (m.d.length : Nat)]); refine (C4.out _).mono ?_; rintro e w' ⟨rfl, hb⟩; have HS := Lib.hid (heapB HS.out hb); have HM := Lib.hid (heapB HM.out hb); have HB := Lib.hid (bel2M HB.out hb); clear hb; have y10 := rowCell HS.out 10 (.int .i64 s.x.1) rfl; have y11 := rowCell HS.out 11 (.int .i64 s.x.2) rfl; have m6 := rowCell HM.out 6 (.slice P.x.1 m.x.length P.x.2) rfl)
        | (go_at_call_of 208 ([Value.int .i64 (m.x.length : Nat)]); refine (C5.out _).mono ?_; rintro e w' ⟨rfl, hb⟩; have HS := Lib.hid (heapB HS.out hb); have HM := Lib.hid (heapB HM.out hb); have HB := Lib.hid (bel2M HB.out hb); clear hb; have y12 := rowCell HS.out 12 (.bool s.r) rfl; have y13 := rowCell HS.out 13 (.int .i64 s.b.1) rfl; have y14 := rowCell HS.out 14 (.int .i64 s.b.2) rfl; rw [hr] at y12; have m7 := rowCell HM.out 7 (.int .i64 m.r.1) rfl; have m8 := rowCell HM.out 8 (.int .i64 m.r.2) rfl; have m9 := rowCell HM.out 9 (.slice P.b.1 m.b.length P.b.2) rfl)
        | (go_at_call_of 209 (Value.slice P.b.1 m.b.length P.b.2); refine (C7.out _ HB.out).mono ?_; rintro e w' ⟨rfl, hb⟩; have HS := Lib.hid (heapB HS.out hb); have HM := Lib.hid (heapB HM.out hb); have HB := Lib.hid (bel2M HB.out hb); clear hb; have y15 := rowCell HS.out 15 (.int .i64 s.p.1) rfl; have y16 := rowCell HS.out 16 (.int .i64 s.p.2) rfl; have m10 := rowCell HM.out 10 (.slice P.p.1 m.p.length P.p.2) rfl)
        | (go_at_call_of 209 (Value.slice P.p.1 m.p.length P.p.2); refine (C8.out _ HB.out).mono ?_; rintro e w' ⟨rfl, hb⟩; have HB := Lib.hid (bel2M HB.out hb); rename (∀ (a : Act) (w_1 : World), Code.wp _ _ _ a w_1 → _) => hK1; rename (∀ (a : Act) (w_1 : World), wpList _ _ _ _ a w_1 → _) => hK; refine hK _ _ (sim_end 4 (.bool false) (by kernel_rfl) fun b hb1 hb2 => hK1 _ _ ?_); go_wp2_with fail; refine bodyPost_ret (v := .bool false) ?_ hb2 ⟨rfl, HB.out⟩; rw [results_tmp (t := 4) rfl, hb1]))
set_option maxHeartbeats 2000000 in
theorem fits_9 (s : Shp) (m : Msg) (P : Plc) (w : World) (h : MsgK w m P) (h0 : allowB s.v m.v = true) (h1 : allowB s.s m.s = true) (h2 : allowB s.c m.c = true) (h3 : allowB s.t m.t = true) (h4 : allowB s.d (m.d.length : Nat) = true) (h5 : allowB s.x (m.x.length : Nat) = true) (h6 : noRes s m.r = true) (h7 : eachE m.b s.b = true) (h8 : eachE m.p s.p = true) (h9 : eachC m.q s.q = false) : Calls Tryz.prog 186 #[.agg (shC s), agM m P] w (Ans (.bool false) w) := by
  obtain ⟨x1, x2, x3⟩ := box2B w (shC s) (msC m P) 236 46
  have C0 := Lib.hid (fun W => show Calls Tryz.prog 208 #[.agg #[.int .i64 s.v.1, .int .i64 s.v.2], .int .i64 m.v] W (Ans (.bool true) W) from by have := gAllow_any s.v m.v W; rw [h0] at this; exact this)
  have C1 := Lib.hid (fun W => show Calls Tryz.prog 208 #[.agg #[.int .i64 s.s.1, .int .i64 s.s.2], .int .i64 m.s] W (Ans (.bool true) W) from by have := gAllow_any s.s m.s W; rw [h1] at this; exact this)
  have C2 := Lib.hid (fun W => show Calls Tryz.prog 208 #[.agg #[.int .i64 s.c.1, .int .i64 s.c.2], .int .i64 m.c] W (Ans (.bool true) W) from by have := gAllow_any s.c m.c W; rw [h2] at this; exact this)
  have C3 := Lib.hid (fun W => show Calls Tryz.prog 208 #[.agg #[.int .i64 s.t.1, .int .i64 s.t.2], .int .i64 m.t] W (Ans (.bool true) W) from by have := gAllow_any s.t m.t W; rw [h3] at this; exact this)
  have C4 := Lib.hid (fun W => show Calls Tryz.prog 208 #[.agg #[.int .i64 s.d.1, .int .i64 s.d.2], .int .i64 (m.d.length : Nat)] W (Ans (.bool true) W) from by have := gAllow_any s.d (m.d.length : Nat) W; rw [h4] at this; exact this)
  have C5 := Lib.hid (fun W => show Calls Tryz.prog 208 #[.agg #[.int .i64 s.x.1, .int .i64 s.x.2], .int .i64 (m.x.length : Nat)] W (Ans (.bool true) W) from by have := gAllow_any s.x (m.x.length : Nat) W; rw [h5] at this; exact this)
  have C7 := Lib.hid (fun W (hb : Below w.heap.size w W) => show Calls Tryz.prog 209 #[.slice P.b.1 m.b.length P.b.2, .agg #[.int .i64 s.b.1, .int .i64 s.b.2], .func (Fn.func 210) #[] #[]] W (Ans (.bool true) W) from by have := eachE_any P.b.1 P.b.2 m.b s.b W (h.b.below hb); rw [h7] at this; exact this)
  have C8 := Lib.hid (fun W (hb : Below w.heap.size w W) => show Calls Tryz.prog 209 #[.slice P.p.1 m.p.length P.p.2, .agg #[.int .i64 s.p.1, .int .i64 s.p.2], .func (Fn.func 210) #[] #[]] W (Ans (.bool true) W) from by have := eachE_any P.p.1 P.p.2 m.p s.p W (h.p.below hb); rw [h8] at this; exact this)
  have C9 := Lib.hid (fun W (hb : Below w.heap.size w W) => show Calls Tryz.prog 211 #[.slice P.q.1 m.q.length P.q.2, .agg #[.int .i64 s.q.1, .int .i64 s.q.2], .func (Fn.func 212) #[] #[]] W (Ans (.bool false) W) from by have := eachC_any P.q.1 P.q.2 m.q s.q W (h.q.below hb); rw [h9] at this; exact this)
  have HS := Lib.hid x1
  have HM := Lib.hid x2
  have HB := Lib.hid x3
  have hxl := strB_size m.d
  clear x1 x2 x3 h
  unfold noRes at h6
  cases hr : s.r
  · have hz : m.r.1 = 0 ∧ m.r.2 = 0 := by simpa [hr] using h6
    obtain ⟨hz1, hz2⟩ := hz
    go_enter Tryz.func186, Tryz.ntmps186
    go_wp2_with (first
        | (go_at_call_of 208 ([Value.int .i64 m.v]); refine (C0.out _).mono ?_; rintro e w' ⟨rfl, hb⟩; have HS := Lib.hid (heapB HS.out hb); have HM := Lib.hid (heapB HM.out hb); have HB := Lib.hid (bel2M HB.out hb); clear hb; have y2 := rowCell HS.out 2 (.int .i64 s.s.1) rfl; have y3 := rowCell HS.out 3 (.int .i64 s.s.2) rfl; have m2 := rowCell HM.out 2 (.int .i64 m.s) rfl)
        | (go_at_call_of 208 ([Value.int .i64 m.s]); refine (C1.out _).mono ?_; rintro e w' ⟨rfl, hb⟩; have HS := Lib.hid (heapB HS.out hb); have HM := Lib.hid (heapB HM.out hb); have HB := Lib.hid (bel2M HB.out hb); clear hb; have y4 := rowCell HS.out 4 (.int .i64 s.c.1) rfl; have y5 := rowCell HS.out 5 (.int .i64 s.c.2) rfl; have m3 := rowCell HM.out 3 (.int .i64 m.c) rfl)
        | (go_at_call_of 208 ([Value.int .i64 m.c]); refine (C2.out _).mono ?_; rintro e w' ⟨rfl, hb⟩; have HS := Lib.hid (heapB HS.out hb); have HM := Lib.hid (heapB HM.out hb); have HB := Lib.hid (bel2M HB.out hb); clear hb; have y6 := rowCell HS.out 6 (.int .i64 s.t.1) rfl; have y7 := rowCell HS.out 7 (.int .i64 s.t.2) rfl; have m4 := rowCell HM.out 4 (.int .i64 m.t) rfl)
        | (go_at_call_of 208 ([Value.int .i64 m.t]); refine (C3.out _).mono ?_; rintro e w' ⟨rfl, hb⟩; have HS := Lib.hid (heapB HS.out hb); have HM := Lib.hid (heapB HM.out hb); have HB := Lib.hid (bel2M HB.out hb); clear hb; have y8 := rowCell HS.out 8 (.int .i64 s.d.1) rfl; have y9 := rowCell HS.out 9 (.int .i64 s.d.2) rfl; have m5 := rowCell HM.out 5 (.string (strB m.d)) rfl)
        | (go_at_call_of 208 ([Value.int .i64 (m.d.length : Nat)]); refine (C4.out _).mono ?_; rintro e w' ⟨rfl, hb⟩; have HS := Lib.hid (heapB HS.out hb); have HM := Lib.hid (heapB HM.out hb); have HB := Lib.hid (bel2M HB.out hb); clear hb; have y10 := rowCell HS.out 10 (.int .i64 s.x.1) rfl; have y11 := rowCell HS.out 11 (.int .i64 s.x.2) rfl; have m6 := rowCell HM.out 6 (.slice P.x.1 m.x.length P.x.2) rfl)
        | (go_at_call_of 208 ([Value.int .i64 (m.x.length : Nat)]); refine (C5.out _).mono ?_; rintro e w' ⟨rfl, hb⟩; have HS := Lib.hid (heapB HS.out hb); have HM := Lib.hid (heapB HM.out hb); have HB := Lib.hid (bel2M HB.out hb); clear hb; have y12 := rowCell HS.out 12 (.bool s.r) rfl; have y13 := rowCell HS.out 13 (.int .i64 s.b.1) rfl; have y14 := rowCell HS.out 14 (.int .i64 s.b.2) rfl; rw [hr] at y12; have m7 := rowCell HM.out 7 (.int .i64 m.r.1) rfl; have m8 := rowCell HM.out 8 (.int .i64 m.r.2) rfl; have m9 := rowCell HM.out 9 (.slice P.b.1 m.b.length P.b.2) rfl)
        | (go_at_call_of 209 (Value.slice P.b.1 m.b.length P.b.2); refine (C7.out _ HB.out).mono ?_; rintro e w' ⟨rfl, hb⟩; have HS := Lib.hid (heapB HS.out hb); have HM := Lib.hid (heapB HM.out hb); have HB := Lib.hid (bel2M HB.out hb); clear hb; have y15 := rowCell HS.out 15 (.int .i64 s.p.1) rfl; have y16 := rowCell HS.out 16 (.int .i64 s.p.2) rfl; have m10 := rowCell HM.out 10 (.slice P.p.1 m.p.length P.p.2) rfl)
        | (go_at_call_of 209 (Value.slice P.p.1 m.p.length P.p.2); refine (C8.out _ HB.out).mono ?_; rintro e w' ⟨rfl, hb⟩; have HS := Lib.hid (heapB HS.out hb); have HM := Lib.hid (heapB HM.out hb); have HB := Lib.hid (bel2M HB.out hb); clear hb; have y17 := rowCell HS.out 17 (.int .i64 s.q.1) rfl; have y18 := rowCell HS.out 18 (.int .i64 s.q.2) rfl; have m11 := rowCell HM.out 11 (.slice P.q.1 m.q.length P.q.2) rfl)
        | (go_at_call_of 211 (Value.slice P.q.1 m.q.length P.q.2); refine (C9.out _ HB.out).mono ?_; rintro e w' ⟨rfl, hb⟩; have HB := Lib.hid (bel2M HB.out hb); rename (∀ (a : Act) (w_1 : World), Code.wp _ _ _ a w_1 → _) => hK1; rename (∀ (a : Act) (w_1 : World), wpList _ _ _ _ a w_1 → _) => hK; refine hK _ _ (sim_end 4 (.bool false) (by kernel_rfl) fun b hb1 hb2 => hK1 _ _ ?_); go_wp2_with fail; refine bodyPost_ret (v := .bool false) ?_ hb2 ⟨rfl, HB.out⟩; rw [results_tmp (t := 4) rfl, hb1]))
  · skip
    go_enter Tryz.func186, Tryz.ntmps186
    go_wp2_with (first
        | (go_at_call_of 208 ([Value.int .i64 m.v]); refine (C0.out _).mono ?_; rintro e w' ⟨rfl, hb⟩; have HS := Lib.hid (heapB HS.out hb); have HM := Lib.hid (heapB HM.out hb); have HB := Lib.hid (bel2M HB.out hb); clear hb; have y2 := rowCell HS.out 2 (.int .i64 s.s.1) rfl; have y3 := rowCell HS.out 3 (.int .i64 s.s.2) rfl; have m2 := rowCell HM.out 2 (.int .i64 m.s) rfl)
        | (go_at_call_of 208 ([Value.int .i64 m.s]); refine (C1.out _).mono ?_; rintro e w' ⟨rfl, hb⟩; have HS := Lib.hid (heapB HS.out hb); have HM := Lib.hid (heapB HM.out hb); have HB := Lib.hid (bel2M HB.out hb); clear hb; have y4 := rowCell HS.out 4 (.int .i64 s.c.1) rfl; have y5 := rowCell HS.out 5 (.int .i64 s.c.2) rfl; have m3 := rowCell HM.out 3 (.int .i64 m.c) rfl)
        | (go_at_call_of 208 ([Value.int .i64 m.c]); refine (C2.out _).mono ?_; rintro e w' ⟨rfl, hb⟩; have HS := Lib.hid (heapB HS.out hb); have HM := Lib.hid (heapB HM.out hb); have HB := Lib.hid (bel2M HB.out hb); clear hb; have y6 := rowCell HS.out 6 (.int .i64 s.t.1) rfl; have y7 := rowCell HS.out 7 (.int .i64 s.t.2) rfl; have m4 := rowCell HM.out 4 (.int .i64 m.t) rfl)
        | (go_at_call_of 208 ([Value.int .i64 m.t]); refine (C3.out _).mono ?_; rintro e w' ⟨rfl, hb⟩; have HS := Lib.hid (heapB HS.out hb); have HM := Lib.hid (heapB HM.out hb); have HB := Lib.hid (bel2M HB.out hb); clear hb; have y8 := rowCell HS.out 8 (.int .i64 s.d.1) rfl; have y9 := rowCell HS.out 9 (.int .i64 s.d.2) rfl; have m5 := rowCell HM.out 5 (.string (strB m.d)) rfl)
        | (go_at_call_of 208 ([Value.int .i64 (m.d.length : Nat)]); refine (C4.out _).mono ?_; rintro e w' ⟨rfl, hb⟩; have HS := Lib.hid (heapB HS.out hb); have HM := Lib.hid (heapB HM.out hb); have HB := Lib.hid (bel2M HB.out hb); clear hb; have y10 := rowCell HS.out 10 (.int .i64 s.x.1) rfl; have y11 := rowCell HS.out 11 (.int .i64 s.x.2) rfl; have m6 := rowCell HM.out 6 (.slice P.x.1 m.x.length P.x.2) rfl)
        | (go_at_call_of 208 ([Value.int .i64 (m.x.length : Nat)]); refine (C5.out _).mono ?_; rintro e w' ⟨rfl, hb⟩; have HS := Lib.hid (heapB HS.out hb); have HM := Lib.hid (heapB HM.out hb); have HB := Lib.hid (bel2M HB.out hb); clear hb; have y12 := rowCell HS.out 12 (.bool s.r) rfl; have y13 := rowCell HS.out 13 (.int .i64 s.b.1) rfl; have y14 := rowCell HS.out 14 (.int .i64 s.b.2) rfl; rw [hr] at y12; have m7 := rowCell HM.out 7 (.int .i64 m.r.1) rfl; have m8 := rowCell HM.out 8 (.int .i64 m.r.2) rfl; have m9 := rowCell HM.out 9 (.slice P.b.1 m.b.length P.b.2) rfl)
        | (go_at_call_of 209 (Value.slice P.b.1 m.b.length P.b.2); refine (C7.out _ HB.out).mono ?_; rintro e w' ⟨rfl, hb⟩; have HS := Lib.hid (heapB HS.out hb); have HM := Lib.hid (heapB HM.out hb); have HB := Lib.hid (bel2M HB.out hb); clear hb; have y15 := rowCell HS.out 15 (.int .i64 s.p.1) rfl; have y16 := rowCell HS.out 16 (.int .i64 s.p.2) rfl; have m10 := rowCell HM.out 10 (.slice P.p.1 m.p.length P.p.2) rfl)
        | (go_at_call_of 209 (Value.slice P.p.1 m.p.length P.p.2); refine (C8.out _ HB.out).mono ?_; rintro e w' ⟨rfl, hb⟩; have HS := Lib.hid (heapB HS.out hb); have HM := Lib.hid (heapB HM.out hb); have HB := Lib.hid (bel2M HB.out hb); clear hb; have y17 := rowCell HS.out 17 (.int .i64 s.q.1) rfl; have y18 := rowCell HS.out 18 (.int .i64 s.q.2) rfl; have m11 := rowCell HM.out 11 (.slice P.q.1 m.q.length P.q.2) rfl)
        | (go_at_call_of 211 (Value.slice P.q.1 m.q.length P.q.2); refine (C9.out _ HB.out).mono ?_; rintro e w' ⟨rfl, hb⟩; have HB := Lib.hid (bel2M HB.out hb); rename (∀ (a : Act) (w_1 : World), Code.wp _ _ _ a w_1 → _) => hK1; rename (∀ (a : Act) (w_1 : World), wpList _ _ _ _ a w_1 → _) => hK; refine hK _ _ (sim_end 4 (.bool false) (by kernel_rfl) fun b hb1 hb2 => hK1 _ _ ?_); go_wp2_with fail; refine bodyPost_ret (v := .bool false) ?_ hb2 ⟨rfl, HB.out⟩; rw [results_tmp (t := 4) rfl, hb1]))
set_option maxHeartbeats 2000000 in
theorem fits_all (s : Shp) (m : Msg) (P : Plc) (w : World) (h : MsgK w m P) (h0 : allowB s.v m.v = true) (h1 : allowB s.s m.s = true) (h2 : allowB s.c m.c = true) (h3 : allowB s.t m.t = true) (h4 : allowB s.d (m.d.length : Nat) = true) (h5 : allowB s.x (m.x.length : Nat) = true) (h6 : noRes s m.r = true) (h7 : eachE m.b s.b = true) (h8 : eachE m.p s.p = true) (h9 : eachC m.q s.q = true) : Calls Tryz.prog 186 #[.agg (shC s), agM m P] w (Ans (.bool true) w) := by
  obtain ⟨x1, x2, x3⟩ := box2B w (shC s) (msC m P) 236 46
  have C0 := Lib.hid (fun W => show Calls Tryz.prog 208 #[.agg #[.int .i64 s.v.1, .int .i64 s.v.2], .int .i64 m.v] W (Ans (.bool true) W) from by have := gAllow_any s.v m.v W; rw [h0] at this; exact this)
  have C1 := Lib.hid (fun W => show Calls Tryz.prog 208 #[.agg #[.int .i64 s.s.1, .int .i64 s.s.2], .int .i64 m.s] W (Ans (.bool true) W) from by have := gAllow_any s.s m.s W; rw [h1] at this; exact this)
  have C2 := Lib.hid (fun W => show Calls Tryz.prog 208 #[.agg #[.int .i64 s.c.1, .int .i64 s.c.2], .int .i64 m.c] W (Ans (.bool true) W) from by have := gAllow_any s.c m.c W; rw [h2] at this; exact this)
  have C3 := Lib.hid (fun W => show Calls Tryz.prog 208 #[.agg #[.int .i64 s.t.1, .int .i64 s.t.2], .int .i64 m.t] W (Ans (.bool true) W) from by have := gAllow_any s.t m.t W; rw [h3] at this; exact this)
  have C4 := Lib.hid (fun W => show Calls Tryz.prog 208 #[.agg #[.int .i64 s.d.1, .int .i64 s.d.2], .int .i64 (m.d.length : Nat)] W (Ans (.bool true) W) from by have := gAllow_any s.d (m.d.length : Nat) W; rw [h4] at this; exact this)
  have C5 := Lib.hid (fun W => show Calls Tryz.prog 208 #[.agg #[.int .i64 s.x.1, .int .i64 s.x.2], .int .i64 (m.x.length : Nat)] W (Ans (.bool true) W) from by have := gAllow_any s.x (m.x.length : Nat) W; rw [h5] at this; exact this)
  have C7 := Lib.hid (fun W (hb : Below w.heap.size w W) => show Calls Tryz.prog 209 #[.slice P.b.1 m.b.length P.b.2, .agg #[.int .i64 s.b.1, .int .i64 s.b.2], .func (Fn.func 210) #[] #[]] W (Ans (.bool true) W) from by have := eachE_any P.b.1 P.b.2 m.b s.b W (h.b.below hb); rw [h7] at this; exact this)
  have C8 := Lib.hid (fun W (hb : Below w.heap.size w W) => show Calls Tryz.prog 209 #[.slice P.p.1 m.p.length P.p.2, .agg #[.int .i64 s.p.1, .int .i64 s.p.2], .func (Fn.func 210) #[] #[]] W (Ans (.bool true) W) from by have := eachE_any P.p.1 P.p.2 m.p s.p W (h.p.below hb); rw [h8] at this; exact this)
  have C9 := Lib.hid (fun W (hb : Below w.heap.size w W) => show Calls Tryz.prog 211 #[.slice P.q.1 m.q.length P.q.2, .agg #[.int .i64 s.q.1, .int .i64 s.q.2], .func (Fn.func 212) #[] #[]] W (Ans (.bool true) W) from by have := eachC_any P.q.1 P.q.2 m.q s.q W (h.q.below hb); rw [h9] at this; exact this)
  have HS := Lib.hid x1
  have HM := Lib.hid x2
  have HB := Lib.hid x3
  have hxl := strB_size m.d
  clear x1 x2 x3 h
  unfold noRes at h6
  cases hr : s.r
  · have hz : m.r.1 = 0 ∧ m.r.2 = 0 := by simpa [hr] using h6
    obtain ⟨hz1, hz2⟩ := hz
    go_enter Tryz.func186, Tryz.ntmps186
    go_wp2_with (first
        | (go_at_call_of 208 ([Value.int .i64 m.v]); refine (C0.out _).mono ?_; rintro e w' ⟨rfl, hb⟩; have HS := Lib.hid (heapB HS.out hb); have HM := Lib.hid (heapB HM.out hb); have HB := Lib.hid (bel2M HB.out hb); clear hb; have y2 := rowCell HS.out 2 (.int .i64 s.s.1) rfl; have y3 := rowCell HS.out 3 (.int .i64 s.s.2) rfl; have m2 := rowCell HM.out 2 (.int .i64 m.s) rfl)
        | (go_at_call_of 208 ([Value.int .i64 m.s]); refine (C1.out _).mono ?_; rintro e w' ⟨rfl, hb⟩; have HS := Lib.hid (heapB HS.out hb); have HM := Lib.hid (heapB HM.out hb); have HB := Lib.hid (bel2M HB.out hb); clear hb; have y4 := rowCell HS.out 4 (.int .i64 s.c.1) rfl; have y5 := rowCell HS.out 5 (.int .i64 s.c.2) rfl; have m3 := rowCell HM.out 3 (.int .i64 m.c) rfl)
        | (go_at_call_of 208 ([Value.int .i64 m.c]); refine (C2.out _).mono ?_; rintro e w' ⟨rfl, hb⟩; have HS := Lib.hid (heapB HS.out hb); have HM := Lib.hid (heapB HM.out hb); have HB := Lib.hid (bel2M HB.out hb); clear hb; have y6 := rowCell HS.out 6 (.int .i64 s.t.1) rfl; have y7 := rowCell HS.out 7 (.int .i64 s.t.2) rfl; have m4 := rowCell HM.out 4 (.int .i64 m.t) rfl)
        | (go_at_call_of 208 ([Value.int .i64 m.t]); refine (C3.out _).mono ?_; rintro e w' ⟨rfl, hb⟩; have HS := Lib.hid (heapB HS.out hb); have HM := Lib.hid (heapB HM.out hb); have HB := Lib.hid (bel2M HB.out hb); clear hb; have y8 := rowCell HS.out 8 (.int .i64 s.d.1) rfl; have y9 := rowCell HS.out 9 (.int .i64 s.d.2) rfl; have m5 := rowCell HM.out 5 (.string (strB m.d)) rfl)
        | (go_at_call_of 208 ([Value.int .i64 (m.d.length : Nat)]); refine (C4.out _).mono ?_; rintro e w' ⟨rfl, hb⟩; have HS := Lib.hid (heapB HS.out hb); have HM := Lib.hid (heapB HM.out hb); have HB := Lib.hid (bel2M HB.out hb); clear hb; have y10 := rowCell HS.out 10 (.int .i64 s.x.1) rfl; have y11 := rowCell HS.out 11 (.int .i64 s.x.2) rfl; have m6 := rowCell HM.out 6 (.slice P.x.1 m.x.length P.x.2) rfl)
        | (go_at_call_of 208 ([Value.int .i64 (m.x.length : Nat)]); refine (C5.out _).mono ?_; rintro e w' ⟨rfl, hb⟩; have HS := Lib.hid (heapB HS.out hb); have HM := Lib.hid (heapB HM.out hb); have HB := Lib.hid (bel2M HB.out hb); clear hb; have y12 := rowCell HS.out 12 (.bool s.r) rfl; have y13 := rowCell HS.out 13 (.int .i64 s.b.1) rfl; have y14 := rowCell HS.out 14 (.int .i64 s.b.2) rfl; rw [hr] at y12; have m7 := rowCell HM.out 7 (.int .i64 m.r.1) rfl; have m8 := rowCell HM.out 8 (.int .i64 m.r.2) rfl; have m9 := rowCell HM.out 9 (.slice P.b.1 m.b.length P.b.2) rfl)
        | (go_at_call_of 209 (Value.slice P.b.1 m.b.length P.b.2); refine (C7.out _ HB.out).mono ?_; rintro e w' ⟨rfl, hb⟩; have HS := Lib.hid (heapB HS.out hb); have HM := Lib.hid (heapB HM.out hb); have HB := Lib.hid (bel2M HB.out hb); clear hb; have y15 := rowCell HS.out 15 (.int .i64 s.p.1) rfl; have y16 := rowCell HS.out 16 (.int .i64 s.p.2) rfl; have m10 := rowCell HM.out 10 (.slice P.p.1 m.p.length P.p.2) rfl)
        | (go_at_call_of 209 (Value.slice P.p.1 m.p.length P.p.2); refine (C8.out _ HB.out).mono ?_; rintro e w' ⟨rfl, hb⟩; have HS := Lib.hid (heapB HS.out hb); have HM := Lib.hid (heapB HM.out hb); have HB := Lib.hid (bel2M HB.out hb); clear hb; have y17 := rowCell HS.out 17 (.int .i64 s.q.1) rfl; have y18 := rowCell HS.out 18 (.int .i64 s.q.2) rfl; have m11 := rowCell HM.out 11 (.slice P.q.1 m.q.length P.q.2) rfl)
        | (go_at_call_of 211 (Value.slice P.q.1 m.q.length P.q.2); refine (C9.out _ HB.out).mono ?_; rintro e w' ⟨rfl, hb⟩; have HS := Lib.hid (heapB HS.out hb); have HM := Lib.hid (heapB HM.out hb); have HB := Lib.hid (bel2M HB.out hb); clear hb))
    go_ret
    exact ⟨rfl, HB.out⟩
  · skip
    go_enter Tryz.func186, Tryz.ntmps186
    go_wp2_with (first
        | (go_at_call_of 208 ([Value.int .i64 m.v]); refine (C0.out _).mono ?_; rintro e w' ⟨rfl, hb⟩; have HS := Lib.hid (heapB HS.out hb); have HM := Lib.hid (heapB HM.out hb); have HB := Lib.hid (bel2M HB.out hb); clear hb; have y2 := rowCell HS.out 2 (.int .i64 s.s.1) rfl; have y3 := rowCell HS.out 3 (.int .i64 s.s.2) rfl; have m2 := rowCell HM.out 2 (.int .i64 m.s) rfl)
        | (go_at_call_of 208 ([Value.int .i64 m.s]); refine (C1.out _).mono ?_; rintro e w' ⟨rfl, hb⟩; have HS := Lib.hid (heapB HS.out hb); have HM := Lib.hid (heapB HM.out hb); have HB := Lib.hid (bel2M HB.out hb); clear hb; have y4 := rowCell HS.out 4 (.int .i64 s.c.1) rfl; have y5 := rowCell HS.out 5 (.int .i64 s.c.2) rfl; have m3 := rowCell HM.out 3 (.int .i64 m.c) rfl)
        | (go_at_call_of 208 ([Value.int .i64 m.c]); refine (C2.out _).mono ?_; rintro e w' ⟨rfl, hb⟩; have HS := Lib.hid (heapB HS.out hb); have HM := Lib.hid (heapB HM.out hb); have HB := Lib.hid (bel2M HB.out hb); clear hb; have y6 := rowCell HS.out 6 (.int .i64 s.t.1) rfl; have y7 := rowCell HS.out 7 (.int .i64 s.t.2) rfl; have m4 := rowCell HM.out 4 (.int .i64 m.t) rfl)
        | (go_at_call_of 208 ([Value.int .i64 m.t]); refine (C3.out _).mono ?_; rintro e w' ⟨rfl, hb⟩; have HS := Lib.hid (heapB HS.out hb); have HM := Lib.hid (heapB HM.out hb); have HB := Lib.hid (bel2M HB.out hb); clear hb; have y8 := rowCell HS.out 8 (.int .i64 s.d.1) rfl; have y9 := rowCell HS.out 9 (.int .i64 s.d.2) rfl; have m5 := rowCell HM.out 5 (.string (strB m.d)) rfl)
        | (go_at_call_of 208 ([Value.int .i64 (m.d.length : Nat)]); refine (C4.out _).mono ?_; rintro e w' ⟨rfl, hb⟩; have HS := Lib.hid (heapB HS.out hb); have HM := Lib.hid (heapB HM.out hb); have HB := Lib.hid (bel2M HB.out hb); clear hb; have y10 := rowCell HS.out 10 (.int .i64 s.x.1) rfl; have y11 := rowCell HS.out 11 (.int .i64 s.x.2) rfl; have m6 := rowCell HM.out 6 (.slice P.x.1 m.x.length P.x.2) rfl)
        | (go_at_call_of 208 ([Value.int .i64 (m.x.length : Nat)]); refine (C5.out _).mono ?_; rintro e w' ⟨rfl, hb⟩; have HS := Lib.hid (heapB HS.out hb); have HM := Lib.hid (heapB HM.out hb); have HB := Lib.hid (bel2M HB.out hb); clear hb; have y12 := rowCell HS.out 12 (.bool s.r) rfl; have y13 := rowCell HS.out 13 (.int .i64 s.b.1) rfl; have y14 := rowCell HS.out 14 (.int .i64 s.b.2) rfl; rw [hr] at y12; have m7 := rowCell HM.out 7 (.int .i64 m.r.1) rfl; have m8 := rowCell HM.out 8 (.int .i64 m.r.2) rfl; have m9 := rowCell HM.out 9 (.slice P.b.1 m.b.length P.b.2) rfl)
        | (go_at_call_of 209 (Value.slice P.b.1 m.b.length P.b.2); refine (C7.out _ HB.out).mono ?_; rintro e w' ⟨rfl, hb⟩; have HS := Lib.hid (heapB HS.out hb); have HM := Lib.hid (heapB HM.out hb); have HB := Lib.hid (bel2M HB.out hb); clear hb; have y15 := rowCell HS.out 15 (.int .i64 s.p.1) rfl; have y16 := rowCell HS.out 16 (.int .i64 s.p.2) rfl; have m10 := rowCell HM.out 10 (.slice P.p.1 m.p.length P.p.2) rfl)
        | (go_at_call_of 209 (Value.slice P.p.1 m.p.length P.p.2); refine (C8.out _ HB.out).mono ?_; rintro e w' ⟨rfl, hb⟩; have HS := Lib.hid (heapB HS.out hb); have HM := Lib.hid (heapB HM.out hb); have HB := Lib.hid (bel2M HB.out hb); clear hb; have y17 := rowCell HS.out 17 (.int .i64 s.q.1) rfl; have y18 := rowCell HS.out 18 (.int .i64 s.q.2) rfl; have m11 := rowCell HM.out 11 (.slice P.q.1 m.q.length P.q.2) rfl)
        | (go_at_call_of 211 (Value.slice P.q.1 m.q.length P.q.2); refine (C9.out _ HB.out).mono ?_; rintro e w' ⟨rfl, hb⟩; have HS := Lib.hid (heapB HS.out hb); have HM := Lib.hid (heapB HM.out hb); have HB := Lib.hid (bel2M HB.out hb); clear hb))
    go_ret
    exact ⟨rfl, HB.out⟩
theorem fits_any (s : Shp) (m : Msg) (P : Plc) (w : World) (h : MsgK w m P) : Calls Tryz.prog 186 #[.agg (shC s), agM m P] w (Ans (.bool (fitsM s m)) w) := by
  unfold fitsM
  cases h0 : allowB s.v m.v
  · simpa only [h0, Bool.false_and, Bool.and_false, Bool.true_and] using fits_0 s m P w h h0
  cases h1 : allowB s.s m.s
  · simpa only [h0, h1, Bool.false_and, Bool.and_false, Bool.true_and] using fits_1 s m P w h h0 h1
  cases h2 : allowB s.c m.c
  · simpa only [h0, h1, h2, Bool.false_and, Bool.and_false, Bool.true_and] using fits_2 s m P w h h0 h1 h2
  cases h3 : allowB s.t m.t
  · simpa only [h0, h1, h2, h3, Bool.false_and, Bool.and_false, Bool.true_and] using fits_3 s m P w h h0 h1 h2 h3
  cases h4 : allowB s.d (m.d.length : Nat)
  · simpa only [h0, h1, h2, h3, h4, Bool.false_and, Bool.and_false, Bool.true_and] using fits_4 s m P w h h0 h1 h2 h3 h4
  cases h5 : allowB s.x (m.x.length : Nat)
  · simpa only [h0, h1, h2, h3, h4, h5, Bool.false_and, Bool.and_false, Bool.true_and] using fits_5 s m P w h h0 h1 h2 h3 h4 h5
  cases h6 : noRes s m.r
  · simpa only [h0, h1, h2, h3, h4, h5, h6, Bool.false_and, Bool.and_false, Bool.true_and] using fits_6 s m P w h h0 h1 h2 h3 h4 h5 h6
  cases h7 : eachE m.b s.b
  · simpa only [h0, h1, h2, h3, h4, h5, h6, h7, Bool.false_and, Bool.and_false, Bool.true_and] using fits_7 s m P w h h0 h1 h2 h3 h4 h5 h6 h7
  cases h8 : eachE m.p s.p
  · simpa only [h0, h1, h2, h3, h4, h5, h6, h7, h8, Bool.false_and, Bool.and_false, Bool.true_and] using fits_8 s m P w h h0 h1 h2 h3 h4 h5 h6 h7 h8
  cases h9 : eachC m.q s.q
  · simpa only [h0, h1, h2, h3, h4, h5, h6, h7, h8, h9, Bool.false_and, Bool.and_false, Bool.true_and] using fits_9 s m P w h h0 h1 h2 h3 h4 h5 h6 h7 h8 h9
  simpa only [h0, h1, h2, h3, h4, h5, h6, h7, h8, h9, Bool.true_and] using fits_all s m P w h h0 h1 h2 h3 h4 h5 h6 h7 h8 h9

theorem heap_ltG {w : World} {b : Nat} {o : Obj} (h : w.heap[b]? = some o) : b < w.heap.size := (Array.getElem?_eq_some_iff.1 h).1
theorem load_box {w : World} {b : Nat} {cs : Array Value} {t : TypeId} {d : TypeDesc} (h : w.heap[b]? = some (.cells cs t (0, 0))) (hu : Tryz.prog.underlying t = some d) (hd : d.isRow = true) (hi : (Tryz.prog.info? t).map (·.size) = some cs.toList.length) : (Instr.loadAt t (.pointer (some ⟨b, 0, none⟩))).run Tryz.prog w = .ok (.agg cs) w := by
  have := run_loadAt_mid (P := Tryz.prog) w b 0 t cs.toList d (heap_all h) hu hd hi
  simpa using this
def errM (m : Msg) : Int := if checkM m = true then 0 else 120
set_option maxHeartbeats 2000000 in
theorem gCheck_of (m : Msg) (P : Plc) (w : World) (s : Shp) (y z : Bool) (hS : ∀ W, Calls Tryz.prog 185 #[.int .i64 m.k] W (fun e w' => e = .returned (.tuple #[.agg (shC s), .bool y]) ∧ Below W.heap.size W w'))
    (hF : ∀ W, Below w.heap.size w W → Calls Tryz.prog 186 #[.agg (shC s), agM m P] W (Ans (.bool z) W)) : Calls Tryz.prog 171 #[agM m P] w (Ans (.int .i64 (if (y && z) = true then 0 else 120)) w) := by
  have HSH := Lib.hid hS
  have x1 := heap_alloc_new w (.cells (msC m P) 46)
  have hb0 := alloc1B w (.cells (msC m P) 46)
  have HF := Lib.hid hF
  have HM := Lib.hid x1
  have HB := Lib.hid hb0
  clear hF x1 hb0 hS
  cases y
  · go_enter Tryz.func171, Tryz.ntmps171
    have k0 := rowCell HM.out 0 (.int .i64 m.k) rfl
    go_wp2_with (first
      | (go_at_call 185; refine (HSH.out _).mono ?_; rintro e w' ⟨rfl, hb⟩; have HM := Lib.hid (heapB HM.out hb); have HB := Lib.hid (bel2M HB.out hb); clear hb)
      | (refine wpList_storeAll rfl 236 _ _ rfl _ _ _ rfl rfl (heap_alloc_new _ _) rfl (by kernel_rfl) (by kernel_rfl) ?_; intro w' hz hr ho; have HS := Lib.hid hr; have HM := Lib.hid (onlyHeap ho (heapB HM.out (alloc1B _ _)) (by have := heap_ltG HM.out; omega)); have HB := Lib.hid (onlyBelow (bel2M HB.out (alloc1B _ _)) ho HB.out.size (Nat.le_refl _)); clear hz hr ho))
    go_ret
    exact ⟨rfl, HB.out⟩
  · cases z
    · have HFC := Lib.hid (fun W (hb : Below w.heap.size w W) => show Calls Tryz.prog 186 #[.agg (shC s), agM m P] W (Ans (.bool false) W) from HF.out W hb)
      clear HF
      go_enter Tryz.func171, Tryz.ntmps171
      have k0 := rowCell HM.out 0 (.int .i64 m.k) rfl
      go_upto_region 2 with (first
        | (go_at_call 185; refine (HSH.out _).mono ?_; rintro e w' ⟨rfl, hb⟩; have HM := Lib.hid (heapB HM.out hb); have HB := Lib.hid (bel2M HB.out hb); clear hb)
        | (refine wpList_storeAll rfl 236 _ _ rfl _ _ _ rfl rfl (heap_alloc_new _ _) rfl (by kernel_rfl) (by kernel_rfl) ?_; intro w' hz hr ho; have HS := Lib.hid hr; have HM := Lib.hid (onlyHeap ho (heapB HM.out (alloc1B _ _)) (by have := heap_ltG HM.out; omega)); have HB := Lib.hid (onlyBelow (bel2M HB.out (alloc1B _ _)) ho HB.out.size (Nat.le_refl _)); clear hz hr ho))
      refine wp_region_lit ?_
      refine wpList_exec (by kernel_rfl) (.bool true) w' (by kernel_rfl) ?_
      simp only [Act.put, sA, sB, sC]
      refine wpList_exec (by kernel_rfl) (.bool false) w' (by kernel_rfl) ?_
      simp only [Act.put, sA, sB, sC]
      refine wpList_exec (by kernel_rfl) (.bool false) w' (by kernel_rfl) ?_
      simp only [Act.put, sA, sB, sC]
      refine wpList_loadG (by kernel_rfl) 236 _ rfl _ _ rfl _ _ (heap_all HS.out) Tryz.underlying236 rfl (by kernel_rfl) ?_
      simp only [Act.put, sA, sB, sC]
      refine wpList_loadG (by kernel_rfl) 46 _ rfl _ _ rfl _ _ (heap_all HM.out) Tryz.underlying46 rfl (by kernel_rfl) ?_
      simp only [Act.put, sA, sB, sC]
      go_wp2_with (first
        | (go_at_call 186; refine (HFC.out _ HB.out).mono ?_; rintro e w' ⟨rfl, hb⟩; have HB := Lib.hid (bel2M HB.out hb); clear hb))
      go_ret
      exact ⟨rfl, HB.out⟩
    · have HFC := Lib.hid (fun W (hb : Below w.heap.size w W) => show Calls Tryz.prog 186 #[.agg (shC s), agM m P] W (Ans (.bool true) W) from HF.out W hb)
      clear HF
      go_enter Tryz.func171, Tryz.ntmps171
      have k0 := rowCell HM.out 0 (.int .i64 m.k) rfl
      go_upto_region 2 with (first
        | (go_at_call 185; refine (HSH.out _).mono ?_; rintro e w' ⟨rfl, hb⟩; have HM := Lib.hid (heapB HM.out hb); have HB := Lib.hid (bel2M HB.out hb); clear hb)
        | (refine wpList_storeAll rfl 236 _ _ rfl _ _ _ rfl rfl (heap_alloc_new _ _) rfl (by kernel_rfl) (by kernel_rfl) ?_; intro w' hz hr ho; have HS := Lib.hid hr; have HM := Lib.hid (onlyHeap ho (heapB HM.out (alloc1B _ _)) (by have := heap_ltG HM.out; omega)); have HB := Lib.hid (onlyBelow (bel2M HB.out (alloc1B _ _)) ho HB.out.size (Nat.le_refl _)); clear hz hr ho))
      refine wp_region_lit ?_
      refine wpList_exec (by kernel_rfl) (.bool true) w' (by kernel_rfl) ?_
      simp only [Act.put, sA, sB, sC]
      refine wpList_exec (by kernel_rfl) (.bool false) w' (by kernel_rfl) ?_
      simp only [Act.put, sA, sB, sC]
      refine wpList_exec (by kernel_rfl) (.bool false) w' (by kernel_rfl) ?_
      simp only [Act.put, sA, sB, sC]
      refine wpList_loadG (by kernel_rfl) 236 _ rfl _ _ rfl _ _ (heap_all HS.out) Tryz.underlying236 rfl (by kernel_rfl) ?_
      simp only [Act.put, sA, sB, sC]
      refine wpList_loadG (by kernel_rfl) 46 _ rfl _ _ rfl _ _ (heap_all HM.out) Tryz.underlying46 rfl (by kernel_rfl) ?_
      simp only [Act.put, sA, sB, sC]
      go_wp2_with (first
        | (go_at_call 186; refine (HFC.out _ HB.out).mono ?_; rintro e w' ⟨rfl, hb⟩; have HB := Lib.hid (bel2M HB.out hb); clear hb))
      go_ret
      exact ⟨rfl, HB.out⟩
theorem shape_calls (k : Int) (W : World) : Calls Tryz.prog 185 #[.int .i64 k] W (fun e w' => e = .returned (.tuple #[.agg (shC (shapeM k).1), .bool (shapeM k).2]) ∧ Below W.heap.size W w') := gShape_any k W
theorem gCheck_any (m : Msg) (P : Plc) (w : World) (h : MsgK w m P) : Calls Tryz.prog 171 #[agM m P] w (Ans (.int .i64 (errM m)) w) := by
  unfold errM checkM
  exact gCheck_of m P w _ _ _ (shape_calls m.k) fun W hb => fits_any _ m P W (h.below hb)

theorem exec_load {P : Program} {w : World} {a : Act} {op : Oper} {ty : TypeId} {x : Operand} {b : Nat} {cs : Array Value} (ho : op.op = .load ty x) (hx : a.eval x = .pointer (some ⟨b, 0, none⟩)) (h : (Instr.loadAt ty (.pointer (some ⟨b, 0, none⟩))).run P w = .ok (.agg cs) w) : (execOp a.eval op).run P w = .ok (.value (.agg cs)) w := by
  unfold execOp
  simp only [ho, hx, Sem.run_bind, Result.andThen_ok, h, Sem.run_pure]



end Go.Proofs.YticfnjihjpgneaaGreat
