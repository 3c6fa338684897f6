/- Layer 4: values as bytes, by the program and by the document. (Made by gen/genvput.py.) -/
import Derived.Test.YtlnpolepgdoloaaVGood
namespace Go.Proofs.Ytlnpolepgdoloaa
open Go.RowKit
set_option linter.unusedVariables false
set_option linter.unusedSimpArgs false
set_option maxRecDepth 20000

/-- 4.5: a value's bytes -/
def valB (v : Vl) : List UInt8 := be 8 (w64 v.k) ++ (if v.k = 1 then be 8 (w64 v.i) else if v.k = 2 then be 1 v.b.toNat else if v.k = 3 then be 4 v.s.data.toList.length ++ v.s.data.toList else if v.k = 4 then be 8 (numW v.n) else [])
/-- new memory, a row of one's own, that reads as bytes -/
def PutsV (w : World) (l : List UInt8) (e : Ending) (w' : World) : Prop := ∃ v' B, e = .returned v' ∧ w.heap.size ≤ B ∧ w'.ownsRow B 5 1 v' l.length (l.map bc) ∧ Below w.heap.size w w'
theorem PutsV.bs {w w' : World} {l : List UInt8} {e : Ending} (h : PutsV w l e w') : ∃ v', e = .returned v' ∧ Bs w' v' l ∧ Below w.heap.size w w' := by
  obtain ⟨v', B, rfl, -, h, hb⟩ := h
  exact ⟨v', rfl, Rd.of_own h, hb⟩
theorem PutsV.mk {w wa wb w' : World} {l m : List UInt8} {e : Ending} (h : Puts wb m e w') (hw : Below w.heap.size w wa) (hab : Below wa.heap.size wa wb) (hl : m = l) : PutsV w l e w' := by
  subst hl
  obtain ⟨v', rfl, h, hb⟩ := h
  have h1 := hw.trans (hab.mono hw.size)
  exact ⟨v', wb.heap.size, rfl, h1.size, h, h1.trans (hb.mono h1.size)⟩
set_option maxHeartbeats 2000000 in
theorem Put_1 (v : Vl) (y : Value) (l : List UInt8) (w : World) (hk : v.k = 1) (hy : Bs w y l) (hl : l.length ≤ 100000) (hs : v.s.data.toList.length ≤ 100000) (hn : v.n < 18446744073709551616) : Calls Try.prog 36 #[y, agV v] w (PutsV w (l ++ valB v)) := by
  have hk1 : (v.k == 1) = true := by rw [hk]; rfl
  have hk2 : (v.k == 2) = false := by rw [hk]; rfl
  have hk3 : (v.k == 3) = false := by rw [hk]; rfl
  have hk4 : (v.k == 4) = false := by rw [hk]; rfl
  have hb : valB v = be 8 (w64 v.k) ++ (be 8 (w64 v.i)) := by unfold valB; rw [if_pos hk]
  rw [hb]; clear hb hk
  have q1 : ∀ W, Below w.heap.size w W → Calls Try.prog 72 #[y, .int .i64 v.k] W (Puts W (l ++ be 8 (w64 v.k))) := fun W hb => PutInt_any y l v.k W (Rd.below hy hb (Nat.le_refl _)) (by omega)
  have hlen : (l ++ be 8 (w64 v.k)).length ≤ 100008 := by rw [List.length_append, be_length]; omega
  have q2 : ∀ W z, Bs W z (l ++ be 8 (w64 v.k)) → Calls Try.prog 72 #[z, .int .i64 v.i] W (Puts W (l ++ be 8 (w64 v.k) ++ be 8 (w64 v.i))) := fun W z hz => PutInt_any z _ v.i W hz (by omega)
  have HW := Lib.hid ((Below.refl w.heap.size w).alloc (Nat.le_refl _) (.cells #[.int .i64 v.k, .int .i64 v.i, .bool v.b, .string v.s, .float .f64 v.n] 24))
  have Q1 := Lib.hid q1
  have Q2 := Lib.hid q2
  clear q1 hy hl hs hn hlen q2
  have tok1 : True := trivial
  go_enter Try.func36, Try.ntmps36
  go_wp2_with (first
    | (go_at_call 72; have _t := tok1; ((with_reducible refine (Q1.out _ (Below.refl _ _ |>.alloc (Nat.le_refl _) _)).mono ?_); intro e w1 hp1; obtain ⟨v1, rfl, hown1, hb1⟩ := hp1; obtain ⟨hc1, hf1⟩ := bcell hb1; have HO1 := Lib.hid hown1; clear hown1; clear tok1 _t))
    | (go_at_call 72; refine (Q2.out _ _ (Rd.of_own HO1.out)).mono ?_; intro e w2 hp2; have HP2 := Lib.hid hp2; clear hp2; obtain ⟨v2, rfl, -, -⟩ := HP2.out))
  go_ret
  exact PutsV.mk HP2.out (HW.out.trans (hb1.mono HW.out.size)) (Below.refl _ _) (by simp)

set_option maxHeartbeats 2000000 in
theorem Put_2 (v : Vl) (y : Value) (l : List UInt8) (w : World) (hk : v.k = 2) (hy : Bs w y l) (hl : l.length ≤ 100000) (hs : v.s.data.toList.length ≤ 100000) (hn : v.n < 18446744073709551616) : Calls Try.prog 36 #[y, agV v] w (PutsV w (l ++ valB v)) := by
  have hk1 : (v.k == 1) = false := by rw [hk]; rfl
  have hk2 : (v.k == 2) = true := by rw [hk]; rfl
  have hk3 : (v.k == 3) = false := by rw [hk]; rfl
  have hk4 : (v.k == 4) = false := by rw [hk]; rfl
  have hb : valB v = be 8 (w64 v.k) ++ (be 1 v.b.toNat) := by unfold valB; rw [if_neg (by omega), if_pos hk]
  rw [hb]; clear hb hk
  have q1 : ∀ W, Below w.heap.size w W → Calls Try.prog 72 #[y, .int .i64 v.k] W (Puts W (l ++ be 8 (w64 v.k))) := fun W hb => PutInt_any y l v.k W (Rd.below hy hb (Nat.le_refl _)) (by omega)
  have hlen : (l ++ be 8 (w64 v.k)).length ≤ 100008 := by rw [List.length_append, be_length]; omega
  have q2 : ∀ W z, Bs W z (l ++ be 8 (w64 v.k)) → Calls Try.prog 73 #[z, .bool v.b] W (Puts W (l ++ be 8 (w64 v.k) ++ be 1 v.b.toNat)) := fun W z hz => PutBool_any z _ v.b W hz (by omega)
  have HW := Lib.hid ((Below.refl w.heap.size w).alloc (Nat.le_refl _) (.cells #[.int .i64 v.k, .int .i64 v.i, .bool v.b, .string v.s, .float .f64 v.n] 24))
  have Q1 := Lib.hid q1
  have Q2 := Lib.hid q2
  clear q1 hy hl hs hn hlen q2
  have tok1 : True := trivial
  go_enter Try.func36, Try.ntmps36
  go_wp2_with (first
    | (go_at_call 72; have _t := tok1; ((with_reducible refine (Q1.out _ (Below.refl _ _ |>.alloc (Nat.le_refl _) _)).mono ?_); intro e w1 hp1; obtain ⟨v1, rfl, hown1, hb1⟩ := hp1; obtain ⟨hc1, hf1⟩ := bcell hb1; have HO1 := Lib.hid hown1; clear hown1; clear tok1 _t))
    | (go_at_call 73; refine (Q2.out _ _ (Rd.of_own HO1.out)).mono ?_; intro e w2 hp2; have HP2 := Lib.hid hp2; clear hp2; obtain ⟨v2, rfl, -, -⟩ := HP2.out))
  go_ret
  exact PutsV.mk HP2.out (HW.out.trans (hb1.mono HW.out.size)) (Below.refl _ _) (by simp)

set_option maxHeartbeats 2000000 in
theorem Put_3 (v : Vl) (y : Value) (l : List UInt8) (w : World) (hk : v.k = 3) (hy : Bs w y l) (hl : l.length ≤ 100000) (hs : v.s.data.toList.length ≤ 100000) (hn : v.n < 18446744073709551616) : Calls Try.prog 36 #[y, agV v] w (PutsV w (l ++ valB v)) := by
  have hk1 : (v.k == 1) = false := by rw [hk]; rfl
  have hk2 : (v.k == 2) = false := by rw [hk]; rfl
  have hk3 : (v.k == 3) = true := by rw [hk]; rfl
  have hk4 : (v.k == 4) = false := by rw [hk]; rfl
  have hb : valB v = be 8 (w64 v.k) ++ (be 4 v.s.data.toList.length ++ v.s.data.toList) := by unfold valB; rw [if_neg (by omega), if_neg (by omega), if_pos hk]
  rw [hb]; clear hb hk
  have q1 : ∀ W, Below w.heap.size w W → Calls Try.prog 72 #[y, .int .i64 v.k] W (Puts W (l ++ be 8 (w64 v.k))) := fun W hb => PutInt_any y l v.k W (Rd.below hy hb (Nat.le_refl _)) (by omega)
  have hlen : (l ++ be 8 (w64 v.k)).length ≤ 100008 := by rw [List.length_append, be_length]; omega
  have hcv := fun (W : World) => Lib.run_convert_string_bytes (P := Try.prog) W 9 42 5 v.s Try.underlying9 Try.underlying42 Try.underlying5
  have hbw : ∀ W, Bs (Lib.bytesWorld W 5 v.s) (.slice (some ⟨W.heap.size, 0, none⟩) v.s.size (grownCap W v.s.size 0 5)) v.s.data.toList := fun W => by
    have h := bytesWorld_bs W v.s.data.toList (by unfold maxLen; omega) _ rfl
    rwa [← strB_of v.s] at h
  have q2 : ∀ W z u, Bs W z (l ++ be 8 (w64 v.k)) → Bs W u v.s.data.toList → Calls Try.prog 74 #[z, u] W (Puts W (l ++ be 8 (w64 v.k) ++ be 4 v.s.data.toList.length ++ v.s.data.toList)) := fun W z u hz hu => PutBytes_any z u _ _ W hz hu (by omega) (by omega)
  have HBW := Lib.hid hbw
  have HW := Lib.hid ((Below.refl w.heap.size w).alloc (Nat.le_refl _) (.cells #[.int .i64 v.k, .int .i64 v.i, .bool v.b, .string v.s, .float .f64 v.n] 24))
  have Q1 := Lib.hid q1
  have Q2 := Lib.hid q2
  clear q1 hy hl hs hn hlen q2 hbw
  have tok1 : True := trivial
  go_enter Try.func36, Try.ntmps36
  go_wp2_with (first
    | (go_at_call 72; have _t := tok1; ((with_reducible refine (Q1.out _ (Below.refl _ _ |>.alloc (Nat.le_refl _) _)).mono ?_); intro e w1 hp1; obtain ⟨v1, rfl, hown1, hb1⟩ := hp1; obtain ⟨hc1, hf1⟩ := bcell hb1; have HO1 := Lib.hid hown1; clear hown1; clear tok1 _t))
    | (go_at_call 74; refine (Q2.out _ _ _ (Rd.below (Rd.of_own HO1.out) (bytesWorld_below _ _ _) (Nat.le_refl _)) (HBW.out w1)).mono ?_; intro e w2 hp2; have HP2 := Lib.hid hp2; clear hp2; obtain ⟨v2, rfl, -, -⟩ := HP2.out))
  go_ret
  exact PutsV.mk HP2.out (HW.out.trans (hb1.mono HW.out.size)) (bytesWorld_below _ _ _) (by simp)

set_option maxHeartbeats 2000000 in
theorem Put_4 (v : Vl) (y : Value) (l : List UInt8) (w : World) (hk : v.k = 4) (hy : Bs w y l) (hl : l.length ≤ 100000) (hs : v.s.data.toList.length ≤ 100000) (hn : v.n < 18446744073709551616) : Calls Try.prog 36 #[y, agV v] w (PutsV w (l ++ valB v)) := by
  have hk1 : (v.k == 1) = false := by rw [hk]; rfl
  have hk2 : (v.k == 2) = false := by rw [hk]; rfl
  have hk3 : (v.k == 3) = false := by rw [hk]; rfl
  have hk4 : (v.k == 4) = true := by rw [hk]; rfl
  have hb : valB v = be 8 (w64 v.k) ++ (be 8 (numW v.n)) := by unfold valB; rw [if_neg (by omega), if_neg (by omega), if_neg (by omega), if_pos hk]
  rw [hb]; clear hb hk
  have q1 : ∀ W, Below w.heap.size w W → Calls Try.prog 72 #[y, .int .i64 v.k] W (Puts W (l ++ be 8 (w64 v.k))) := fun W hb => PutInt_any y l v.k W (Rd.below hy hb (Nat.le_refl _)) (by omega)
  have hlen : (l ++ be 8 (w64 v.k)).length ≤ 100008 := by rw [List.length_append, be_length]; omega
  have q2 : ∀ W z, Bs W z (l ++ be 8 (w64 v.k)) → Calls Try.prog 75 #[z, .float .f64 v.n] W (Puts W (l ++ be 8 (w64 v.k) ++ be 8 (numW v.n))) := fun W z hz => PutNum_any z _ v.n W hz (by omega) hn
  have HW := Lib.hid ((Below.refl w.heap.size w).alloc (Nat.le_refl _) (.cells #[.int .i64 v.k, .int .i64 v.i, .bool v.b, .string v.s, .float .f64 v.n] 24))
  have Q1 := Lib.hid q1
  have Q2 := Lib.hid q2
  clear q1 hy hl hs hn hlen q2
  have tok1 : True := trivial
  go_enter Try.func36, Try.ntmps36
  go_wp2_with (first
    | (go_at_call 72; have _t := tok1; ((with_reducible refine (Q1.out _ (Below.refl _ _ |>.alloc (Nat.le_refl _) _)).mono ?_); intro e w1 hp1; obtain ⟨v1, rfl, hown1, hb1⟩ := hp1; obtain ⟨hc1, hf1⟩ := bcell hb1; have HO1 := Lib.hid hown1; clear hown1; clear tok1 _t))
    | (go_at_call 75; refine (Q2.out _ _ (Rd.of_own HO1.out)).mono ?_; intro e w2 hp2; have HP2 := Lib.hid hp2; clear hp2; obtain ⟨v2, rfl, -, -⟩ := HP2.out))
  go_ret
  exact PutsV.mk HP2.out (HW.out.trans (hb1.mono HW.out.size)) (Below.refl _ _) (by simp)

set_option maxHeartbeats 2000000 in
theorem Put_0 (v : Vl) (y : Value) (l : List UInt8) (w : World) (h1 : v.k ≠ 1) (h2 : v.k ≠ 2) (h3 : v.k ≠ 3) (h4 : v.k ≠ 4) (hy : Bs w y l) (hl : l.length ≤ 100000) (hs : v.s.data.toList.length ≤ 100000) (hn : v.n < 18446744073709551616) : Calls Try.prog 36 #[y, agV v] w (PutsV w (l ++ valB v)) := by
  have hk1 : (v.k == 1) = false := by simpa using h1
  have hk2 : (v.k == 2) = false := by simpa using h2
  have hk3 : (v.k == 3) = false := by simpa using h3
  have hk4 : (v.k == 4) = false := by simpa using h4
  have hb : valB v = be 8 (w64 v.k) ++ ([]) := by unfold valB; rw [if_neg h1, if_neg h2, if_neg h3, if_neg h4]
  rw [hb]; clear hb h1 h2 h3 h4
  have q1 : ∀ W, Below w.heap.size w W → Calls Try.prog 72 #[y, .int .i64 v.k] W (Puts W (l ++ be 8 (w64 v.k))) := fun W hb => PutInt_any y l v.k W (Rd.below hy hb (Nat.le_refl _)) (by omega)
  have hlen : (l ++ be 8 (w64 v.k)).length ≤ 100008 := by rw [List.length_append, be_length]; omega
  have HW := Lib.hid ((Below.refl w.heap.size w).alloc (Nat.le_refl _) (.cells #[.int .i64 v.k, .int .i64 v.i, .bool v.b, .string v.s, .float .f64 v.n] 24))
  have Q1 := Lib.hid q1
  clear q1 hy hl hs hn hlen
  have tok1 : True := trivial
  go_enter Try.func36, Try.ntmps36
  go_wp2_with (first
    | (go_at_call 72; have _t := tok1; ((with_reducible refine (Q1.out _ (Below.refl _ _ |>.alloc (Nat.le_refl _) _)).mono ?_); intro e w1 hp1; obtain ⟨v1, rfl, hown1, hb1⟩ := hp1; obtain ⟨hc1, hf1⟩ := bcell hb1; have HO1 := Lib.hid hown1; clear hown1; clear tok1 _t)))
  go_ret
  exact PutsV.mk ⟨_, rfl, HO1.out, hb1⟩ HW.out (Below.refl _ _) (by simp)

theorem Put_val (v : Vl) (y : Value) (l : List UInt8) (w : World) (hy : Bs w y l) (hl : l.length ≤ 100000) (hs : v.s.data.toList.length ≤ 100000) (hn : v.n < 18446744073709551616) : Calls Try.prog 36 #[y, agV v] w (PutsV w (l ++ valB v)) := by
  by_cases h1 : v.k = 1
  · exact Put_1 v y l w h1 hy hl hs hn
  by_cases h2 : v.k = 2
  · exact Put_2 v y l w h2 hy hl hs hn
  by_cases h3 : v.k = 3
  · exact Put_3 v y l w h3 hy hl hs hn
  by_cases h4 : v.k = 4
  · exact Put_4 v y l w h4 hy hl hs hn
  exact Put_0 v y l w h1 h2 h3 h4 hy hl hs hn

set_option maxHeartbeats 2000000 in
theorem rPut_1 (v : Vl) (y : Value) (l : List UInt8) (w : World) (hk : v.k = 1) (hy : Bs w y l) (hl : l.length ≤ 100000) (hs : v.s.data.toList.length ≤ 100000) (hn : v.n < 18446744073709551616) : Calls Try.prog 37 #[y, agV v] w (PutsV w (l ++ valB v)) := by
  have hk1 : (v.k == 1) = true := by rw [hk]; rfl
  have hk2 : (v.k == 2) = false := by rw [hk]; rfl
  have hk3 : (v.k == 3) = false := by rw [hk]; rfl
  have hk4 : (v.k == 4) = false := by rw [hk]; rfl
  have hb : valB v = be 8 (w64 v.k) ++ (be 8 (w64 v.i)) := by unfold valB; rw [if_pos hk]
  rw [hb]; clear hb hk
  have q1 : ∀ W, Below w.heap.size w W → Calls Try.prog 76 #[y, .int .i64 v.k] W (Puts W (l ++ be 8 (w64 v.k))) := fun W hb => rInt_any y l v.k W (Rd.below hy hb (Nat.le_refl _)) (by omega)
  have hlen : (l ++ be 8 (w64 v.k)).length ≤ 100008 := by rw [List.length_append, be_length]; omega
  have q2 : ∀ W z, Bs W z (l ++ be 8 (w64 v.k)) → Calls Try.prog 76 #[z, .int .i64 v.i] W (Puts W (l ++ be 8 (w64 v.k) ++ be 8 (w64 v.i))) := fun W z hz => rInt_any z _ v.i W hz (by omega)
  have HW := Lib.hid ((Below.refl w.heap.size w).alloc (Nat.le_refl _) (.cells #[.int .i64 v.k, .int .i64 v.i, .bool v.b, .string v.s, .float .f64 v.n] 24))
  have Q1 := Lib.hid q1
  have Q2 := Lib.hid q2
  clear q1 hy hl hs hn hlen q2
  have tok1 : True := trivial
  go_enter Try.func37, Try.ntmps37
  go_wp2_with (first
    | (go_at_call 76; have _t := tok1; ((with_reducible refine (Q1.out _ (Below.refl _ _ |>.alloc (Nat.le_refl _) _)).mono ?_); intro e w1 hp1; obtain ⟨v1, rfl, hown1, hb1⟩ := hp1; obtain ⟨hc1, hf1⟩ := bcell hb1; have HO1 := Lib.hid hown1; clear hown1; clear tok1 _t))
    | (go_at_call 76; refine (Q2.out _ _ (Rd.of_own HO1.out)).mono ?_; intro e w2 hp2; have HP2 := Lib.hid hp2; clear hp2; obtain ⟨v2, rfl, -, -⟩ := HP2.out))
  go_ret
  exact PutsV.mk HP2.out (HW.out.trans (hb1.mono HW.out.size)) (Below.refl _ _) (by simp)

set_option maxHeartbeats 2000000 in
theorem rPut_2 (v : Vl) (y : Value) (l : List UInt8) (w : World) (hk : v.k = 2) (hy : Bs w y l) (hl : l.length ≤ 100000) (hs : v.s.data.toList.length ≤ 100000) (hn : v.n < 18446744073709551616) : Calls Try.prog 37 #[y, agV v] w (PutsV w (l ++ valB v)) := by
  have hk1 : (v.k == 1) = false := by rw [hk]; rfl
  have hk2 : (v.k == 2) = true := by rw [hk]; rfl
  have hk3 : (v.k == 3) = false := by rw [hk]; rfl
  have hk4 : (v.k == 4) = false := by rw [hk]; rfl
  have hb : valB v = be 8 (w64 v.k) ++ (be 1 v.b.toNat) := by unfold valB; rw [if_neg (by omega), if_pos hk]
  rw [hb]; clear hb hk
  have q1 : ∀ W, Below w.heap.size w W → Calls Try.prog 76 #[y, .int .i64 v.k] W (Puts W (l ++ be 8 (w64 v.k))) := fun W hb => rInt_any y l v.k W (Rd.below hy hb (Nat.le_refl _)) (by omega)
  have hlen : (l ++ be 8 (w64 v.k)).length ≤ 100008 := by rw [List.length_append, be_length]; omega
  have q2 : ∀ W z, Bs W z (l ++ be 8 (w64 v.k)) → Calls Try.prog 77 #[z, .bool v.b] W (Puts W (l ++ be 8 (w64 v.k) ++ be 1 v.b.toNat)) := fun W z hz => rBool_any z _ v.b W hz (by omega)
  have HW := Lib.hid ((Below.refl w.heap.size w).alloc (Nat.le_refl _) (.cells #[.int .i64 v.k, .int .i64 v.i, .bool v.b, .string v.s, .float .f64 v.n] 24))
  have Q1 := Lib.hid q1
  have Q2 := Lib.hid q2
  clear q1 hy hl hs hn hlen q2
  have tok1 : True := trivial
  go_enter Try.func37, Try.ntmps37
  go_wp2_with (first
    | (go_at_call 76; have _t := tok1; ((with_reducible refine (Q1.out _ (Below.refl _ _ |>.alloc (Nat.le_refl _) _)).mono ?_); intro e w1 hp1; obtain ⟨v1, rfl, hown1, hb1⟩ := hp1; obtain ⟨hc1, hf1⟩ := bcell hb1; have HO1 := Lib.hid hown1; clear hown1; clear tok1 _t))
    | (go_at_call 77; refine (Q2.out _ _ (Rd.of_own HO1.out)).mono ?_; intro e w2 hp2; have HP2 := Lib.hid hp2; clear hp2; obtain ⟨v2, rfl, -, -⟩ := HP2.out))
  go_ret
  exact PutsV.mk HP2.out (HW.out.trans (hb1.mono HW.out.size)) (Below.refl _ _) (by simp)

set_option maxHeartbeats 2000000 in
theorem rPut_3 (v : Vl) (y : Value) (l : List UInt8) (w : World) (hk : v.k = 3) (hy : Bs w y l) (hl : l.length ≤ 100000) (hs : v.s.data.toList.length ≤ 100000) (hn : v.n < 18446744073709551616) : Calls Try.prog 37 #[y, agV v] w (PutsV w (l ++ valB v)) := by
  have hk1 : (v.k == 1) = false := by rw [hk]; rfl
  have hk2 : (v.k == 2) = false := by rw [hk]; rfl
  have hk3 : (v.k == 3) = true := by rw [hk]; rfl
  have hk4 : (v.k == 4) = false := by rw [hk]; rfl
  have hb : valB v = be 8 (w64 v.k) ++ (be 4 v.s.data.toList.length ++ v.s.data.toList) := by unfold valB; rw [if_neg (by omega), if_neg (by omega), if_pos hk]
  rw [hb]; clear hb hk
  have q1 : ∀ W, Below w.heap.size w W → Calls Try.prog 76 #[y, .int .i64 v.k] W (Puts W (l ++ be 8 (w64 v.k))) := fun W hb => rInt_any y l v.k W (Rd.below hy hb (Nat.le_refl _)) (by omega)
  have hlen : (l ++ be 8 (w64 v.k)).length ≤ 100008 := by rw [List.length_append, be_length]; omega
  have hcv := fun (W : World) => Lib.run_convert_string_bytes (P := Try.prog) W 9 42 5 v.s Try.underlying9 Try.underlying42 Try.underlying5
  have hbw : ∀ W, Bs (Lib.bytesWorld W 5 v.s) (.slice (some ⟨W.heap.size, 0, none⟩) v.s.size (grownCap W v.s.size 0 5)) v.s.data.toList := fun W => by
    have h := bytesWorld_bs W v.s.data.toList (by unfold maxLen; omega) _ rfl
    rwa [← strB_of v.s] at h
  have q2 : ∀ W z u, Bs W z (l ++ be 8 (w64 v.k)) → Bs W u v.s.data.toList → Calls Try.prog 78 #[z, u] W (Puts W (l ++ be 8 (w64 v.k) ++ be 4 v.s.data.toList.length ++ v.s.data.toList)) := fun W z u hz hu => rBytes_any z u _ _ W hz hu (by omega) (by omega)
  have HBW := Lib.hid hbw
  have HW := Lib.hid ((Below.refl w.heap.size w).alloc (Nat.le_refl _) (.cells #[.int .i64 v.k, .int .i64 v.i, .bool v.b, .string v.s, .float .f64 v.n] 24))
  have Q1 := Lib.hid q1
  have Q2 := Lib.hid q2
  clear q1 hy hl hs hn hlen q2 hbw
  have tok1 : True := trivial
  go_enter Try.func37, Try.ntmps37
  go_wp2_with (first
    | (go_at_call 76; have _t := tok1; ((with_reducible refine (Q1.out _ (Below.refl _ _ |>.alloc (Nat.le_refl _) _)).mono ?_); intro e w1 hp1; obtain ⟨v1, rfl, hown1, hb1⟩ := hp1; obtain ⟨hc1, hf1⟩ := bcell hb1; have HO1 := Lib.hid hown1; clear hown1; clear tok1 _t))
    | (go_at_call 78; refine (Q2.out _ _ _ (Rd.below (Rd.of_own HO1.out) (bytesWorld_below _ _ _) (Nat.le_refl _)) (HBW.out w1)).mono ?_; intro e w2 hp2; have HP2 := Lib.hid hp2; clear hp2; obtain ⟨v2, rfl, -, -⟩ := HP2.out))
  go_ret
  exact PutsV.mk HP2.out (HW.out.trans (hb1.mono HW.out.size)) (bytesWorld_below _ _ _) (by simp)

set_option maxHeartbeats 2000000 in
theorem rPut_4 (v : Vl) (y : Value) (l : List UInt8) (w : World) (hk : v.k = 4) (hy : Bs w y l) (hl : l.length ≤ 100000) (hs : v.s.data.toList.length ≤ 100000) (hn : v.n < 18446744073709551616) : Calls Try.prog 37 #[y, agV v] w (PutsV w (l ++ valB v)) := by
  have hk1 : (v.k == 1) = false := by rw [hk]; rfl
  have hk2 : (v.k == 2) = false := by rw [hk]; rfl
  have hk3 : (v.k == 3) = false := by rw [hk]; rfl
  have hk4 : (v.k == 4) = true := by rw [hk]; rfl
  have hb : valB v = be 8 (w64 v.k) ++ (be 8 (numW v.n)) := by unfold valB; rw [if_neg (by omega), if_neg (by omega), if_neg (by omega), if_pos hk]
  rw [hb]; clear hb hk
  have q1 : ∀ W, Below w.heap.size w W → Calls Try.prog 76 #[y, .int .i64 v.k] W (Puts W (l ++ be 8 (w64 v.k))) := fun W hb => rInt_any y l v.k W (Rd.below hy hb (Nat.le_refl _)) (by omega)
  have hlen : (l ++ be 8 (w64 v.k)).length ≤ 100008 := by rw [List.length_append, be_length]; omega
  have q2 : ∀ W z, Bs W z (l ++ be 8 (w64 v.k)) → Calls Try.prog 79 #[z, .float .f64 v.n] W (Puts W (l ++ be 8 (w64 v.k) ++ be 8 (numW v.n))) := fun W z hz => rNum_any z _ v.n W hz (by omega) hn
  have HW := Lib.hid ((Below.refl w.heap.size w).alloc (Nat.le_refl _) (.cells #[.int .i64 v.k, .int .i64 v.i, .bool v.b, .string v.s, .float .f64 v.n] 24))
  have Q1 := Lib.hid q1
  have Q2 := Lib.hid q2
  clear q1 hy hl hs hn hlen q2
  have tok1 : True := trivial
  go_enter Try.func37, Try.ntmps37
  go_wp2_with (first
    | (go_at_call 76; have _t := tok1; ((with_reducible refine (Q1.out _ (Below.refl _ _ |>.alloc (Nat.le_refl _) _)).mono ?_); intro e w1 hp1; obtain ⟨v1, rfl, hown1, hb1⟩ := hp1; obtain ⟨hc1, hf1⟩ := bcell hb1; have HO1 := Lib.hid hown1; clear hown1; clear tok1 _t))
    | (go_at_call 79; refine (Q2.out _ _ (Rd.of_own HO1.out)).mono ?_; intro e w2 hp2; have HP2 := Lib.hid hp2; clear hp2; obtain ⟨v2, rfl, -, -⟩ := HP2.out))
  go_ret
  exact PutsV.mk HP2.out (HW.out.trans (hb1.mono HW.out.size)) (Below.refl _ _) (by simp)

set_option maxHeartbeats 2000000 in
theorem rPut_0 (v : Vl) (y : Value) (l : List UInt8) (w : World) (h1 : v.k ≠ 1) (h2 : v.k ≠ 2) (h3 : v.k ≠ 3) (h4 : v.k ≠ 4) (hy : Bs w y l) (hl : l.length ≤ 100000) (hs : v.s.data.toList.length ≤ 100000) (hn : v.n < 18446744073709551616) : Calls Try.prog 37 #[y, agV v] w (PutsV w (l ++ valB v)) := by
  have hk1 : (v.k == 1) = false := by simpa using h1
  have hk2 : (v.k == 2) = false := by simpa using h2
  have hk3 : (v.k == 3) = false := by simpa using h3
  have hk4 : (v.k == 4) = false := by simpa using h4
  have hb : valB v = be 8 (w64 v.k) ++ ([]) := by unfold valB; rw [if_neg h1, if_neg h2, if_neg h3, if_neg h4]
  rw [hb]; clear hb h1 h2 h3 h4
  have q1 : ∀ W, Below w.heap.size w W → Calls Try.prog 76 #[y, .int .i64 v.k] W (Puts W (l ++ be 8 (w64 v.k))) := fun W hb => rInt_any y l v.k W (Rd.below hy hb (Nat.le_refl _)) (by omega)
  have hlen : (l ++ be 8 (w64 v.k)).length ≤ 100008 := by rw [List.length_append, be_length]; omega
  have HW := Lib.hid ((Below.refl w.heap.size w).alloc (Nat.le_refl _) (.cells #[.int .i64 v.k, .int .i64 v.i, .bool v.b, .string v.s, .float .f64 v.n] 24))
  have Q1 := Lib.hid q1
  clear q1 hy hl hs hn hlen
  have tok1 : True := trivial
  go_enter Try.func37, Try.ntmps37
  go_wp2_with (first
    | (go_at_call 76; have _t := tok1; ((with_reducible refine (Q1.out _ (Below.refl _ _ |>.alloc (Nat.le_refl _) _)).mono ?_); intro e w1 hp1; obtain ⟨v1, rfl, hown1, hb1⟩ := hp1; obtain ⟨hc1, hf1⟩ := bcell hb1; have HO1 := Lib.hid hown1; clear hown1; clear tok1 _t)))
  go_ret
  exact PutsV.mk ⟨_, rfl, HO1.out, hb1⟩ HW.out (Below.refl _ _) (by simp)

theorem rPut_val (v : Vl) (y : Value) (l : List UInt8) (w : World) (hy : Bs w y l) (hl : l.length ≤ 100000) (hs : v.s.data.toList.length ≤ 100000) (hn : v.n < 18446744073709551616) : Calls Try.prog 37 #[y, agV v] w (PutsV w (l ++ valB v)) := by
  by_cases h1 : v.k = 1
  · exact rPut_1 v y l w h1 hy hl hs hn
  by_cases h2 : v.k = 2
  · exact rPut_2 v y l w h2 hy hl hs hn
  by_cases h3 : v.k = 3
  · exact rPut_3 v y l w h3 hy hl hs hn
  by_cases h4 : v.k = 4
  · exact rPut_4 v y l w h4 hy hl hs hn
  exact rPut_0 v y l w h1 h2 h3 h4 hy hl hs hn

end Go.Proofs.Ytlnpolepgdoloaa
