/- Layer 3: the chapter's examples. -/
import Derived.Test.YtlbbehhjehpefaaARefS
import Derived.Lib.SlBytesConst
namespace Go.Proofs.Ytlbbehhjehpefaa
open Go.RowKit
set_option linter.unusedVariables false

/-- a law's answer -/
def Yes3 (w : World) (e : Ending) (w' : World) : Prop := e = .returned (.bool true) ∧ Below w.heap.size w w'

theorem New_12 (w : World) : Calls Try.prog 10 #[.int .i64 1, .int .i64 2] w fun e w' => ∃ g bm, e = .returned (.pointer (some ⟨g, 0, none⟩)) ∧ w.heap.size ≤ g ∧ w.heap.size ≤ bm ∧ Au w' g bm 1 2 [] ∧ Below w.heap.size w w' :=
  New3_any 1 2 w
theorem Sign_0 (g bm : Nat) (v : Value) (w : World) (h : Au w g bm 1 2 []) (hv : Bs w v [120]) : Calls Try.prog 18 #[.pointer (some ⟨g, 0, none⟩), .int .i64 0, v] w fun e w' =>
    ∃ A c, e = .returned (.tuple #[.agg #[.int .i64 0, .slice A 1 c], .int .i64 0]) ∧ Bs w' (.slice A 1 c) [120] ∧ Au w' g bm 1 2 [(0, [120])] ∧ w.grownBy w' (some bm) := by
  refine (Sign_any g bm 1 2 0 v [120] [] w h (by unfold ok64; omega) hv (by simp) (by simp)).mono fun e w' ⟨v', h1, h2, h3, h4, h5⟩ => ?_
  obtain ⟨A, c, rfl, -⟩ := h2.open
  exact ⟨A, c, h1, h2, h4, h5⟩
theorem Sign_4 (g bm : Nat) (v : Value) (w : World) (h : Au w g bm 1 2 [(0, [120])]) (hv : Bs w v [120]) : Calls Try.prog 18 #[.pointer (some ⟨g, 0, none⟩), .int .i64 4, v] w fun e w' =>
    ∃ A c, e = .returned (.tuple #[.agg #[.int .i64 0, .slice A 0 c], .int .i64 30]) ∧ Au w' g bm 1 2 [(0, [120])] ∧ w.grownBy w' (some bm) := by
  refine (Sign_any g bm 1 2 4 v [120] [(0, [120])] w h (by unfold ok64; omega) hv (by simp) (by simp)).mono fun e w' ⟨v', h1, h2, h3, h4, h5⟩ => ?_
  obtain ⟨A, c, rfl, -⟩ := h2.open
  exact ⟨A, c, h1, h4, h5⟩
section
variable {w : World} {g bm : Nat}
theorem N_4 (h : AuH w g bm 1 2) : Calls Try.prog 29 #[.pointer (some ⟨g, 0, none⟩)] w (Says (.int .i64 4) w) := N_any h
theorem Quorum_3 (h : AuH w g bm 1 2) : Calls Try.prog 26 #[.pointer (some ⟨g, 0, none⟩)] w (Says (.int .i64 3) w) := Quorum_any h
theorem Weak_2 (h : AuH w g bm 1 2) : Calls Try.prog 28 #[.pointer (some ⟨g, 0, none⟩)] w (Says (.int .i64 2) w) := Weak_any h
theorem Primary_6 (h : AuH w g bm 1 2) : Calls Try.prog 30 #[.pointer (some ⟨g, 0, none⟩), .int .i64 6] w (Says (.int .i64 2) w) := by
  have := Primary_any h 6 (by unfold ok64; omega)
  rwa [show primE 1 6 = 2 by decide] at this
theorem Org_1001 (h : AuH w g bm 1 2) : Calls Try.prog 36 #[.pointer (some ⟨g, 0, none⟩), .int .i64 1001] w (Says (.int .i64 1) w) := by
  have := Org_any h 1001 (by unfold ok64; omega)
  rwa [show orgE 2 1001 = 1 by decide] at this
end
theorem Check_0 (g bm : Nat) (v : Value) (w : World) (h : Au w g bm 1 2 [(0, [120])]) (hv : Bs w v [120]) : Calls Try.prog 16 #[.pointer (some ⟨g, 0, none⟩), .agg #[.int .i64 0, v]] w fun e w' => e = .returned (.int .i64 0) ∧ Below w.heap.size w w' :=
  Check_any g bm 1 2 0 v [120] [(0, [120])] w h (by unfold ok64; omega) hv (by simp)
theorem Check_1 (g bm : Nat) (v : Value) (w : World) (h : Au w g bm 1 2 [(0, [120])]) (hv : Bs w v [120]) : Calls Try.prog 16 #[.pointer (some ⟨g, 0, none⟩), .agg #[.int .i64 1, v]] w fun e w' => e = .returned (.int .i64 31) ∧ Below w.heap.size w w' :=
  Check_any g bm 1 2 1 v [120] [(0, [120])] w h (by unfold ok64; omega) hv (by simp)

/-- what the first envelope is behind the second signing -/
theorem awake_later {w w2 w3 : World} {g bm : Nat} {Ax : Option Addr} {cx : Nat} (hA2 : Au w2 g bm 1 2 [(0, [120])]) (hv2 : Bs w2 (.slice Ax 1 cx) [120]) (hB2 : Below w.heap.size w w2) (hbm : w.heap.size ≤ bm) (hA3 : Au w3 g bm 1 2 [(0, [120])])
    (hg3 : ((w2.alloc (.cells #[.int .i64 0, .slice Ax 1 cx] 40)).alloc (.cells #[.int .u8 120] 5 (1, 2))).grownBy w3 (some bm)) (Ay : Option Addr) (cy : Nat) :
    Au (w3.alloc (.cells #[.int .i64 0, .slice Ay 0 cy] 40)) g bm 1 2 [(0, [120])] ∧ Bs (w3.alloc (.cells #[.int .i64 0, .slice Ay 0 cy] 40)) (.slice Ax 1 cx) [120] ∧
    (w3.alloc (.cells #[.int .i64 0, .slice Ay 0 cy] 40)).cell? ⟨w2.heap.size, 0, none⟩ = some (.int .i64 0) ∧ (w3.alloc (.cells #[.int .i64 0, .slice Ay 0 cy] 40)).cell? ⟨w2.heap.size, 1, none⟩ = some (.slice Ax 1 cx) ∧
    Below w.heap.size w (w3.alloc (.cells #[.int .i64 0, .slice Ay 0 cy] 40)) := by
  have hbA : ∀ (W : World) (o : Obj), Below W.heap.size W (W.alloc o) := fun W o => (Below.refl _ _).alloc (Nat.le_refl _) o
  obtain ⟨es, clk, hmb⟩ := ((hA2.below (hbA w2 (.cells #[.int .i64 0, .slice Ax 1 cx] 40)) (Nat.le_refl _)).below (hbA _ (.cells #[.int .u8 120] 5 (1, 2))) (Nat.le_refl _)).map
  have hev : Ev (w2.alloc (.cells #[.int .i64 0, .slice Ax 1 cx] 40)) w2.heap.size (.int .i64 0) (.slice Ax 1 cx) := heap_alloc_new _ _
  have hlt := hA2.2.lt
  have hev3 := ((hev.below (hbA _ (.cells #[.int .u8 120] 5 (1, 2)))).kept hg3 (by intro e; injection e with e; omega)).below (hbA w3 (.cells #[.int .i64 0, .slice Ay 0 cy] 40))
  have hb3 := (((hv2.below (hbA w2 (.cells #[.int .i64 0, .slice Ax 1 cx] 40)) (Nat.le_refl _)).below (hbA _ (.cells #[.int .u8 120] 5 (1, 2))) (Nat.le_refl _)).besideMap hmb hg3).below (hbA w3 (.cells #[.int .i64 0, .slice Ay 0 cy] 40)) (Nat.le_refl _)
  have hs2 := hB2.size
  have hB3 : Below w.heap.size w w3 := ((hB2.alloc hs2 _).alloc (by simp; omega) _).grown hg3 (by simp; omega) (by intro k hk; injection hk with hk; omega)
  exact ⟨hA3.below (hbA _ _) (Nat.le_refl _), hb3, hev3.open.1, hev3.open.2.1, hB3.alloc hB3.size _⟩

set_option maxHeartbeats 1000000 in
theorem awake3_any (w : World) : Calls Try.prog 14 #[] w (Yes3 w) := by
  have hcv : ∀ (w : World) (C : Array Value) (n c b : Nat), b = w.heap.size → (convert 34 34 (.slice (some ⟨b, 0, none⟩) n c)).run Try.prog (w.alloc (.cells C 5)) = .ok (.slice (some ⟨b, 0, none⟩) n c) (w.alloc (.cells C 5 (C.size, C.size + 1))) := by
    intro w C n c b hb
    subst hb
    exact Lib.run_convert_bytes_const (P := Try.prog) w 34 5 C n c Try.underlying34 Try.underlying5
  have hlit : ∀ (w : World) (n : Nat) (fr : Nat × Nat), n = w.heap.size → Bs (w.alloc (.cells #[.int .u8 120] 5 fr)) (.slice (some ⟨n, 0, none⟩) 1 1) [120] := fun w n fr hn => Bs.lit w [120] (by decide) (by decide) _ _ rfl rfl n hn fr
  go_enter Try.func14, Try.ntmps14
  go_wp2_with (first
    | (go_at_call 10; refine (New_12 _).mono ?_; rintro e w1 ⟨g, bm, rfl, hg, hbm, hA1, hB1⟩)
    | (go_at_call_of 18 (Value.int IntKind.i64 0); refine (Sign_0 g bm _ _ (hA1.below ((Below.refl _ _).alloc (Nat.le_refl _) _) (Nat.le_refl _)) (hlit _ _ _ rfl)).mono ?_; rintro e w2 ⟨Ax, cx, rfl, hv2, hA2, hg2⟩; have hB2 : Below w.heap.size w w2 := (hB1.alloc hB1.size _).grown hg2 (by have := hB1.size; simp; omega) (by intro k hk; injection hk with hk; omega))
    | (go_at_call_of 18 (Value.int IntKind.i64 4); refine (Sign_4 g bm _ _ (hA2.below (((Below.refl _ _).alloc (Nat.le_refl _) _).alloc (by simp) _) (Nat.le_refl _)) (hlit _ _ _ (by simp))).mono ?_; rintro e w3 ⟨Ay, cy, rfl, hA3, hg3⟩; obtain ⟨hA4, hv4, d0, d1, hB4⟩ := awake_later hA2 hv2 hB2 hbm hA3 hg3 Ay cy)
    | (go_at_call 29; refine (N_4 hA4.1).mono ?_; rintro e w' ⟨rfl, rfl⟩)
    | (go_at_call 26; refine (Quorum_3 hA4.1).mono ?_; rintro e w' ⟨rfl, rfl⟩)
    | (go_at_call 28; refine (Weak_2 hA4.1).mono ?_; rintro e w' ⟨rfl, rfl⟩)
    | (go_at_call 30; refine (Primary_6 hA4.1).mono ?_; rintro e w' ⟨rfl, rfl⟩)
    | (go_at_call 36; refine (Org_1001 hA4.1).mono ?_; rintro e w' ⟨rfl, rfl⟩)
    | (go_at_call_of 16 (Value.int IntKind.i64 0); refine (Check_0 g bm _ _ hA4 hv4).mono ?_; rintro e w5 ⟨rfl, hb5⟩; have hA5 := hA4.below hb5 (Nat.le_refl _); have hB5 := hB4.trans (hb5.mono hB4.size))
    | (go_at_call_of 16 (Value.int IntKind.i64 1); refine (Check_1 g bm _ _ (hA5.below ((Below.refl _ _).alloc (Nat.le_refl _) _) (Nat.le_refl _)) (hlit _ _ _ rfl)).mono ?_; rintro e w6 ⟨rfl, hb6⟩; have hB6 := (hB5.alloc hB5.size _).trans (hb6.mono (by have := hB5.size; simp; omega))))
  go_ret
  exact ⟨rfl, hB6⟩
end Go.Proofs.Ytlbbehhjehpefaa
