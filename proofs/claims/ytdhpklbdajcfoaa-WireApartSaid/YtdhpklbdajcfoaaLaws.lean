/- The laws' own walks: awake, WireWrites, WireApart. -/
import Derived.Test.YtdhpklbdajcfoaaLawPut
import Derived.Test.YtdhpklbdajcfoaaMeth
import Derived.Lib.SlBytesConst
namespace Go.Proofs.Ytdhpklbdajcfoaa
open Go.RowKit
set_option linter.unusedVariables false

/-- an item as a value -/
def Itm.val (i : Itm) (bv : Value) : Value := .agg #[.int .i64 i.kind, .int .i64 i.n, bv, .float .f64 i.x]

/-- a literal row of bytes -/
theorem Bs.lit (w : World) (l : List UInt8) (hl : l ≠ []) (hl2 : l.length ≤ 1000000) (cs : Array Value) (n : Nat) (hcs : cs = (l.map bc).toArray) (hn : n = l.length) (b : Nat) (hb : b = w.heap.size) (fr : Nat × Nat := (0, 0)) : Bs (w.alloc (.cells cs 5 fr)) (.slice (some ⟨b, 0, none⟩) n n) l := by
  subst hcs hn hb
  refine ⟨some ⟨w.heap.size, 0, none⟩, l.length, by simp, by simp, by unfold maxLen; omega, (by intro h; cases h), fun _ => ⟨⟨w.heap.size, 0, none⟩, rfl, by simp, fun j u hj => ?_⟩⟩
  rw [Addr.add_lit, Nat.zero_add, cell_of_row _ _ j _ 5 fr (heap_alloc_new w _)]
  simpa using hj

theorem awake_any (w : World) : Calls Try.prog 9 #[] w fun e w' => e = .returned (.bool true) ∧ Below w.heap.size w w' := by
  have hz : ((12 : Int) == 12) = true := rfl
  have ha : be 8 (w64 (-2)) = [255, 255, 255, 255, 255, 255, 255, 254] := by decide
  have hb : be 4 2 ++ [97, 98] = [0, 0, 0, 2, 97, 98] := by decide
  have hs : stepF 1 alBool [2] 0 = (0, [2], 12) := by decide
  have HA := Lib.hid ha
  have HB := Lib.hid hb
  have HS := Lib.hid hs
  clear ha hb hs
  have hcv : ∀ (w : World) (C : Array Value) (n c b : Nat), b = w.heap.size → (convert 24 24 (.slice (some ⟨b, 0, none⟩) n c)).run Try.prog (w.alloc (.cells C 5)) = .ok (.slice (some ⟨b, 0, none⟩) n c) (w.alloc (.cells C 5 (C.size, C.size + 1))) := by
    intro w C n c b hb
    subst hb
    exact Lib.run_convert_bytes_const (P := Try.prog) w 24 5 C n c Try.underlying24 Try.underlying5
  go_enter Try.func9, Try.ntmps9
  go_wp2_with (first
    | (go_at_call 10; refine (New_any _ [2] _ (Bs.lit w [2] (by decide) (by decide) _ _ rfl rfl _ rfl) (by decide)).mono ?_; rintro e w1 ⟨g, rfl, hg, hr1, hb1⟩; have B1 : Below w.heap.size w w1 := ((Below.refl _ _).alloc (Nat.le_refl _) _).trans (hb1.mono (by simp)); clear hb1)
    | (go_at_call 12; refine (Bool_any g [2] 0 _ hr1).mono ?_; rintro e w2 ⟨rfl, hr2, ho2⟩; rw [HS.out] at hr2; have B2 := B1.trans (ho2.to_below B1.size (by simp at hg; omega)); clear ho2 B1)
    | (go_at_call 23; refine (PutInt_any _ [] _ _ (Bs.nil _) (by decide)).mono ?_; rintro e w3 ⟨v3, rfl, h3, hb3⟩; have hr3 := hr2.below hb3; have B3 := B2.trans (hb3.mono B2.size); replace h3 := Puts.bs' h3; rw [List.nil_append, HA.out] at h3; clear B2 hb3)
    | (go_at_call_of 14 (v3); refine (Same_yes _ _ _ _ (Rd.below h3 ((Below.refl _ _).alloc (Nat.le_refl _) _) (Nat.le_refl _)) (Bs.lit _ [255, 255, 255, 255, 255, 255, 255, 254] (by decide) (by decide) _ _ rfl rfl _ rfl)).mono ?_; rintro e w' ⟨rfl, rfl⟩)
    | (go_at_call 29; refine (PutBytes_any _ _ [] [97, 98] _ (Bs.nil _) (Bs.lit _ [97, 98] (by decide) (by decide) _ _ rfl rfl _ (by simp) _) (by decide) (by decide)).mono ?_; rintro e w4 ⟨v4, rfl, h4, hb4⟩; have hr4 := ((hr3.below ((Below.refl _ _).alloc (Nat.le_refl _) _)).below ((Below.refl _ _).alloc (Nat.le_refl _) _)).below hb4; have B4 := (((B3.trans ((Below.refl _ _).alloc B3.size _)).trans ((Below.refl _ _).alloc (by have := B3.size; simp; omega) _))).trans (hb4.mono (by have := B3.size; simp; omega)); replace h4 := Puts.bs' h4; rw [List.nil_append, List.length_cons, List.length_singleton, HB.out] at h4; clear B3 hb4 hr3)
    | (go_at_call_of 14 (v4); refine (Same_yes _ _ _ _ (Rd.below h4 ((Below.refl _ _).alloc (Nat.le_refl _) _) (Nat.le_refl _)) (Bs.lit _ [0, 0, 0, 2, 97, 98] (by decide) (by decide) _ _ rfl rfl _ rfl)).mono ?_; rintro e w' ⟨rfl, rfl⟩)
    | (go_at_call 19; refine (Err_any g [2] 12 _ (hr4.below ((Below.refl _ _).alloc (Nat.le_refl _) _))).mono ?_; rintro e w' ⟨rfl, rfl⟩))
  go_ret
  exact ⟨rfl, B4.alloc B4.size _⟩

theorem WireWrites_any (v : Value) (its : List Itm) (w : World) (hv : Itms w v its) :
    Calls Try.prog 3 #[v] w fun e w' => e = .returned (.bool true) ∧ Below w.heap.size w w' := by
  have hfa := few_any v its w hv
  rcases hf : fewB its with _ | _
  · rw [hf] at hfa
    have HF := Lib.hid hfa
    clear hf hfa
    go_enter Try.func3, Try.ntmps3
    go_wp2_with (go_at_call 7; refine HF.out.mono ?_; rintro e w' ⟨rfl, rfl⟩)
    go_ret
    exact ⟨rfl, Below.refl _ _⟩
  · rw [hf] at hfa
    have HF := Lib.hid hfa
    have HP := Lib.hid (put_any v its w hv hf)
    clear hf hfa
    go_enter Try.func3, Try.ntmps3
    go_wp2_with (first
      | (go_at_call 7; refine HF.out.mono ?_; rintro e w' ⟨rfl, rfl⟩)
      | (go_at_call 8; refine HP.out.mono ?_; rintro e w1 ⟨va, vb, rfl, ha, hb, hb1⟩)
      | (go_at_call 9; refine (awake_any _).mono ?_; rintro e w2 ⟨rfl, hb2⟩))
    go_ret
    exact ⟨rfl, hb1.trans (hb2.mono hb1.size)⟩
end Go.Proofs.Ytdhpklbdajcfoaa
