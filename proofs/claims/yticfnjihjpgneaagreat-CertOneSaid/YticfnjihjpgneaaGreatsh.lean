/- sh: HDoc5 HEnc (made by shake.py). -/
import Derived.Deep.CutRange
import Derived.Test.YticfnjihjpgneaaGreatsg
namespace Go.Proofs.YticfnjihjpgneaaGreat
open Go.RowKit
set_option linter.unusedVariables false
set_option linter.unusedSimpArgs false
set_option maxRecDepth 20000

abbrev SPe (w3 : World) (a b : Addr) (x y : Value) : World → Prop := fun W => Below w3.heap.size w3 W ∧ W.cell? a = some x ∧ W.cell? b = some y
set_option maxHeartbeats 4000000 in
theorem rEncode_1 (v s c t : Int) (d x : List UInt8) (r : Int × Int) (b p : List (Int × List UInt8)) (P : Plc) (w : World) (hx : Bs w (.slice P.x.1 x.length P.x.2) x) (hb : EnvK w P.b.1 P.b.2 b) (hp : EnvK w P.p.1 P.p.2 p) (ld : d.length ≤ 200000) (lx : x.length ≤ 200000) (lb : b.length ≤ 30 ∧ ∀ e ∈ b, e.2.length ≤ 100000) (lp : p.length ≤ 30 ∧ ∀ e ∈ p, e.2.length ≤ 100000) (hC : ∀ W, Below w.heap.size w W → Calls Tryz.prog 131 #[.agg #[.int .i64 1, .int .i64 v, .int .i64 s, .int .i64 c, .int .i64 t, .string (strB d), .slice P.x.1 x.length P.x.2, .int .i64 r.1, .int .i64 r.2, .slice P.b.1 b.length P.b.2, .slice P.p.1 p.length P.p.2, .slice P.q.1 0 P.q.2]] W (Ans (.int .i64 0) W)) :
    Calls Tryz.prog 85 #[.agg #[.int .i64 1, .int .i64 v, .int .i64 s, .int .i64 c, .int .i64 t, .string (strB d), .slice P.x.1 x.length P.x.2, .int .i64 r.1, .int .i64 r.2, .slice P.b.1 b.length P.b.2, .slice P.p.1 p.length P.p.2, .slice P.q.1 0 P.q.2]] w (Puts w (putM ⟨1, v, s, c, t, d, x, r, b, p, []⟩)) := by
  have he : putM ⟨1, v, s, c, t, d, x, r, b, p, []⟩ = [] ++ i8B 1 ++ i8B c ++ i8B t ++ partB x := by
    unfold putM partsM
    simp [shapeM, numP, rowP, resP, lisP, countB, List.append_assoc]
  have hcv := conv_digest
  have hsz := strB_size d
  have HDM := Lib.hid (show d.length ≤ maxLen by unfold maxLen; omega)
  have HXX := Lib.hid hx
  have HBB := Lib.hid hb
  have HPP := Lib.hid hp
  have HLD := Lib.hid ld
  have HLX := Lib.hid lx
  have HLB := Lib.hid lb
  have HLP := Lib.hid lp
  have HCK := Lib.hid hC
  have HF := Lib.hid (fun W => show Calls Tryz.prog 132 #[.int .i64 1] W (fun e w' => e = .returned (.tuple #[.agg #[.bool false, .bool false, .bool true, .bool false, .bool true, .bool false, .bool false, .bool false, .bool false], .bool true]) ∧ Below W.heap.size W w') from (rFields_1 W).mono fun e w' h => ⟨h.1.trans rfl, h.2⟩)
  have HM := Lib.hid (heap_alloc_new w (.cells #[.int .i64 1, .int .i64 v, .int .i64 s, .int .i64 c, .int .i64 t, .string (strB d), .slice P.x.1 x.length P.x.2, .int .i64 r.1, .int .i64 r.2, .slice P.b.1 b.length P.b.2, .slice P.p.1 p.length P.p.2, .slice P.q.1 0 P.q.2] 46))
  have HB := Lib.hid (alloc1B w (.cells #[.int .i64 1, .int .i64 v, .int .i64 s, .int .i64 c, .int .i64 t, .string (strB d), .slice P.x.1 x.length P.x.2, .int .i64 r.1, .int .i64 r.2, .slice P.b.1 b.length P.b.2, .slice P.p.1 p.length P.p.2, .slice P.q.1 0 P.q.2] 46))
  have HE := Lib.hid he
  clear hx hb hp ld lx lb lp hC he
  generalize putM ⟨1, v, s, c, t, d, x, r, b, p, []⟩ = L at *
  go_enter Tryz.func85, Tryz.ntmps85
  go_upto_region 1 with fail
  generalize hw0 : w.alloc _ = w0 at *
  clear hw0
  go_upto_region 3 with (first
    | (go_at_call 131; go_loud (refine (HCK.out _ HB.out).mono ?_; rintro e w1 ⟨rfl, hb⟩; have HM := Lib.hid (heapB HM.out hb); have HB := Lib.hid (bel2M HB.out hb); clear hb))
    | (refine wpList_load_mid rfl 46 _ rfl w.heap.size 0 rfl _ _ (heap_all HM.out) Tryz.underlying46 rfl (by kernel_rfl) ?_))
  have m0 := rowCell HM.out 0 (.int .i64 1) rfl
  go_upto_region 4 with (first
    | (go_at_call 132; go_loud (refine (HF.out _).mono ?_; rintro e w2 ⟨rfl, hb⟩; have HX := Lib.hid (heap_alloc_new w2 (.cells #[.bool false, .bool false, .bool true, .bool false, .bool true, .bool false, .bool false, .bool false, .bool false] 188)); have HM := Lib.hid (heapB (heapB HM.out hb) (alloc1B w2 (.cells #[.bool false, .bool false, .bool true, .bool false, .bool true, .bool false, .bool false, .bool false, .bool false] 188))); have HB := Lib.hid (bel2M (bel2M HB.out hb) (alloc1B w2 (.cells #[.bool false, .bool false, .bool true, .bool false, .bool true, .bool false, .bool false, .bool false, .bool false] 188))); clear hb)))
  generalize hw3 : w2.alloc _ = w3 at *
  clear hw3
  have HV := Lib.hid ((Wrt.nil w).next HB.out)
  have m0 := rowCell HM.out 0 (.int .i64 1) rfl
  have m3 := rowCell HM.out 3 (.int .i64 c) rfl
  have m4 := rowCell HM.out 4 (.int .i64 t) rfl
  have m6 := rowCell HM.out 6 (.slice P.x.1 x.length P.x.2) rfl
  have y0 := rowCell HX.out 0 (.bool false) rfl
  have y1 := rowCell HX.out 1 (.bool false) rfl
  have y2 := rowCell HX.out 2 (.bool true) rfl
  have y3 := rowCell HX.out 3 (.bool false) rfl
  have y4 := rowCell HX.out 4 (.bool true) rfl
  have y5 := rowCell HX.out 5 (.bool false) rfl
  have y6 := rowCell HX.out 6 (.bool false) rfl
  have y7 := rowCell HX.out 7 (.bool false) rfl
  have y8 := rowCell HX.out 8 (.bool false) rfl
  go_upto_region 10 with (first
    | (go_at_call 114; go_loud (refine (wInt HV.out _ (by omega)).mono ?_; rintro e wj ⟨vj, rfl, hw, hb⟩; have HV := Lib.hid hw; have HM := Lib.hid (heapB HM.out hb); have HX := Lib.hid (heapB HX.out hb); have HB := Lib.hid (bel2M HB.out hb); have m0 := rowCell HM.out 0 (.int .i64 1) rfl; have m3 := rowCell HM.out 3 (.int .i64 c) rfl; have m4 := rowCell HM.out 4 (.int .i64 t) rfl; have m6 := rowCell HM.out 6 (.slice P.x.1 x.length P.x.2) rfl; have y0 := rowCell HX.out 0 (.bool false) rfl; have y1 := rowCell HX.out 1 (.bool false) rfl; have y2 := rowCell HX.out 2 (.bool true) rfl; have y3 := rowCell HX.out 3 (.bool false) rfl; have y4 := rowCell HX.out 4 (.bool true) rfl; have y5 := rowCell HX.out 5 (.bool false) rfl; have y6 := rowCell HX.out 6 (.bool false) rfl; have y7 := rowCell HX.out 7 (.bool false) rfl; have y8 := rowCell HX.out 8 (.bool false) rfl; clear hw hb))
    | (go_at_call 113; go_loud (refine (wBytes HV.out (HXX.out.below HB.out (Nat.le_refl _)) HLX.out (by omega) (by decide)).mono ?_; rintro e wj ⟨vj, rfl, hw, hb⟩; have HV := Lib.hid hw; have HM := Lib.hid (heapB HM.out hb); have HX := Lib.hid (heapB HX.out hb); have HB := Lib.hid (bel2M HB.out hb); have m0 := rowCell HM.out 0 (.int .i64 1) rfl; have m3 := rowCell HM.out 3 (.int .i64 c) rfl; have m4 := rowCell HM.out 4 (.int .i64 t) rfl; have m6 := rowCell HM.out 6 (.slice P.x.1 x.length P.x.2) rfl; have y0 := rowCell HX.out 0 (.bool false) rfl; have y1 := rowCell HX.out 1 (.bool false) rfl; have y2 := rowCell HX.out 2 (.bool true) rfl; have y3 := rowCell HX.out 3 (.bool false) rfl; have y4 := rowCell HX.out 4 (.bool true) rfl; have y5 := rowCell HX.out 5 (.bool false) rfl; have y6 := rowCell HX.out 6 (.bool false) rfl; have y7 := rowCell HX.out 7 (.bool false) rfl; have y8 := rowCell HX.out 8 (.bool false) rfl; clear hw hb)))
  have HK1 := Lib.hid (show ∀ W, Below wj.heap.size wj W → SPe wj ⟨w.heap.size, 3, none⟩ ⟨w.heap.size, 4, none⟩ (.int .i64 c) (.int .i64 t) W from fun W h => ⟨h, cellB (rowCell HM.out 3 _ rfl) h, cellB (rowCell HM.out 4 _ rfl) h⟩)
  have HD := Lib.hid (HK1.out wj.drew (Below.refl _ _).drew)
  go_region_held3 (SPe wj ⟨w.heap.size, 3, none⟩ ⟨w.heap.size, 4, none⟩ (.int .i64 c) (.int .i64 t)) (first | exact HD.out | exact HD1.out | exact HD2.out) (first
    | (go_at_call_of 114 ([Value.int .i64 c]); go_loud (refine (wInt (HV.out.next HD.out.1) _ (by omega)).mono ?_; rintro e wa ⟨va, rfl, hw, hb⟩; have HVA := Lib.hid hw; have HD1 := Lib.hid (HK1.out _ (bel2M HD.out.1 hb)); clear hw hb))
    | (go_at_call_of 114 ([Value.int .i64 t]); go_loud (refine (wInt HVA.out _ (by omega)).mono ?_; rintro e wb ⟨vb, rfl, hw, hb⟩; have HVB := Lib.hid hw; have HD2 := Lib.hid (HK1.out _ (bel2M HD1.out.1 hb)); clear hw hb)))
  have HV := HVB
  have HM := Lib.hid (heapB HM.out HD2.out.1)
  have HX := Lib.hid (heapB HX.out HD2.out.1)
  have HB := Lib.hid (bel2M HB.out HD2.out.1)
  have m0 := rowCell HM.out 0 (.int .i64 1) rfl
  have m3 := rowCell HM.out 3 (.int .i64 c) rfl
  have m4 := rowCell HM.out 4 (.int .i64 t) rfl
  have m6 := rowCell HM.out 6 (.slice P.x.1 x.length P.x.2) rfl
  have y0 := rowCell HX.out 0 (.bool false) rfl
  have y1 := rowCell HX.out 1 (.bool false) rfl
  have y2 := rowCell HX.out 2 (.bool true) rfl
  have y3 := rowCell HX.out 3 (.bool false) rfl
  have y4 := rowCell HX.out 4 (.bool true) rfl
  have y5 := rowCell HX.out 5 (.bool false) rfl
  have y6 := rowCell HX.out 6 (.bool false) rfl
  have y7 := rowCell HX.out 7 (.bool false) rfl
  have y8 := rowCell HX.out 8 (.bool false) rfl
  go_wp2_with (first
    | (go_at_call 114; go_loud (refine (wInt HV.out _ (by omega)).mono ?_; rintro e wj ⟨vj, rfl, hw, hb⟩; have HV := Lib.hid hw; have HM := Lib.hid (heapB HM.out hb); have HX := Lib.hid (heapB HX.out hb); have HB := Lib.hid (bel2M HB.out hb); have m0 := rowCell HM.out 0 (.int .i64 1) rfl; have m3 := rowCell HM.out 3 (.int .i64 c) rfl; have m4 := rowCell HM.out 4 (.int .i64 t) rfl; have m6 := rowCell HM.out 6 (.slice P.x.1 x.length P.x.2) rfl; have y0 := rowCell HX.out 0 (.bool false) rfl; have y1 := rowCell HX.out 1 (.bool false) rfl; have y2 := rowCell HX.out 2 (.bool true) rfl; have y3 := rowCell HX.out 3 (.bool false) rfl; have y4 := rowCell HX.out 4 (.bool true) rfl; have y5 := rowCell HX.out 5 (.bool false) rfl; have y6 := rowCell HX.out 6 (.bool false) rfl; have y7 := rowCell HX.out 7 (.bool false) rfl; have y8 := rowCell HX.out 8 (.bool false) rfl; clear hw hb))
    | (go_at_call 113; go_loud (refine (wBytes HV.out (HXX.out.below HB.out (Nat.le_refl _)) HLX.out (by omega) (by decide)).mono ?_; rintro e wj ⟨vj, rfl, hw, hb⟩; have HV := Lib.hid hw; have HM := Lib.hid (heapB HM.out hb); have HX := Lib.hid (heapB HX.out hb); have HB := Lib.hid (bel2M HB.out hb); have m0 := rowCell HM.out 0 (.int .i64 1) rfl; have m3 := rowCell HM.out 3 (.int .i64 c) rfl; have m4 := rowCell HM.out 4 (.int .i64 t) rfl; have m6 := rowCell HM.out 6 (.slice P.x.1 x.length P.x.2) rfl; have y0 := rowCell HX.out 0 (.bool false) rfl; have y1 := rowCell HX.out 1 (.bool false) rfl; have y2 := rowCell HX.out 2 (.bool true) rfl; have y3 := rowCell HX.out 3 (.bool false) rfl; have y4 := rowCell HX.out 4 (.bool true) rfl; have y5 := rowCell HX.out 5 (.bool false) rfl; have y6 := rowCell HX.out 6 (.bool false) rfl; have y7 := rowCell HX.out 7 (.bool false) rfl; have y8 := rowCell HX.out 8 (.bool false) rfl; clear hw hb)))
  go_ret
  exact ⟨_, rfl, by rw [HE.out]; exact HV.out.own, HV.out.below⟩
set_option maxHeartbeats 4000000 in
theorem rEncode_2 (v s c t : Int) (d x : List UInt8) (r : Int × Int) (b p : List (Int × List UInt8)) (P : Plc) (w : World) (hx : Bs w (.slice P.x.1 x.length P.x.2) x) (hb : EnvK w P.b.1 P.b.2 b) (hp : EnvK w P.p.1 P.p.2 p) (ld : d.length ≤ 200000) (lx : x.length ≤ 200000) (lb : b.length ≤ 30 ∧ ∀ e ∈ b, e.2.length ≤ 100000) (lp : p.length ≤ 30 ∧ ∀ e ∈ p, e.2.length ≤ 100000) (hC : ∀ W, Below w.heap.size w W → Calls Tryz.prog 131 #[.agg #[.int .i64 2, .int .i64 v, .int .i64 s, .int .i64 c, .int .i64 t, .string (strB d), .slice P.x.1 x.length P.x.2, .int .i64 r.1, .int .i64 r.2, .slice P.b.1 b.length P.b.2, .slice P.p.1 p.length P.p.2, .slice P.q.1 0 P.q.2]] W (Ans (.int .i64 0) W)) :
    Calls Tryz.prog 85 #[.agg #[.int .i64 2, .int .i64 v, .int .i64 s, .int .i64 c, .int .i64 t, .string (strB d), .slice P.x.1 x.length P.x.2, .int .i64 r.1, .int .i64 r.2, .slice P.b.1 b.length P.b.2, .slice P.p.1 p.length P.p.2, .slice P.q.1 0 P.q.2]] w (Puts w (putM ⟨2, v, s, c, t, d, x, r, b, p, []⟩)) := by
  have he : putM ⟨2, v, s, c, t, d, x, r, b, p, []⟩ = [] ++ i8B 2 ++ i8B v ++ i8B s ++ partB d ++ (be 4 b.length ++ b.flatMap envW) := by
    unfold putM partsM
    simp [shapeM, numP, rowP, resP, lisP, countB, List.append_assoc]
  have hcv := conv_digest
  have hsz := strB_size d
  have HDM := Lib.hid (show d.length ≤ maxLen by unfold maxLen; omega)
  have HXX := Lib.hid hx
  have HBB := Lib.hid hb
  have HPP := Lib.hid hp
  have HLD := Lib.hid ld
  have HLX := Lib.hid lx
  have HLB := Lib.hid lb
  have HLP := Lib.hid lp
  have HCK := Lib.hid hC
  have HF := Lib.hid (fun W => show Calls Tryz.prog 132 #[.int .i64 2] W (fun e w' => e = .returned (.tuple #[.agg #[.bool true, .bool true, .bool false, .bool true, .bool false, .bool false, .bool true, .bool false, .bool false], .bool true]) ∧ Below W.heap.size W w') from (rFields_2 W).mono fun e w' h => ⟨h.1.trans rfl, h.2⟩)
  have HM := Lib.hid (heap_alloc_new w (.cells #[.int .i64 2, .int .i64 v, .int .i64 s, .int .i64 c, .int .i64 t, .string (strB d), .slice P.x.1 x.length P.x.2, .int .i64 r.1, .int .i64 r.2, .slice P.b.1 b.length P.b.2, .slice P.p.1 p.length P.p.2, .slice P.q.1 0 P.q.2] 46))
  have HB := Lib.hid (alloc1B w (.cells #[.int .i64 2, .int .i64 v, .int .i64 s, .int .i64 c, .int .i64 t, .string (strB d), .slice P.x.1 x.length P.x.2, .int .i64 r.1, .int .i64 r.2, .slice P.b.1 b.length P.b.2, .slice P.p.1 p.length P.p.2, .slice P.q.1 0 P.q.2] 46))
  have HE := Lib.hid he
  clear hx hb hp ld lx lb lp hC he
  generalize putM ⟨2, v, s, c, t, d, x, r, b, p, []⟩ = L at *
  go_enter Tryz.func85, Tryz.ntmps85
  go_upto_region 1 with fail
  generalize hw0 : w.alloc _ = w0 at *
  clear hw0
  go_upto_region 3 with (first
    | (go_at_call 131; go_loud (refine (HCK.out _ HB.out).mono ?_; rintro e w1 ⟨rfl, hb⟩; have HM := Lib.hid (heapB HM.out hb); have HB := Lib.hid (bel2M HB.out hb); clear hb))
    | (refine wpList_load_mid rfl 46 _ rfl w.heap.size 0 rfl _ _ (heap_all HM.out) Tryz.underlying46 rfl (by kernel_rfl) ?_))
  have m0 := rowCell HM.out 0 (.int .i64 2) rfl
  go_upto_region 4 with (first
    | (go_at_call 132; go_loud (refine (HF.out _).mono ?_; rintro e w2 ⟨rfl, hb⟩; have HX := Lib.hid (heap_alloc_new w2 (.cells #[.bool true, .bool true, .bool false, .bool true, .bool false, .bool false, .bool true, .bool false, .bool false] 188)); have HM := Lib.hid (heapB (heapB HM.out hb) (alloc1B w2 (.cells #[.bool true, .bool true, .bool false, .bool true, .bool false, .bool false, .bool true, .bool false, .bool false] 188))); have HB := Lib.hid (bel2M (bel2M HB.out hb) (alloc1B w2 (.cells #[.bool true, .bool true, .bool false, .bool true, .bool false, .bool false, .bool true, .bool false, .bool false] 188))); clear hb)))
  generalize hw3 : w2.alloc _ = w3 at *
  clear hw3
  have HV := Lib.hid ((Wrt.nil w).next HB.out)
  have m0 := rowCell HM.out 0 (.int .i64 2) rfl
  have m1 := rowCell HM.out 1 (.int .i64 v) rfl
  have m2 := rowCell HM.out 2 (.int .i64 s) rfl
  have m5 := rowCell HM.out 5 (.string (strB d)) rfl
  have m9 := rowCell HM.out 9 (.slice P.b.1 b.length P.b.2) rfl
  have y0 := rowCell HX.out 0 (.bool true) rfl
  have y1 := rowCell HX.out 1 (.bool true) rfl
  have y2 := rowCell HX.out 2 (.bool false) rfl
  have y3 := rowCell HX.out 3 (.bool true) rfl
  have y4 := rowCell HX.out 4 (.bool false) rfl
  have y5 := rowCell HX.out 5 (.bool false) rfl
  have y6 := rowCell HX.out 6 (.bool true) rfl
  have y7 := rowCell HX.out 7 (.bool false) rfl
  have y8 := rowCell HX.out 8 (.bool false) rfl
  go_wp2_with (first
    | (go_at_call 114; go_loud (refine (wInt HV.out _ (by omega)).mono ?_; rintro e wj ⟨vj, rfl, hw, hb⟩; have HV := Lib.hid hw; have HM := Lib.hid (heapB HM.out hb); have HX := Lib.hid (heapB HX.out hb); have HB := Lib.hid (bel2M HB.out hb); have m0 := rowCell HM.out 0 (.int .i64 2) rfl; have m1 := rowCell HM.out 1 (.int .i64 v) rfl; have m2 := rowCell HM.out 2 (.int .i64 s) rfl; have m5 := rowCell HM.out 5 (.string (strB d)) rfl; have m9 := rowCell HM.out 9 (.slice P.b.1 b.length P.b.2) rfl; have y0 := rowCell HX.out 0 (.bool true) rfl; have y1 := rowCell HX.out 1 (.bool true) rfl; have y2 := rowCell HX.out 2 (.bool false) rfl; have y3 := rowCell HX.out 3 (.bool true) rfl; have y4 := rowCell HX.out 4 (.bool false) rfl; have y5 := rowCell HX.out 5 (.bool false) rfl; have y6 := rowCell HX.out 6 (.bool true) rfl; have y7 := rowCell HX.out 7 (.bool false) rfl; have y8 := rowCell HX.out 8 (.bool false) rfl; clear hw hb; have HW1 := Lib.hid (bytesWorld_below wj 5 (strB d)); have HD1 := Lib.hid (bytesWorld_bsN wj d HDM.out d.length (grownCap wj d.length 0 5) rfl rfl)))
    | (go_at_call 113; go_loud (refine (wBytes (HV.out.next HW1.out) HD1.out HLD.out (by omega) (by decide)).mono ?_; rintro e wj ⟨vj, rfl, hw, hb1⟩; have hb := bel2M HW1.out hb1; clear hb1; have HV := Lib.hid hw; have HM := Lib.hid (heapB HM.out hb); have HX := Lib.hid (heapB HX.out hb); have HB := Lib.hid (bel2M HB.out hb); have m0 := rowCell HM.out 0 (.int .i64 2) rfl; have m1 := rowCell HM.out 1 (.int .i64 v) rfl; have m2 := rowCell HM.out 2 (.int .i64 s) rfl; have m5 := rowCell HM.out 5 (.string (strB d)) rfl; have m9 := rowCell HM.out 9 (.slice P.b.1 b.length P.b.2) rfl; have y0 := rowCell HX.out 0 (.bool true) rfl; have y1 := rowCell HX.out 1 (.bool true) rfl; have y2 := rowCell HX.out 2 (.bool false) rfl; have y3 := rowCell HX.out 3 (.bool true) rfl; have y4 := rowCell HX.out 4 (.bool false) rfl; have y5 := rowCell HX.out 5 (.bool false) rfl; have y6 := rowCell HX.out 6 (.bool true) rfl; have y7 := rowCell HX.out 7 (.bool false) rfl; have y8 := rowCell HX.out 8 (.bool false) rfl; clear hw hb))
    | (go_at_call_of 133 (Value.slice P.b.1 b.length P.b.2); go_loud (refine (wList HV.out (HBB.out.below HB.out) (by have := HLB.out.1; omega) HLB.out.2 (by have := HLB.out.1; omega) (by decide)).mono ?_; rintro e wj ⟨vj, rfl, hw, hb⟩; have HV := Lib.hid hw; have HM := Lib.hid (heapB HM.out hb); have HX := Lib.hid (heapB HX.out hb); have HB := Lib.hid (bel2M HB.out hb); have m0 := rowCell HM.out 0 (.int .i64 2) rfl; have m1 := rowCell HM.out 1 (.int .i64 v) rfl; have m2 := rowCell HM.out 2 (.int .i64 s) rfl; have m5 := rowCell HM.out 5 (.string (strB d)) rfl; have m9 := rowCell HM.out 9 (.slice P.b.1 b.length P.b.2) rfl; have y0 := rowCell HX.out 0 (.bool true) rfl; have y1 := rowCell HX.out 1 (.bool true) rfl; have y2 := rowCell HX.out 2 (.bool false) rfl; have y3 := rowCell HX.out 3 (.bool true) rfl; have y4 := rowCell HX.out 4 (.bool false) rfl; have y5 := rowCell HX.out 5 (.bool false) rfl; have y6 := rowCell HX.out 6 (.bool true) rfl; have y7 := rowCell HX.out 7 (.bool false) rfl; have y8 := rowCell HX.out 8 (.bool false) rfl; clear hw hb)))
  go_ret
  exact ⟨_, rfl, by rw [HE.out]; exact HV.out.own, HV.out.below⟩
set_option maxHeartbeats 4000000 in
theorem rEncode_3 (v s c t : Int) (d x : List UInt8) (r : Int × Int) (b p : List (Int × List UInt8)) (P : Plc) (w : World) (hx : Bs w (.slice P.x.1 x.length P.x.2) x) (hb : EnvK w P.b.1 P.b.2 b) (hp : EnvK w P.p.1 P.p.2 p) (ld : d.length ≤ 200000) (lx : x.length ≤ 200000) (lb : b.length ≤ 30 ∧ ∀ e ∈ b, e.2.length ≤ 100000) (lp : p.length ≤ 30 ∧ ∀ e ∈ p, e.2.length ≤ 100000) (hC : ∀ W, Below w.heap.size w W → Calls Tryz.prog 131 #[.agg #[.int .i64 3, .int .i64 v, .int .i64 s, .int .i64 c, .int .i64 t, .string (strB d), .slice P.x.1 x.length P.x.2, .int .i64 r.1, .int .i64 r.2, .slice P.b.1 b.length P.b.2, .slice P.p.1 p.length P.p.2, .slice P.q.1 0 P.q.2]] W (Ans (.int .i64 0) W)) :
    Calls Tryz.prog 85 #[.agg #[.int .i64 3, .int .i64 v, .int .i64 s, .int .i64 c, .int .i64 t, .string (strB d), .slice P.x.1 x.length P.x.2, .int .i64 r.1, .int .i64 r.2, .slice P.b.1 b.length P.b.2, .slice P.p.1 p.length P.p.2, .slice P.q.1 0 P.q.2]] w (Puts w (putM ⟨3, v, s, c, t, d, x, r, b, p, []⟩)) := by
  have he : putM ⟨3, v, s, c, t, d, x, r, b, p, []⟩ = [] ++ i8B 3 ++ i8B v ++ i8B s ++ partB d := by
    unfold putM partsM
    simp [shapeM, numP, rowP, resP, lisP, countB, List.append_assoc]
  have hcv := conv_digest
  have hsz := strB_size d
  have HDM := Lib.hid (show d.length ≤ maxLen by unfold maxLen; omega)
  have HXX := Lib.hid hx
  have HBB := Lib.hid hb
  have HPP := Lib.hid hp
  have HLD := Lib.hid ld
  have HLX := Lib.hid lx
  have HLB := Lib.hid lb
  have HLP := Lib.hid lp
  have HCK := Lib.hid hC
  have HF := Lib.hid (fun W => show Calls Tryz.prog 132 #[.int .i64 3] W (fun e w' => e = .returned (.tuple #[.agg #[.bool true, .bool true, .bool false, .bool true, .bool false, .bool false, .bool false, .bool false, .bool false], .bool true]) ∧ Below W.heap.size W w') from (rFields_3 W).mono fun e w' h => ⟨h.1.trans rfl, h.2⟩)
  have HM := Lib.hid (heap_alloc_new w (.cells #[.int .i64 3, .int .i64 v, .int .i64 s, .int .i64 c, .int .i64 t, .string (strB d), .slice P.x.1 x.length P.x.2, .int .i64 r.1, .int .i64 r.2, .slice P.b.1 b.length P.b.2, .slice P.p.1 p.length P.p.2, .slice P.q.1 0 P.q.2] 46))
  have HB := Lib.hid (alloc1B w (.cells #[.int .i64 3, .int .i64 v, .int .i64 s, .int .i64 c, .int .i64 t, .string (strB d), .slice P.x.1 x.length P.x.2, .int .i64 r.1, .int .i64 r.2, .slice P.b.1 b.length P.b.2, .slice P.p.1 p.length P.p.2, .slice P.q.1 0 P.q.2] 46))
  have HE := Lib.hid he
  clear hx hb hp ld lx lb lp hC he
  generalize putM ⟨3, v, s, c, t, d, x, r, b, p, []⟩ = L at *
  go_enter Tryz.func85, Tryz.ntmps85
  go_upto_region 1 with fail
  generalize hw0 : w.alloc _ = w0 at *
  clear hw0
  go_upto_region 3 with (first
    | (go_at_call 131; go_loud (refine (HCK.out _ HB.out).mono ?_; rintro e w1 ⟨rfl, hb⟩; have HM := Lib.hid (heapB HM.out hb); have HB := Lib.hid (bel2M HB.out hb); clear hb))
    | (refine wpList_load_mid rfl 46 _ rfl w.heap.size 0 rfl _ _ (heap_all HM.out) Tryz.underlying46 rfl (by kernel_rfl) ?_))
  have m0 := rowCell HM.out 0 (.int .i64 3) rfl
  go_upto_region 4 with (first
    | (go_at_call 132; go_loud (refine (HF.out _).mono ?_; rintro e w2 ⟨rfl, hb⟩; have HX := Lib.hid (heap_alloc_new w2 (.cells #[.bool true, .bool true, .bool false, .bool true, .bool false, .bool false, .bool false, .bool false, .bool false] 188)); have HM := Lib.hid (heapB (heapB HM.out hb) (alloc1B w2 (.cells #[.bool true, .bool true, .bool false, .bool true, .bool false, .bool false, .bool false, .bool false, .bool false] 188))); have HB := Lib.hid (bel2M (bel2M HB.out hb) (alloc1B w2 (.cells #[.bool true, .bool true, .bool false, .bool true, .bool false, .bool false, .bool false, .bool false, .bool false] 188))); clear hb)))
  generalize hw3 : w2.alloc _ = w3 at *
  clear hw3
  have HV := Lib.hid ((Wrt.nil w).next HB.out)
  have m0 := rowCell HM.out 0 (.int .i64 3) rfl
  have m1 := rowCell HM.out 1 (.int .i64 v) rfl
  have m2 := rowCell HM.out 2 (.int .i64 s) rfl
  have m5 := rowCell HM.out 5 (.string (strB d)) rfl
  have y0 := rowCell HX.out 0 (.bool true) rfl
  have y1 := rowCell HX.out 1 (.bool true) rfl
  have y2 := rowCell HX.out 2 (.bool false) rfl
  have y3 := rowCell HX.out 3 (.bool true) rfl
  have y4 := rowCell HX.out 4 (.bool false) rfl
  have y5 := rowCell HX.out 5 (.bool false) rfl
  have y6 := rowCell HX.out 6 (.bool false) rfl
  have y7 := rowCell HX.out 7 (.bool false) rfl
  have y8 := rowCell HX.out 8 (.bool false) rfl
  go_wp2_with (first
    | (go_at_call 114; go_loud (refine (wInt HV.out _ (by omega)).mono ?_; rintro e wj ⟨vj, rfl, hw, hb⟩; have HV := Lib.hid hw; have HM := Lib.hid (heapB HM.out hb); have HX := Lib.hid (heapB HX.out hb); have HB := Lib.hid (bel2M HB.out hb); have m0 := rowCell HM.out 0 (.int .i64 3) rfl; have m1 := rowCell HM.out 1 (.int .i64 v) rfl; have m2 := rowCell HM.out 2 (.int .i64 s) rfl; have m5 := rowCell HM.out 5 (.string (strB d)) rfl; have y0 := rowCell HX.out 0 (.bool true) rfl; have y1 := rowCell HX.out 1 (.bool true) rfl; have y2 := rowCell HX.out 2 (.bool false) rfl; have y3 := rowCell HX.out 3 (.bool true) rfl; have y4 := rowCell HX.out 4 (.bool false) rfl; have y5 := rowCell HX.out 5 (.bool false) rfl; have y6 := rowCell HX.out 6 (.bool false) rfl; have y7 := rowCell HX.out 7 (.bool false) rfl; have y8 := rowCell HX.out 8 (.bool false) rfl; clear hw hb; have HW1 := Lib.hid (bytesWorld_below wj 5 (strB d)); have HD1 := Lib.hid (bytesWorld_bsN wj d HDM.out d.length (grownCap wj d.length 0 5) rfl rfl)))
    | (go_at_call 113; go_loud (refine (wBytes (HV.out.next HW1.out) HD1.out HLD.out (by omega) (by decide)).mono ?_; rintro e wj ⟨vj, rfl, hw, hb1⟩; have hb := bel2M HW1.out hb1; clear hb1; have HV := Lib.hid hw; have HM := Lib.hid (heapB HM.out hb); have HX := Lib.hid (heapB HX.out hb); have HB := Lib.hid (bel2M HB.out hb); have m0 := rowCell HM.out 0 (.int .i64 3) rfl; have m1 := rowCell HM.out 1 (.int .i64 v) rfl; have m2 := rowCell HM.out 2 (.int .i64 s) rfl; have m5 := rowCell HM.out 5 (.string (strB d)) rfl; have y0 := rowCell HX.out 0 (.bool true) rfl; have y1 := rowCell HX.out 1 (.bool true) rfl; have y2 := rowCell HX.out 2 (.bool false) rfl; have y3 := rowCell HX.out 3 (.bool true) rfl; have y4 := rowCell HX.out 4 (.bool false) rfl; have y5 := rowCell HX.out 5 (.bool false) rfl; have y6 := rowCell HX.out 6 (.bool false) rfl; have y7 := rowCell HX.out 7 (.bool false) rfl; have y8 := rowCell HX.out 8 (.bool false) rfl; clear hw hb)))
  go_ret
  exact ⟨_, rfl, by rw [HE.out]; exact HV.out.own, HV.out.below⟩
set_option maxHeartbeats 4000000 in
theorem rEncode_4 (v s c t : Int) (d x : List UInt8) (r : Int × Int) (b p : List (Int × List UInt8)) (P : Plc) (w : World) (hx : Bs w (.slice P.x.1 x.length P.x.2) x) (hb : EnvK w P.b.1 P.b.2 b) (hp : EnvK w P.p.1 P.p.2 p) (ld : d.length ≤ 200000) (lx : x.length ≤ 200000) (lb : b.length ≤ 30 ∧ ∀ e ∈ b, e.2.length ≤ 100000) (lp : p.length ≤ 30 ∧ ∀ e ∈ p, e.2.length ≤ 100000) (hC : ∀ W, Below w.heap.size w W → Calls Tryz.prog 131 #[.agg #[.int .i64 4, .int .i64 v, .int .i64 s, .int .i64 c, .int .i64 t, .string (strB d), .slice P.x.1 x.length P.x.2, .int .i64 r.1, .int .i64 r.2, .slice P.b.1 b.length P.b.2, .slice P.p.1 p.length P.p.2, .slice P.q.1 0 P.q.2]] W (Ans (.int .i64 0) W)) :
    Calls Tryz.prog 85 #[.agg #[.int .i64 4, .int .i64 v, .int .i64 s, .int .i64 c, .int .i64 t, .string (strB d), .slice P.x.1 x.length P.x.2, .int .i64 r.1, .int .i64 r.2, .slice P.b.1 b.length P.b.2, .slice P.p.1 p.length P.p.2, .slice P.q.1 0 P.q.2]] w (Puts w (putM ⟨4, v, s, c, t, d, x, r, b, p, []⟩)) := by
  have he : putM ⟨4, v, s, c, t, d, x, r, b, p, []⟩ = [] ++ i8B 4 ++ i8B v ++ i8B s ++ partB d := by
    unfold putM partsM
    simp [shapeM, numP, rowP, resP, lisP, countB, List.append_assoc]
  have hcv := conv_digest
  have hsz := strB_size d
  have HDM := Lib.hid (show d.length ≤ maxLen by unfold maxLen; omega)
  have HXX := Lib.hid hx
  have HBB := Lib.hid hb
  have HPP := Lib.hid hp
  have HLD := Lib.hid ld
  have HLX := Lib.hid lx
  have HLB := Lib.hid lb
  have HLP := Lib.hid lp
  have HCK := Lib.hid hC
  have HF := Lib.hid (fun W => show Calls Tryz.prog 132 #[.int .i64 4] W (fun e w' => e = .returned (.tuple #[.agg #[.bool true, .bool true, .bool false, .bool true, .bool false, .bool false, .bool false, .bool false, .bool false], .bool true]) ∧ Below W.heap.size W w') from (rFields_4 W).mono fun e w' h => ⟨h.1.trans rfl, h.2⟩)
  have HM := Lib.hid (heap_alloc_new w (.cells #[.int .i64 4, .int .i64 v, .int .i64 s, .int .i64 c, .int .i64 t, .string (strB d), .slice P.x.1 x.length P.x.2, .int .i64 r.1, .int .i64 r.2, .slice P.b.1 b.length P.b.2, .slice P.p.1 p.length P.p.2, .slice P.q.1 0 P.q.2] 46))
  have HB := Lib.hid (alloc1B w (.cells #[.int .i64 4, .int .i64 v, .int .i64 s, .int .i64 c, .int .i64 t, .string (strB d), .slice P.x.1 x.length P.x.2, .int .i64 r.1, .int .i64 r.2, .slice P.b.1 b.length P.b.2, .slice P.p.1 p.length P.p.2, .slice P.q.1 0 P.q.2] 46))
  have HE := Lib.hid he
  clear hx hb hp ld lx lb lp hC he
  generalize putM ⟨4, v, s, c, t, d, x, r, b, p, []⟩ = L at *
  go_enter Tryz.func85, Tryz.ntmps85
  go_upto_region 1 with fail
  generalize hw0 : w.alloc _ = w0 at *
  clear hw0
  go_upto_region 3 with (first
    | (go_at_call 131; go_loud (refine (HCK.out _ HB.out).mono ?_; rintro e w1 ⟨rfl, hb⟩; have HM := Lib.hid (heapB HM.out hb); have HB := Lib.hid (bel2M HB.out hb); clear hb))
    | (refine wpList_load_mid rfl 46 _ rfl w.heap.size 0 rfl _ _ (heap_all HM.out) Tryz.underlying46 rfl (by kernel_rfl) ?_))
  have m0 := rowCell HM.out 0 (.int .i64 4) rfl
  go_upto_region 4 with (first
    | (go_at_call 132; go_loud (refine (HF.out _).mono ?_; rintro e w2 ⟨rfl, hb⟩; have HX := Lib.hid (heap_alloc_new w2 (.cells #[.bool true, .bool true, .bool false, .bool true, .bool false, .bool false, .bool false, .bool false, .bool false] 188)); have HM := Lib.hid (heapB (heapB HM.out hb) (alloc1B w2 (.cells #[.bool true, .bool true, .bool false, .bool true, .bool false, .bool false, .bool false, .bool false, .bool false] 188))); have HB := Lib.hid (bel2M (bel2M HB.out hb) (alloc1B w2 (.cells #[.bool true, .bool true, .bool false, .bool true, .bool false, .bool false, .bool false, .bool false, .bool false] 188))); clear hb)))
  generalize hw3 : w2.alloc _ = w3 at *
  clear hw3
  have HV := Lib.hid ((Wrt.nil w).next HB.out)
  have m0 := rowCell HM.out 0 (.int .i64 4) rfl
  have m1 := rowCell HM.out 1 (.int .i64 v) rfl
  have m2 := rowCell HM.out 2 (.int .i64 s) rfl
  have m5 := rowCell HM.out 5 (.string (strB d)) rfl
  have y0 := rowCell HX.out 0 (.bool true) rfl
  have y1 := rowCell HX.out 1 (.bool true) rfl
  have y2 := rowCell HX.out 2 (.bool false) rfl
  have y3 := rowCell HX.out 3 (.bool true) rfl
  have y4 := rowCell HX.out 4 (.bool false) rfl
  have y5 := rowCell HX.out 5 (.bool false) rfl
  have y6 := rowCell HX.out 6 (.bool false) rfl
  have y7 := rowCell HX.out 7 (.bool false) rfl
  have y8 := rowCell HX.out 8 (.bool false) rfl
  go_wp2_with (first
    | (go_at_call 114; go_loud (refine (wInt HV.out _ (by omega)).mono ?_; rintro e wj ⟨vj, rfl, hw, hb⟩; have HV := Lib.hid hw; have HM := Lib.hid (heapB HM.out hb); have HX := Lib.hid (heapB HX.out hb); have HB := Lib.hid (bel2M HB.out hb); have m0 := rowCell HM.out 0 (.int .i64 4) rfl; have m1 := rowCell HM.out 1 (.int .i64 v) rfl; have m2 := rowCell HM.out 2 (.int .i64 s) rfl; have m5 := rowCell HM.out 5 (.string (strB d)) rfl; have y0 := rowCell HX.out 0 (.bool true) rfl; have y1 := rowCell HX.out 1 (.bool true) rfl; have y2 := rowCell HX.out 2 (.bool false) rfl; have y3 := rowCell HX.out 3 (.bool true) rfl; have y4 := rowCell HX.out 4 (.bool false) rfl; have y5 := rowCell HX.out 5 (.bool false) rfl; have y6 := rowCell HX.out 6 (.bool false) rfl; have y7 := rowCell HX.out 7 (.bool false) rfl; have y8 := rowCell HX.out 8 (.bool false) rfl; clear hw hb; have HW1 := Lib.hid (bytesWorld_below wj 5 (strB d)); have HD1 := Lib.hid (bytesWorld_bsN wj d HDM.out d.length (grownCap wj d.length 0 5) rfl rfl)))
    | (go_at_call 113; go_loud (refine (wBytes (HV.out.next HW1.out) HD1.out HLD.out (by omega) (by decide)).mono ?_; rintro e wj ⟨vj, rfl, hw, hb1⟩; have hb := bel2M HW1.out hb1; clear hb1; have HV := Lib.hid hw; have HM := Lib.hid (heapB HM.out hb); have HX := Lib.hid (heapB HX.out hb); have HB := Lib.hid (bel2M HB.out hb); have m0 := rowCell HM.out 0 (.int .i64 4) rfl; have m1 := rowCell HM.out 1 (.int .i64 v) rfl; have m2 := rowCell HM.out 2 (.int .i64 s) rfl; have m5 := rowCell HM.out 5 (.string (strB d)) rfl; have y0 := rowCell HX.out 0 (.bool true) rfl; have y1 := rowCell HX.out 1 (.bool true) rfl; have y2 := rowCell HX.out 2 (.bool false) rfl; have y3 := rowCell HX.out 3 (.bool true) rfl; have y4 := rowCell HX.out 4 (.bool false) rfl; have y5 := rowCell HX.out 5 (.bool false) rfl; have y6 := rowCell HX.out 6 (.bool false) rfl; have y7 := rowCell HX.out 7 (.bool false) rfl; have y8 := rowCell HX.out 8 (.bool false) rfl; clear hw hb)))
  go_ret
  exact ⟨_, rfl, by rw [HE.out]; exact HV.out.own, HV.out.below⟩
set_option maxHeartbeats 4000000 in
theorem rEncode_5 (v s c t : Int) (d x : List UInt8) (r : Int × Int) (b p : List (Int × List UInt8)) (P : Plc) (w : World) (hx : Bs w (.slice P.x.1 x.length P.x.2) x) (hb : EnvK w P.b.1 P.b.2 b) (hp : EnvK w P.p.1 P.p.2 p) (ld : d.length ≤ 200000) (lx : x.length ≤ 200000) (lb : b.length ≤ 30 ∧ ∀ e ∈ b, e.2.length ≤ 100000) (lp : p.length ≤ 30 ∧ ∀ e ∈ p, e.2.length ≤ 100000) (hC : ∀ W, Below w.heap.size w W → Calls Tryz.prog 131 #[.agg #[.int .i64 5, .int .i64 v, .int .i64 s, .int .i64 c, .int .i64 t, .string (strB d), .slice P.x.1 x.length P.x.2, .int .i64 r.1, .int .i64 r.2, .slice P.b.1 b.length P.b.2, .slice P.p.1 p.length P.p.2, .slice P.q.1 0 P.q.2]] W (Ans (.int .i64 0) W)) :
    Calls Tryz.prog 85 #[.agg #[.int .i64 5, .int .i64 v, .int .i64 s, .int .i64 c, .int .i64 t, .string (strB d), .slice P.x.1 x.length P.x.2, .int .i64 r.1, .int .i64 r.2, .slice P.b.1 b.length P.b.2, .slice P.p.1 p.length P.p.2, .slice P.q.1 0 P.q.2]] w (Puts w (putM ⟨5, v, s, c, t, d, x, r, b, p, []⟩)) := by
  have he : putM ⟨5, v, s, c, t, d, x, r, b, p, []⟩ = [] ++ i8B 5 ++ i8B s ++ partB d := by
    unfold putM partsM
    simp [shapeM, numP, rowP, resP, lisP, countB, List.append_assoc]
  have hcv := conv_digest
  have hsz := strB_size d
  have HDM := Lib.hid (show d.length ≤ maxLen by unfold maxLen; omega)
  have HXX := Lib.hid hx
  have HBB := Lib.hid hb
  have HPP := Lib.hid hp
  have HLD := Lib.hid ld
  have HLX := Lib.hid lx
  have HLB := Lib.hid lb
  have HLP := Lib.hid lp
  have HCK := Lib.hid hC
  have HF := Lib.hid (fun W => show Calls Tryz.prog 132 #[.int .i64 5] W (fun e w' => e = .returned (.tuple #[.agg #[.bool false, .bool true, .bool false, .bool true, .bool false, .bool false, .bool false, .bool false, .bool false], .bool true]) ∧ Below W.heap.size W w') from (rFields_5 W).mono fun e w' h => ⟨h.1.trans rfl, h.2⟩)
  have HM := Lib.hid (heap_alloc_new w (.cells #[.int .i64 5, .int .i64 v, .int .i64 s, .int .i64 c, .int .i64 t, .string (strB d), .slice P.x.1 x.length P.x.2, .int .i64 r.1, .int .i64 r.2, .slice P.b.1 b.length P.b.2, .slice P.p.1 p.length P.p.2, .slice P.q.1 0 P.q.2] 46))
  have HB := Lib.hid (alloc1B w (.cells #[.int .i64 5, .int .i64 v, .int .i64 s, .int .i64 c, .int .i64 t, .string (strB d), .slice P.x.1 x.length P.x.2, .int .i64 r.1, .int .i64 r.2, .slice P.b.1 b.length P.b.2, .slice P.p.1 p.length P.p.2, .slice P.q.1 0 P.q.2] 46))
  have HE := Lib.hid he
  clear hx hb hp ld lx lb lp hC he
  generalize putM ⟨5, v, s, c, t, d, x, r, b, p, []⟩ = L at *
  go_enter Tryz.func85, Tryz.ntmps85
  go_upto_region 1 with fail
  generalize hw0 : w.alloc _ = w0 at *
  clear hw0
  go_upto_region 3 with (first
    | (go_at_call 131; go_loud (refine (HCK.out _ HB.out).mono ?_; rintro e w1 ⟨rfl, hb⟩; have HM := Lib.hid (heapB HM.out hb); have HB := Lib.hid (bel2M HB.out hb); clear hb))
    | (refine wpList_load_mid rfl 46 _ rfl w.heap.size 0 rfl _ _ (heap_all HM.out) Tryz.underlying46 rfl (by kernel_rfl) ?_))
  have m0 := rowCell HM.out 0 (.int .i64 5) rfl
  go_upto_region 4 with (first
    | (go_at_call 132; go_loud (refine (HF.out _).mono ?_; rintro e w2 ⟨rfl, hb⟩; have HX := Lib.hid (heap_alloc_new w2 (.cells #[.bool false, .bool true, .bool false, .bool true, .bool false, .bool false, .bool false, .bool false, .bool false] 188)); have HM := Lib.hid (heapB (heapB HM.out hb) (alloc1B w2 (.cells #[.bool false, .bool true, .bool false, .bool true, .bool false, .bool false, .bool false, .bool false, .bool false] 188))); have HB := Lib.hid (bel2M (bel2M HB.out hb) (alloc1B w2 (.cells #[.bool false, .bool true, .bool false, .bool true, .bool false, .bool false, .bool false, .bool false, .bool false] 188))); clear hb)))
  generalize hw3 : w2.alloc _ = w3 at *
  clear hw3
  have HV := Lib.hid ((Wrt.nil w).next HB.out)
  have m0 := rowCell HM.out 0 (.int .i64 5) rfl
  have m2 := rowCell HM.out 2 (.int .i64 s) rfl
  have m5 := rowCell HM.out 5 (.string (strB d)) rfl
  have y0 := rowCell HX.out 0 (.bool false) rfl
  have y1 := rowCell HX.out 1 (.bool true) rfl
  have y2 := rowCell HX.out 2 (.bool false) rfl
  have y3 := rowCell HX.out 3 (.bool true) rfl
  have y4 := rowCell HX.out 4 (.bool false) rfl
  have y5 := rowCell HX.out 5 (.bool false) rfl
  have y6 := rowCell HX.out 6 (.bool false) rfl
  have y7 := rowCell HX.out 7 (.bool false) rfl
  have y8 := rowCell HX.out 8 (.bool false) rfl
  go_wp2_with (first
    | (go_at_call 114; go_loud (refine (wInt HV.out _ (by omega)).mono ?_; rintro e wj ⟨vj, rfl, hw, hb⟩; have HV := Lib.hid hw; have HM := Lib.hid (heapB HM.out hb); have HX := Lib.hid (heapB HX.out hb); have HB := Lib.hid (bel2M HB.out hb); have m0 := rowCell HM.out 0 (.int .i64 5) rfl; have m2 := rowCell HM.out 2 (.int .i64 s) rfl; have m5 := rowCell HM.out 5 (.string (strB d)) rfl; have y0 := rowCell HX.out 0 (.bool false) rfl; have y1 := rowCell HX.out 1 (.bool true) rfl; have y2 := rowCell HX.out 2 (.bool false) rfl; have y3 := rowCell HX.out 3 (.bool true) rfl; have y4 := rowCell HX.out 4 (.bool false) rfl; have y5 := rowCell HX.out 5 (.bool false) rfl; have y6 := rowCell HX.out 6 (.bool false) rfl; have y7 := rowCell HX.out 7 (.bool false) rfl; have y8 := rowCell HX.out 8 (.bool false) rfl; clear hw hb; have HW1 := Lib.hid (bytesWorld_below wj 5 (strB d)); have HD1 := Lib.hid (bytesWorld_bsN wj d HDM.out d.length (grownCap wj d.length 0 5) rfl rfl)))
    | (go_at_call 113; go_loud (refine (wBytes (HV.out.next HW1.out) HD1.out HLD.out (by omega) (by decide)).mono ?_; rintro e wj ⟨vj, rfl, hw, hb1⟩; have hb := bel2M HW1.out hb1; clear hb1; have HV := Lib.hid hw; have HM := Lib.hid (heapB HM.out hb); have HX := Lib.hid (heapB HX.out hb); have HB := Lib.hid (bel2M HB.out hb); have m0 := rowCell HM.out 0 (.int .i64 5) rfl; have m2 := rowCell HM.out 2 (.int .i64 s) rfl; have m5 := rowCell HM.out 5 (.string (strB d)) rfl; have y0 := rowCell HX.out 0 (.bool false) rfl; have y1 := rowCell HX.out 1 (.bool true) rfl; have y2 := rowCell HX.out 2 (.bool false) rfl; have y3 := rowCell HX.out 3 (.bool true) rfl; have y4 := rowCell HX.out 4 (.bool false) rfl; have y5 := rowCell HX.out 5 (.bool false) rfl; have y6 := rowCell HX.out 6 (.bool false) rfl; have y7 := rowCell HX.out 7 (.bool false) rfl; have y8 := rowCell HX.out 8 (.bool false) rfl; clear hw hb)))
  go_ret
  exact ⟨_, rfl, by rw [HE.out]; exact HV.out.own, HV.out.below⟩
set_option maxHeartbeats 4000000 in
theorem rEncode_6 (v s c t : Int) (d x : List UInt8) (r : Int × Int) (b p : List (Int × List UInt8)) (P : Plc) (w : World) (hx : Bs w (.slice P.x.1 x.length P.x.2) x) (hb : EnvK w P.b.1 P.b.2 b) (hp : EnvK w P.p.1 P.p.2 p) (ld : d.length ≤ 200000) (lx : x.length ≤ 200000) (lb : b.length ≤ 30 ∧ ∀ e ∈ b, e.2.length ≤ 100000) (lp : p.length ≤ 30 ∧ ∀ e ∈ p, e.2.length ≤ 100000) (hC : ∀ W, Below w.heap.size w W → Calls Tryz.prog 131 #[.agg #[.int .i64 6, .int .i64 v, .int .i64 s, .int .i64 c, .int .i64 t, .string (strB d), .slice P.x.1 x.length P.x.2, .int .i64 r.1, .int .i64 r.2, .slice P.b.1 b.length P.b.2, .slice P.p.1 p.length P.p.2, .slice P.q.1 0 P.q.2]] W (Ans (.int .i64 0) W)) :
    Calls Tryz.prog 85 #[.agg #[.int .i64 6, .int .i64 v, .int .i64 s, .int .i64 c, .int .i64 t, .string (strB d), .slice P.x.1 x.length P.x.2, .int .i64 r.1, .int .i64 r.2, .slice P.b.1 b.length P.b.2, .slice P.p.1 p.length P.p.2, .slice P.q.1 0 P.q.2]] w (Puts w (putM ⟨6, v, s, c, t, d, x, r, b, p, []⟩)) := by
  have he : putM ⟨6, v, s, c, t, d, x, r, b, p, []⟩ = [] ++ i8B 6 ++ i8B v ++ i8B s ++ (be 4 b.length ++ b.flatMap envW) ++ be 4 0 := by
    unfold putM partsM
    simp [shapeM, numP, rowP, resP, lisP, countB, List.append_assoc]
  have hcv := conv_digest
  have hsz := strB_size d
  have HDM := Lib.hid (show d.length ≤ maxLen by unfold maxLen; omega)
  have HXX := Lib.hid hx
  have HBB := Lib.hid hb
  have HPP := Lib.hid hp
  have HLD := Lib.hid ld
  have HLX := Lib.hid lx
  have HLB := Lib.hid lb
  have HLP := Lib.hid lp
  have HCK := Lib.hid hC
  have HF := Lib.hid (fun W => show Calls Tryz.prog 132 #[.int .i64 6] W (fun e w' => e = .returned (.tuple #[.agg #[.bool true, .bool true, .bool false, .bool false, .bool false, .bool false, .bool true, .bool false, .bool true], .bool true]) ∧ Below W.heap.size W w') from (rFields_6 W).mono fun e w' h => ⟨h.1.trans rfl, h.2⟩)
  have HM := Lib.hid (heap_alloc_new w (.cells #[.int .i64 6, .int .i64 v, .int .i64 s, .int .i64 c, .int .i64 t, .string (strB d), .slice P.x.1 x.length P.x.2, .int .i64 r.1, .int .i64 r.2, .slice P.b.1 b.length P.b.2, .slice P.p.1 p.length P.p.2, .slice P.q.1 0 P.q.2] 46))
  have HB := Lib.hid (alloc1B w (.cells #[.int .i64 6, .int .i64 v, .int .i64 s, .int .i64 c, .int .i64 t, .string (strB d), .slice P.x.1 x.length P.x.2, .int .i64 r.1, .int .i64 r.2, .slice P.b.1 b.length P.b.2, .slice P.p.1 p.length P.p.2, .slice P.q.1 0 P.q.2] 46))
  have HE := Lib.hid he
  clear hx hb hp ld lx lb lp hC he
  generalize putM ⟨6, v, s, c, t, d, x, r, b, p, []⟩ = L at *
  go_enter Tryz.func85, Tryz.ntmps85
  go_upto_region 1 with fail
  generalize hw0 : w.alloc _ = w0 at *
  clear hw0
  go_upto_region 3 with (first
    | (go_at_call 131; go_loud (refine (HCK.out _ HB.out).mono ?_; rintro e w1 ⟨rfl, hb⟩; have HM := Lib.hid (heapB HM.out hb); have HB := Lib.hid (bel2M HB.out hb); clear hb))
    | (refine wpList_load_mid rfl 46 _ rfl w.heap.size 0 rfl _ _ (heap_all HM.out) Tryz.underlying46 rfl (by kernel_rfl) ?_))
  have m0 := rowCell HM.out 0 (.int .i64 6) rfl
  go_upto_region 4 with (first
    | (go_at_call 132; go_loud (refine (HF.out _).mono ?_; rintro e w2 ⟨rfl, hb⟩; have HX := Lib.hid (heap_alloc_new w2 (.cells #[.bool true, .bool true, .bool false, .bool false, .bool false, .bool false, .bool true, .bool false, .bool true] 188)); have HM := Lib.hid (heapB (heapB HM.out hb) (alloc1B w2 (.cells #[.bool true, .bool true, .bool false, .bool false, .bool false, .bool false, .bool true, .bool false, .bool true] 188))); have HB := Lib.hid (bel2M (bel2M HB.out hb) (alloc1B w2 (.cells #[.bool true, .bool true, .bool false, .bool false, .bool false, .bool false, .bool true, .bool false, .bool true] 188))); clear hb)))
  generalize hw3 : w2.alloc _ = w3 at *
  clear hw3
  have HV := Lib.hid ((Wrt.nil w).next HB.out)
  have m0 := rowCell HM.out 0 (.int .i64 6) rfl
  have m1 := rowCell HM.out 1 (.int .i64 v) rfl
  have m2 := rowCell HM.out 2 (.int .i64 s) rfl
  have m9 := rowCell HM.out 9 (.slice P.b.1 b.length P.b.2) rfl
  have m11 := rowCell HM.out 11 (.slice P.q.1 0 P.q.2) rfl
  have y0 := rowCell HX.out 0 (.bool true) rfl
  have y1 := rowCell HX.out 1 (.bool true) rfl
  have y2 := rowCell HX.out 2 (.bool false) rfl
  have y3 := rowCell HX.out 3 (.bool false) rfl
  have y4 := rowCell HX.out 4 (.bool false) rfl
  have y5 := rowCell HX.out 5 (.bool false) rfl
  have y6 := rowCell HX.out 6 (.bool true) rfl
  have y7 := rowCell HX.out 7 (.bool false) rfl
  have y8 := rowCell HX.out 8 (.bool true) rfl
  go_upto_region 23 with (first
    | (go_at_call 114; go_loud (refine (wInt HV.out _ (by omega)).mono ?_; rintro e wj ⟨vj, rfl, hw, hb⟩; have HV := Lib.hid hw; have HM := Lib.hid (heapB HM.out hb); have HX := Lib.hid (heapB HX.out hb); have HB := Lib.hid (bel2M HB.out hb); have m0 := rowCell HM.out 0 (.int .i64 6) rfl; have m1 := rowCell HM.out 1 (.int .i64 v) rfl; have m2 := rowCell HM.out 2 (.int .i64 s) rfl; have m9 := rowCell HM.out 9 (.slice P.b.1 b.length P.b.2) rfl; have m11 := rowCell HM.out 11 (.slice P.q.1 0 P.q.2) rfl; have y0 := rowCell HX.out 0 (.bool true) rfl; have y1 := rowCell HX.out 1 (.bool true) rfl; have y2 := rowCell HX.out 2 (.bool false) rfl; have y3 := rowCell HX.out 3 (.bool false) rfl; have y4 := rowCell HX.out 4 (.bool false) rfl; have y5 := rowCell HX.out 5 (.bool false) rfl; have y6 := rowCell HX.out 6 (.bool true) rfl; have y7 := rowCell HX.out 7 (.bool false) rfl; have y8 := rowCell HX.out 8 (.bool true) rfl; clear hw hb))
    | (go_at_call_of 133 (Value.slice P.b.1 b.length P.b.2); go_loud (refine (wList HV.out (HBB.out.below HB.out) (by have := HLB.out.1; omega) HLB.out.2 (by have := HLB.out.1; omega) (by decide)).mono ?_; rintro e wj ⟨vj, rfl, hw, hb⟩; have HV := Lib.hid hw; have HM := Lib.hid (heapB HM.out hb); have HX := Lib.hid (heapB HX.out hb); have HB := Lib.hid (bel2M HB.out hb); have m0 := rowCell HM.out 0 (.int .i64 6) rfl; have m1 := rowCell HM.out 1 (.int .i64 v) rfl; have m2 := rowCell HM.out 2 (.int .i64 s) rfl; have m9 := rowCell HM.out 9 (.slice P.b.1 b.length P.b.2) rfl; have m11 := rowCell HM.out 11 (.slice P.q.1 0 P.q.2) rfl; have y0 := rowCell HX.out 0 (.bool true) rfl; have y1 := rowCell HX.out 1 (.bool true) rfl; have y2 := rowCell HX.out 2 (.bool false) rfl; have y3 := rowCell HX.out 3 (.bool false) rfl; have y4 := rowCell HX.out 4 (.bool false) rfl; have y5 := rowCell HX.out 5 (.bool false) rfl; have y6 := rowCell HX.out 6 (.bool true) rfl; have y7 := rowCell HX.out 7 (.bool false) rfl; have y8 := rowCell HX.out 8 (.bool true) rfl; clear hw hb))
    | (go_at_call 115; go_loud (refine (wCount HV.out 0 (by decide) (by have := HLB.out.1; omega)).mono ?_; rintro e wj ⟨vj, rfl, hw, hb⟩; have HV := Lib.hid hw; have HM := Lib.hid (heapB HM.out hb); have HX := Lib.hid (heapB HX.out hb); have HB := Lib.hid (bel2M HB.out hb); have m0 := rowCell HM.out 0 (.int .i64 6) rfl; have m1 := rowCell HM.out 1 (.int .i64 v) rfl; have m2 := rowCell HM.out 2 (.int .i64 s) rfl; have m9 := rowCell HM.out 9 (.slice P.b.1 b.length P.b.2) rfl; have m11 := rowCell HM.out 11 (.slice P.q.1 0 P.q.2) rfl; have y0 := rowCell HX.out 0 (.bool true) rfl; have y1 := rowCell HX.out 1 (.bool true) rfl; have y2 := rowCell HX.out 2 (.bool false) rfl; have y3 := rowCell HX.out 3 (.bool false) rfl; have y4 := rowCell HX.out 4 (.bool false) rfl; have y5 := rowCell HX.out 5 (.bool false) rfl; have y6 := rowCell HX.out 6 (.bool true) rfl; have y7 := rowCell HX.out 7 (.bool false) rfl; have y8 := rowCell HX.out 8 (.bool true) rfl; clear hw hb)))
  have HMQ := Lib.hid HM.out
  go_wp2
  go_loopw [5, 6] (fun u i wr => u = vj ∧ i = .int .i64 0 ∧ wr = wj) (fun _ i _ => 0)
  case atStart => exact ⟨(by first | rfl | trivial), rfl, (by first | rfl | trivial)⟩
  case round =>
    obtain ⟨rfl, rfl, rfl⟩ := hrel
    go_wp2
    go_ret
    exact ⟨_, rfl, by rw [HE.out]; exact HV.out.own, HV.out.below⟩
set_option maxHeartbeats 4000000 in
theorem rEncode_7 (v s c t : Int) (d x : List UInt8) (r : Int × Int) (b p : List (Int × List UInt8)) (P : Plc) (w : World) (hx : Bs w (.slice P.x.1 x.length P.x.2) x) (hb : EnvK w P.b.1 P.b.2 b) (hp : EnvK w P.p.1 P.p.2 p) (ld : d.length ≤ 200000) (lx : x.length ≤ 200000) (lb : b.length ≤ 30 ∧ ∀ e ∈ b, e.2.length ≤ 100000) (lp : p.length ≤ 30 ∧ ∀ e ∈ p, e.2.length ≤ 100000) (hC : ∀ W, Below w.heap.size w W → Calls Tryz.prog 131 #[.agg #[.int .i64 7, .int .i64 v, .int .i64 s, .int .i64 c, .int .i64 t, .string (strB d), .slice P.x.1 x.length P.x.2, .int .i64 r.1, .int .i64 r.2, .slice P.b.1 b.length P.b.2, .slice P.p.1 p.length P.p.2, .slice P.q.1 0 P.q.2]] W (Ans (.int .i64 0) W)) :
    Calls Tryz.prog 85 #[.agg #[.int .i64 7, .int .i64 v, .int .i64 s, .int .i64 c, .int .i64 t, .string (strB d), .slice P.x.1 x.length P.x.2, .int .i64 r.1, .int .i64 r.2, .slice P.b.1 b.length P.b.2, .slice P.p.1 p.length P.p.2, .slice P.q.1 0 P.q.2]] w (Puts w (putM ⟨7, v, s, c, t, d, x, r, b, p, []⟩)) := by
  have he : putM ⟨7, v, s, c, t, d, x, r, b, p, []⟩ = [] ++ i8B 7 ++ i8B v ++ (be 4 b.length ++ b.flatMap envW) ++ (be 4 p.length ++ p.flatMap envW) := by
    unfold putM partsM
    simp [shapeM, numP, rowP, resP, lisP, countB, List.append_assoc]
  have hcv := conv_digest
  have hsz := strB_size d
  have HDM := Lib.hid (show d.length ≤ maxLen by unfold maxLen; omega)
  have HXX := Lib.hid hx
  have HBB := Lib.hid hb
  have HPP := Lib.hid hp
  have HLD := Lib.hid ld
  have HLX := Lib.hid lx
  have HLB := Lib.hid lb
  have HLP := Lib.hid lp
  have HCK := Lib.hid hC
  have HF := Lib.hid (fun W => show Calls Tryz.prog 132 #[.int .i64 7] W (fun e w' => e = .returned (.tuple #[.agg #[.bool true, .bool false, .bool false, .bool false, .bool false, .bool false, .bool true, .bool true, .bool false], .bool true]) ∧ Below W.heap.size W w') from (rFields_7 W).mono fun e w' h => ⟨h.1.trans rfl, h.2⟩)
  have HM := Lib.hid (heap_alloc_new w (.cells #[.int .i64 7, .int .i64 v, .int .i64 s, .int .i64 c, .int .i64 t, .string (strB d), .slice P.x.1 x.length P.x.2, .int .i64 r.1, .int .i64 r.2, .slice P.b.1 b.length P.b.2, .slice P.p.1 p.length P.p.2, .slice P.q.1 0 P.q.2] 46))
  have HB := Lib.hid (alloc1B w (.cells #[.int .i64 7, .int .i64 v, .int .i64 s, .int .i64 c, .int .i64 t, .string (strB d), .slice P.x.1 x.length P.x.2, .int .i64 r.1, .int .i64 r.2, .slice P.b.1 b.length P.b.2, .slice P.p.1 p.length P.p.2, .slice P.q.1 0 P.q.2] 46))
  have HE := Lib.hid he
  clear hx hb hp ld lx lb lp hC he
  generalize putM ⟨7, v, s, c, t, d, x, r, b, p, []⟩ = L at *
  go_enter Tryz.func85, Tryz.ntmps85
  go_upto_region 1 with fail
  generalize hw0 : w.alloc _ = w0 at *
  clear hw0
  go_upto_region 3 with (first
    | (go_at_call 131; go_loud (refine (HCK.out _ HB.out).mono ?_; rintro e w1 ⟨rfl, hb⟩; have HM := Lib.hid (heapB HM.out hb); have HB := Lib.hid (bel2M HB.out hb); clear hb))
    | (refine wpList_load_mid rfl 46 _ rfl w.heap.size 0 rfl _ _ (heap_all HM.out) Tryz.underlying46 rfl (by kernel_rfl) ?_))
  have m0 := rowCell HM.out 0 (.int .i64 7) rfl
  go_upto_region 4 with (first
    | (go_at_call 132; go_loud (refine (HF.out _).mono ?_; rintro e w2 ⟨rfl, hb⟩; have HX := Lib.hid (heap_alloc_new w2 (.cells #[.bool true, .bool false, .bool false, .bool false, .bool false, .bool false, .bool true, .bool true, .bool false] 188)); have HM := Lib.hid (heapB (heapB HM.out hb) (alloc1B w2 (.cells #[.bool true, .bool false, .bool false, .bool false, .bool false, .bool false, .bool true, .bool true, .bool false] 188))); have HB := Lib.hid (bel2M (bel2M HB.out hb) (alloc1B w2 (.cells #[.bool true, .bool false, .bool false, .bool false, .bool false, .bool false, .bool true, .bool true, .bool false] 188))); clear hb)))
  generalize hw3 : w2.alloc _ = w3 at *
  clear hw3
  have HV := Lib.hid ((Wrt.nil w).next HB.out)
  have m0 := rowCell HM.out 0 (.int .i64 7) rfl
  have m1 := rowCell HM.out 1 (.int .i64 v) rfl
  have m9 := rowCell HM.out 9 (.slice P.b.1 b.length P.b.2) rfl
  have m10 := rowCell HM.out 10 (.slice P.p.1 p.length P.p.2) rfl
  have y0 := rowCell HX.out 0 (.bool true) rfl
  have y1 := rowCell HX.out 1 (.bool false) rfl
  have y2 := rowCell HX.out 2 (.bool false) rfl
  have y3 := rowCell HX.out 3 (.bool false) rfl
  have y4 := rowCell HX.out 4 (.bool false) rfl
  have y5 := rowCell HX.out 5 (.bool false) rfl
  have y6 := rowCell HX.out 6 (.bool true) rfl
  have y7 := rowCell HX.out 7 (.bool true) rfl
  have y8 := rowCell HX.out 8 (.bool false) rfl
  go_wp2_with (first
    | (go_at_call 114; go_loud (refine (wInt HV.out _ (by omega)).mono ?_; rintro e wj ⟨vj, rfl, hw, hb⟩; have HV := Lib.hid hw; have HM := Lib.hid (heapB HM.out hb); have HX := Lib.hid (heapB HX.out hb); have HB := Lib.hid (bel2M HB.out hb); have m0 := rowCell HM.out 0 (.int .i64 7) rfl; have m1 := rowCell HM.out 1 (.int .i64 v) rfl; have m9 := rowCell HM.out 9 (.slice P.b.1 b.length P.b.2) rfl; have m10 := rowCell HM.out 10 (.slice P.p.1 p.length P.p.2) rfl; have y0 := rowCell HX.out 0 (.bool true) rfl; have y1 := rowCell HX.out 1 (.bool false) rfl; have y2 := rowCell HX.out 2 (.bool false) rfl; have y3 := rowCell HX.out 3 (.bool false) rfl; have y4 := rowCell HX.out 4 (.bool false) rfl; have y5 := rowCell HX.out 5 (.bool false) rfl; have y6 := rowCell HX.out 6 (.bool true) rfl; have y7 := rowCell HX.out 7 (.bool true) rfl; have y8 := rowCell HX.out 8 (.bool false) rfl; clear hw hb))
    | (go_at_call_of 133 (Value.slice P.b.1 b.length P.b.2); go_loud (refine (wList HV.out (HBB.out.below HB.out) (by have := HLB.out.1; omega) HLB.out.2 (by have := HLB.out.1; omega) (by decide)).mono ?_; rintro e wj ⟨vj, rfl, hw, hb⟩; have HV := Lib.hid hw; have HM := Lib.hid (heapB HM.out hb); have HX := Lib.hid (heapB HX.out hb); have HB := Lib.hid (bel2M HB.out hb); have m0 := rowCell HM.out 0 (.int .i64 7) rfl; have m1 := rowCell HM.out 1 (.int .i64 v) rfl; have m9 := rowCell HM.out 9 (.slice P.b.1 b.length P.b.2) rfl; have m10 := rowCell HM.out 10 (.slice P.p.1 p.length P.p.2) rfl; have y0 := rowCell HX.out 0 (.bool true) rfl; have y1 := rowCell HX.out 1 (.bool false) rfl; have y2 := rowCell HX.out 2 (.bool false) rfl; have y3 := rowCell HX.out 3 (.bool false) rfl; have y4 := rowCell HX.out 4 (.bool false) rfl; have y5 := rowCell HX.out 5 (.bool false) rfl; have y6 := rowCell HX.out 6 (.bool true) rfl; have y7 := rowCell HX.out 7 (.bool true) rfl; have y8 := rowCell HX.out 8 (.bool false) rfl; clear hw hb))
    | (go_at_call_of 133 (Value.slice P.p.1 p.length P.p.2); go_loud (refine (wList HV.out (HPP.out.below HB.out) (by have := HLP.out.1; omega) HLP.out.2 (by have := HLP.out.1; have := HLB.out.1; omega) (by decide)).mono ?_; rintro e wj ⟨vj, rfl, hw, hb⟩; have HV := Lib.hid hw; have HM := Lib.hid (heapB HM.out hb); have HX := Lib.hid (heapB HX.out hb); have HB := Lib.hid (bel2M HB.out hb); have m0 := rowCell HM.out 0 (.int .i64 7) rfl; have m1 := rowCell HM.out 1 (.int .i64 v) rfl; have m9 := rowCell HM.out 9 (.slice P.b.1 b.length P.b.2) rfl; have m10 := rowCell HM.out 10 (.slice P.p.1 p.length P.p.2) rfl; have y0 := rowCell HX.out 0 (.bool true) rfl; have y1 := rowCell HX.out 1 (.bool false) rfl; have y2 := rowCell HX.out 2 (.bool false) rfl; have y3 := rowCell HX.out 3 (.bool false) rfl; have y4 := rowCell HX.out 4 (.bool false) rfl; have y5 := rowCell HX.out 5 (.bool false) rfl; have y6 := rowCell HX.out 6 (.bool true) rfl; have y7 := rowCell HX.out 7 (.bool true) rfl; have y8 := rowCell HX.out 8 (.bool false) rfl; clear hw hb)))
  go_ret
  exact ⟨_, rfl, by rw [HE.out]; exact HV.out.own, HV.out.below⟩
set_option maxHeartbeats 4000000 in
theorem rEncode_8 (v s c t : Int) (d x : List UInt8) (r : Int × Int) (b p : List (Int × List UInt8)) (P : Plc) (w : World) (hx : Bs w (.slice P.x.1 x.length P.x.2) x) (hb : EnvK w P.b.1 P.b.2 b) (hp : EnvK w P.p.1 P.p.2 p) (ld : d.length ≤ 200000) (lx : x.length ≤ 200000) (lb : b.length ≤ 30 ∧ ∀ e ∈ b, e.2.length ≤ 100000) (lp : p.length ≤ 30 ∧ ∀ e ∈ p, e.2.length ≤ 100000) (hC : ∀ W, Below w.heap.size w W → Calls Tryz.prog 131 #[.agg #[.int .i64 8, .int .i64 v, .int .i64 s, .int .i64 c, .int .i64 t, .string (strB d), .slice P.x.1 x.length P.x.2, .int .i64 r.1, .int .i64 r.2, .slice P.b.1 b.length P.b.2, .slice P.p.1 p.length P.p.2, .slice P.q.1 0 P.q.2]] W (Ans (.int .i64 0) W)) :
    Calls Tryz.prog 85 #[.agg #[.int .i64 8, .int .i64 v, .int .i64 s, .int .i64 c, .int .i64 t, .string (strB d), .slice P.x.1 x.length P.x.2, .int .i64 r.1, .int .i64 r.2, .slice P.b.1 b.length P.b.2, .slice P.p.1 p.length P.p.2, .slice P.q.1 0 P.q.2]] w (Puts w (putM ⟨8, v, s, c, t, d, x, r, b, p, []⟩)) := by
  have he : putM ⟨8, v, s, c, t, d, x, r, b, p, []⟩ = [] ++ i8B 8 ++ i8B v ++ i8B c ++ i8B t ++ i8B r.1 ++ i8B r.2 := by
    unfold putM partsM
    simp [shapeM, numP, rowP, resP, lisP, countB, List.append_assoc]
  have hcv := conv_digest
  have hsz := strB_size d
  have HDM := Lib.hid (show d.length ≤ maxLen by unfold maxLen; omega)
  have HXX := Lib.hid hx
  have HBB := Lib.hid hb
  have HPP := Lib.hid hp
  have HLD := Lib.hid ld
  have HLX := Lib.hid lx
  have HLB := Lib.hid lb
  have HLP := Lib.hid lp
  have HCK := Lib.hid hC
  have HF := Lib.hid (fun W => show Calls Tryz.prog 132 #[.int .i64 8] W (fun e w' => e = .returned (.tuple #[.agg #[.bool true, .bool false, .bool true, .bool false, .bool false, .bool true, .bool false, .bool false, .bool false], .bool true]) ∧ Below W.heap.size W w') from (rFields_8 W).mono fun e w' h => ⟨h.1.trans rfl, h.2⟩)
  have HM := Lib.hid (heap_alloc_new w (.cells #[.int .i64 8, .int .i64 v, .int .i64 s, .int .i64 c, .int .i64 t, .string (strB d), .slice P.x.1 x.length P.x.2, .int .i64 r.1, .int .i64 r.2, .slice P.b.1 b.length P.b.2, .slice P.p.1 p.length P.p.2, .slice P.q.1 0 P.q.2] 46))
  have HB := Lib.hid (alloc1B w (.cells #[.int .i64 8, .int .i64 v, .int .i64 s, .int .i64 c, .int .i64 t, .string (strB d), .slice P.x.1 x.length P.x.2, .int .i64 r.1, .int .i64 r.2, .slice P.b.1 b.length P.b.2, .slice P.p.1 p.length P.p.2, .slice P.q.1 0 P.q.2] 46))
  have HE := Lib.hid he
  clear hx hb hp ld lx lb lp hC he
  generalize putM ⟨8, v, s, c, t, d, x, r, b, p, []⟩ = L at *
  go_enter Tryz.func85, Tryz.ntmps85
  go_upto_region 1 with fail
  generalize hw0 : w.alloc _ = w0 at *
  clear hw0
  go_upto_region 3 with (first
    | (go_at_call 131; go_loud (refine (HCK.out _ HB.out).mono ?_; rintro e w1 ⟨rfl, hb⟩; have HM := Lib.hid (heapB HM.out hb); have HB := Lib.hid (bel2M HB.out hb); clear hb))
    | (refine wpList_load_mid rfl 46 _ rfl w.heap.size 0 rfl _ _ (heap_all HM.out) Tryz.underlying46 rfl (by kernel_rfl) ?_))
  have m0 := rowCell HM.out 0 (.int .i64 8) rfl
  go_upto_region 4 with (first
    | (go_at_call 132; go_loud (refine (HF.out _).mono ?_; rintro e w2 ⟨rfl, hb⟩; have HX := Lib.hid (heap_alloc_new w2 (.cells #[.bool true, .bool false, .bool true, .bool false, .bool false, .bool true, .bool false, .bool false, .bool false] 188)); have HM := Lib.hid (heapB (heapB HM.out hb) (alloc1B w2 (.cells #[.bool true, .bool false, .bool true, .bool false, .bool false, .bool true, .bool false, .bool false, .bool false] 188))); have HB := Lib.hid (bel2M (bel2M HB.out hb) (alloc1B w2 (.cells #[.bool true, .bool false, .bool true, .bool false, .bool false, .bool true, .bool false, .bool false, .bool false] 188))); clear hb)))
  generalize hw3 : w2.alloc _ = w3 at *
  clear hw3
  have HV := Lib.hid ((Wrt.nil w).next HB.out)
  have m0 := rowCell HM.out 0 (.int .i64 8) rfl
  have m1 := rowCell HM.out 1 (.int .i64 v) rfl
  have m3 := rowCell HM.out 3 (.int .i64 c) rfl
  have m4 := rowCell HM.out 4 (.int .i64 t) rfl
  have m7 := rowCell HM.out 7 (.int .i64 r.1) rfl
  have m8 := rowCell HM.out 8 (.int .i64 r.2) rfl
  have y0 := rowCell HX.out 0 (.bool true) rfl
  have y1 := rowCell HX.out 1 (.bool false) rfl
  have y2 := rowCell HX.out 2 (.bool true) rfl
  have y3 := rowCell HX.out 3 (.bool false) rfl
  have y4 := rowCell HX.out 4 (.bool false) rfl
  have y5 := rowCell HX.out 5 (.bool true) rfl
  have y6 := rowCell HX.out 6 (.bool false) rfl
  have y7 := rowCell HX.out 7 (.bool false) rfl
  have y8 := rowCell HX.out 8 (.bool false) rfl
  go_upto_region 10 with (first
    | (go_at_call 114; go_loud (refine (wInt HV.out _ (by omega)).mono ?_; rintro e wj ⟨vj, rfl, hw, hb⟩; have HV := Lib.hid hw; have HM := Lib.hid (heapB HM.out hb); have HX := Lib.hid (heapB HX.out hb); have HB := Lib.hid (bel2M HB.out hb); have m0 := rowCell HM.out 0 (.int .i64 8) rfl; have m1 := rowCell HM.out 1 (.int .i64 v) rfl; have m3 := rowCell HM.out 3 (.int .i64 c) rfl; have m4 := rowCell HM.out 4 (.int .i64 t) rfl; have m7 := rowCell HM.out 7 (.int .i64 r.1) rfl; have m8 := rowCell HM.out 8 (.int .i64 r.2) rfl; have y0 := rowCell HX.out 0 (.bool true) rfl; have y1 := rowCell HX.out 1 (.bool false) rfl; have y2 := rowCell HX.out 2 (.bool true) rfl; have y3 := rowCell HX.out 3 (.bool false) rfl; have y4 := rowCell HX.out 4 (.bool false) rfl; have y5 := rowCell HX.out 5 (.bool true) rfl; have y6 := rowCell HX.out 6 (.bool false) rfl; have y7 := rowCell HX.out 7 (.bool false) rfl; have y8 := rowCell HX.out 8 (.bool false) rfl; clear hw hb)))
  have HK1 := Lib.hid (show ∀ W, Below wj.heap.size wj W → SPe wj ⟨w.heap.size, 3, none⟩ ⟨w.heap.size, 4, none⟩ (.int .i64 c) (.int .i64 t) W from fun W h => ⟨h, cellB (rowCell HM.out 3 _ rfl) h, cellB (rowCell HM.out 4 _ rfl) h⟩)
  have HD := Lib.hid (HK1.out wj.drew (Below.refl _ _).drew)
  go_region_held3 (SPe wj ⟨w.heap.size, 3, none⟩ ⟨w.heap.size, 4, none⟩ (.int .i64 c) (.int .i64 t)) (first | exact HD.out | exact HD1.out | exact HD2.out) (first
    | (go_at_call_of 114 ([Value.int .i64 c]); go_loud (refine (wInt (HV.out.next HD.out.1) _ (by omega)).mono ?_; rintro e wa ⟨va, rfl, hw, hb⟩; have HVA := Lib.hid hw; have HD1 := Lib.hid (HK1.out _ (bel2M HD.out.1 hb)); clear hw hb))
    | (go_at_call_of 114 ([Value.int .i64 t]); go_loud (refine (wInt HVA.out _ (by omega)).mono ?_; rintro e wb ⟨vb, rfl, hw, hb⟩; have HVB := Lib.hid hw; have HD2 := Lib.hid (HK1.out _ (bel2M HD1.out.1 hb)); clear hw hb)))
  have HV := HVB
  have HM := Lib.hid (heapB HM.out HD2.out.1)
  have HX := Lib.hid (heapB HX.out HD2.out.1)
  have HB := Lib.hid (bel2M HB.out HD2.out.1)
  have m0 := rowCell HM.out 0 (.int .i64 8) rfl
  have m1 := rowCell HM.out 1 (.int .i64 v) rfl
  have m3 := rowCell HM.out 3 (.int .i64 c) rfl
  have m4 := rowCell HM.out 4 (.int .i64 t) rfl
  have m7 := rowCell HM.out 7 (.int .i64 r.1) rfl
  have m8 := rowCell HM.out 8 (.int .i64 r.2) rfl
  have y0 := rowCell HX.out 0 (.bool true) rfl
  have y1 := rowCell HX.out 1 (.bool false) rfl
  have y2 := rowCell HX.out 2 (.bool true) rfl
  have y3 := rowCell HX.out 3 (.bool false) rfl
  have y4 := rowCell HX.out 4 (.bool false) rfl
  have y5 := rowCell HX.out 5 (.bool true) rfl
  have y6 := rowCell HX.out 6 (.bool false) rfl
  have y7 := rowCell HX.out 7 (.bool false) rfl
  have y8 := rowCell HX.out 8 (.bool false) rfl
  go_upto_region 16 with fail
  have HK1 := Lib.hid (show ∀ W, Below wb.heap.size wb W → SPe wb ⟨w.heap.size, 7, none⟩ ⟨w.heap.size, 8, none⟩ (.int .i64 r.1) (.int .i64 r.2) W from fun W h => ⟨h, cellB (rowCell HM.out 7 _ rfl) h, cellB (rowCell HM.out 8 _ rfl) h⟩)
  have HD := Lib.hid (HK1.out wb.drew (Below.refl _ _).drew)
  go_region_held3 (SPe wb ⟨w.heap.size, 7, none⟩ ⟨w.heap.size, 8, none⟩ (.int .i64 r.1) (.int .i64 r.2)) (first | exact HD.out | exact HD1.out | exact HD2.out) (first
    | (go_at_call_of 114 ([Value.int .i64 r.1]); go_loud (refine (wInt (HV.out.next HD.out.1) _ (by omega)).mono ?_; rintro e wa ⟨va, rfl, hw, hb⟩; have HVA := Lib.hid hw; have HD1 := Lib.hid (HK1.out _ (bel2M HD.out.1 hb)); clear hw hb))
    | (go_at_call_of 114 ([Value.int .i64 r.2]); go_loud (refine (wInt HVA.out _ (by omega)).mono ?_; rintro e wb ⟨vb, rfl, hw, hb⟩; have HVB := Lib.hid hw; have HD2 := Lib.hid (HK1.out _ (bel2M HD1.out.1 hb)); clear hw hb)))
  have HV := HVB
  have HM := Lib.hid (heapB HM.out HD2.out.1)
  have HX := Lib.hid (heapB HX.out HD2.out.1)
  have HB := Lib.hid (bel2M HB.out HD2.out.1)
  have m0 := rowCell HM.out 0 (.int .i64 8) rfl
  have m1 := rowCell HM.out 1 (.int .i64 v) rfl
  have m3 := rowCell HM.out 3 (.int .i64 c) rfl
  have m4 := rowCell HM.out 4 (.int .i64 t) rfl
  have m7 := rowCell HM.out 7 (.int .i64 r.1) rfl
  have m8 := rowCell HM.out 8 (.int .i64 r.2) rfl
  have y0 := rowCell HX.out 0 (.bool true) rfl
  have y1 := rowCell HX.out 1 (.bool false) rfl
  have y2 := rowCell HX.out 2 (.bool true) rfl
  have y3 := rowCell HX.out 3 (.bool false) rfl
  have y4 := rowCell HX.out 4 (.bool false) rfl
  have y5 := rowCell HX.out 5 (.bool true) rfl
  have y6 := rowCell HX.out 6 (.bool false) rfl
  have y7 := rowCell HX.out 7 (.bool false) rfl
  have y8 := rowCell HX.out 8 (.bool false) rfl
  go_wp2_with (first
    | (go_at_call 114; go_loud (refine (wInt HV.out _ (by omega)).mono ?_; rintro e wj ⟨vj, rfl, hw, hb⟩; have HV := Lib.hid hw; have HM := Lib.hid (heapB HM.out hb); have HX := Lib.hid (heapB HX.out hb); have HB := Lib.hid (bel2M HB.out hb); have m0 := rowCell HM.out 0 (.int .i64 8) rfl; have m1 := rowCell HM.out 1 (.int .i64 v) rfl; have m3 := rowCell HM.out 3 (.int .i64 c) rfl; have m4 := rowCell HM.out 4 (.int .i64 t) rfl; have m7 := rowCell HM.out 7 (.int .i64 r.1) rfl; have m8 := rowCell HM.out 8 (.int .i64 r.2) rfl; have y0 := rowCell HX.out 0 (.bool true) rfl; have y1 := rowCell HX.out 1 (.bool false) rfl; have y2 := rowCell HX.out 2 (.bool true) rfl; have y3 := rowCell HX.out 3 (.bool false) rfl; have y4 := rowCell HX.out 4 (.bool false) rfl; have y5 := rowCell HX.out 5 (.bool true) rfl; have y6 := rowCell HX.out 6 (.bool false) rfl; have y7 := rowCell HX.out 7 (.bool false) rfl; have y8 := rowCell HX.out 8 (.bool false) rfl; clear hw hb)))
  go_ret
  exact ⟨_, rfl, by rw [HE.out]; exact HV.out.own, HV.out.below⟩
set_option maxHeartbeats 4000000 in
theorem rEncode_9 (v s c t : Int) (d x : List UInt8) (r : Int × Int) (b p : List (Int × List UInt8)) (P : Plc) (w : World) (hx : Bs w (.slice P.x.1 x.length P.x.2) x) (hb : EnvK w P.b.1 P.b.2 b) (hp : EnvK w P.p.1 P.p.2 p) (ld : d.length ≤ 200000) (lx : x.length ≤ 200000) (lb : b.length ≤ 30 ∧ ∀ e ∈ b, e.2.length ≤ 100000) (lp : p.length ≤ 30 ∧ ∀ e ∈ p, e.2.length ≤ 100000) (hC : ∀ W, Below w.heap.size w W → Calls Tryz.prog 131 #[.agg #[.int .i64 9, .int .i64 v, .int .i64 s, .int .i64 c, .int .i64 t, .string (strB d), .slice P.x.1 x.length P.x.2, .int .i64 r.1, .int .i64 r.2, .slice P.b.1 b.length P.b.2, .slice P.p.1 p.length P.p.2, .slice P.q.1 0 P.q.2]] W (Ans (.int .i64 0) W)) :
    Calls Tryz.prog 85 #[.agg #[.int .i64 9, .int .i64 v, .int .i64 s, .int .i64 c, .int .i64 t, .string (strB d), .slice P.x.1 x.length P.x.2, .int .i64 r.1, .int .i64 r.2, .slice P.b.1 b.length P.b.2, .slice P.p.1 p.length P.p.2, .slice P.q.1 0 P.q.2]] w (Puts w (putM ⟨9, v, s, c, t, d, x, r, b, p, []⟩)) := by
  have he : putM ⟨9, v, s, c, t, d, x, r, b, p, []⟩ = [] ++ i8B 9 ++ i8B s := by
    unfold putM partsM
    simp [shapeM, numP, rowP, resP, lisP, countB, List.append_assoc]
  have hcv := conv_digest
  have hsz := strB_size d
  have HDM := Lib.hid (show d.length ≤ maxLen by unfold maxLen; omega)
  have HXX := Lib.hid hx
  have HBB := Lib.hid hb
  have HPP := Lib.hid hp
  have HLD := Lib.hid ld
  have HLX := Lib.hid lx
  have HLB := Lib.hid lb
  have HLP := Lib.hid lp
  have HCK := Lib.hid hC
  have HF := Lib.hid (fun W => show Calls Tryz.prog 132 #[.int .i64 9] W (fun e w' => e = .returned (.tuple #[.agg #[.bool false, .bool true, .bool false, .bool false, .bool false, .bool false, .bool false, .bool false, .bool false], .bool true]) ∧ Below W.heap.size W w') from (rFields_9 W).mono fun e w' h => ⟨h.1.trans rfl, h.2⟩)
  have HM := Lib.hid (heap_alloc_new w (.cells #[.int .i64 9, .int .i64 v, .int .i64 s, .int .i64 c, .int .i64 t, .string (strB d), .slice P.x.1 x.length P.x.2, .int .i64 r.1, .int .i64 r.2, .slice P.b.1 b.length P.b.2, .slice P.p.1 p.length P.p.2, .slice P.q.1 0 P.q.2] 46))
  have HB := Lib.hid (alloc1B w (.cells #[.int .i64 9, .int .i64 v, .int .i64 s, .int .i64 c, .int .i64 t, .string (strB d), .slice P.x.1 x.length P.x.2, .int .i64 r.1, .int .i64 r.2, .slice P.b.1 b.length P.b.2, .slice P.p.1 p.length P.p.2, .slice P.q.1 0 P.q.2] 46))
  have HE := Lib.hid he
  clear hx hb hp ld lx lb lp hC he
  generalize putM ⟨9, v, s, c, t, d, x, r, b, p, []⟩ = L at *
  go_enter Tryz.func85, Tryz.ntmps85
  go_upto_region 1 with fail
  generalize hw0 : w.alloc _ = w0 at *
  clear hw0
  go_upto_region 3 with (first
    | (go_at_call 131; go_loud (refine (HCK.out _ HB.out).mono ?_; rintro e w1 ⟨rfl, hb⟩; have HM := Lib.hid (heapB HM.out hb); have HB := Lib.hid (bel2M HB.out hb); clear hb))
    | (refine wpList_load_mid rfl 46 _ rfl w.heap.size 0 rfl _ _ (heap_all HM.out) Tryz.underlying46 rfl (by kernel_rfl) ?_))
  have m0 := rowCell HM.out 0 (.int .i64 9) rfl
  go_upto_region 4 with (first
    | (go_at_call 132; go_loud (refine (HF.out _).mono ?_; rintro e w2 ⟨rfl, hb⟩; have HX := Lib.hid (heap_alloc_new w2 (.cells #[.bool false, .bool true, .bool false, .bool false, .bool false, .bool false, .bool false, .bool false, .bool false] 188)); have HM := Lib.hid (heapB (heapB HM.out hb) (alloc1B w2 (.cells #[.bool false, .bool true, .bool false, .bool false, .bool false, .bool false, .bool false, .bool false, .bool false] 188))); have HB := Lib.hid (bel2M (bel2M HB.out hb) (alloc1B w2 (.cells #[.bool false, .bool true, .bool false, .bool false, .bool false, .bool false, .bool false, .bool false, .bool false] 188))); clear hb)))
  generalize hw3 : w2.alloc _ = w3 at *
  clear hw3
  have HV := Lib.hid ((Wrt.nil w).next HB.out)
  have m0 := rowCell HM.out 0 (.int .i64 9) rfl
  have m2 := rowCell HM.out 2 (.int .i64 s) rfl
  have y0 := rowCell HX.out 0 (.bool false) rfl
  have y1 := rowCell HX.out 1 (.bool true) rfl
  have y2 := rowCell HX.out 2 (.bool false) rfl
  have y3 := rowCell HX.out 3 (.bool false) rfl
  have y4 := rowCell HX.out 4 (.bool false) rfl
  have y5 := rowCell HX.out 5 (.bool false) rfl
  have y6 := rowCell HX.out 6 (.bool false) rfl
  have y7 := rowCell HX.out 7 (.bool false) rfl
  have y8 := rowCell HX.out 8 (.bool false) rfl
  go_wp2_with (first
    | (go_at_call 114; go_loud (refine (wInt HV.out _ (by omega)).mono ?_; rintro e wj ⟨vj, rfl, hw, hb⟩; have HV := Lib.hid hw; have HM := Lib.hid (heapB HM.out hb); have HX := Lib.hid (heapB HX.out hb); have HB := Lib.hid (bel2M HB.out hb); have m0 := rowCell HM.out 0 (.int .i64 9) rfl; have m2 := rowCell HM.out 2 (.int .i64 s) rfl; have y0 := rowCell HX.out 0 (.bool false) rfl; have y1 := rowCell HX.out 1 (.bool true) rfl; have y2 := rowCell HX.out 2 (.bool false) rfl; have y3 := rowCell HX.out 3 (.bool false) rfl; have y4 := rowCell HX.out 4 (.bool false) rfl; have y5 := rowCell HX.out 5 (.bool false) rfl; have y6 := rowCell HX.out 6 (.bool false) rfl; have y7 := rowCell HX.out 7 (.bool false) rfl; have y8 := rowCell HX.out 8 (.bool false) rfl; clear hw hb)))
  go_ret
  exact ⟨_, rfl, by rw [HE.out]; exact HV.out.own, HV.out.below⟩
set_option maxHeartbeats 4000000 in
theorem rEncode_11 (v s c t : Int) (d x : List UInt8) (r : Int × Int) (b p : List (Int × List UInt8)) (P : Plc) (w : World) (hx : Bs w (.slice P.x.1 x.length P.x.2) x) (hb : EnvK w P.b.1 P.b.2 b) (hp : EnvK w P.p.1 P.p.2 p) (ld : d.length ≤ 200000) (lx : x.length ≤ 200000) (lb : b.length ≤ 30 ∧ ∀ e ∈ b, e.2.length ≤ 100000) (lp : p.length ≤ 30 ∧ ∀ e ∈ p, e.2.length ≤ 100000) (hC : ∀ W, Below w.heap.size w W → Calls Tryz.prog 131 #[.agg #[.int .i64 11, .int .i64 v, .int .i64 s, .int .i64 c, .int .i64 t, .string (strB d), .slice P.x.1 x.length P.x.2, .int .i64 r.1, .int .i64 r.2, .slice P.b.1 b.length P.b.2, .slice P.p.1 p.length P.p.2, .slice P.q.1 0 P.q.2]] W (Ans (.int .i64 0) W)) :
    Calls Tryz.prog 85 #[.agg #[.int .i64 11, .int .i64 v, .int .i64 s, .int .i64 c, .int .i64 t, .string (strB d), .slice P.x.1 x.length P.x.2, .int .i64 r.1, .int .i64 r.2, .slice P.b.1 b.length P.b.2, .slice P.p.1 p.length P.p.2, .slice P.q.1 0 P.q.2]] w (Puts w (putM ⟨11, v, s, c, t, d, x, r, b, p, []⟩)) := by
  have he : putM ⟨11, v, s, c, t, d, x, r, b, p, []⟩ = [] ++ i8B 11 ++ i8B s ++ partB x ++ (be 4 b.length ++ b.flatMap envW) := by
    unfold putM partsM
    simp [shapeM, numP, rowP, resP, lisP, countB, List.append_assoc]
  have hcv := conv_digest
  have hsz := strB_size d
  have HDM := Lib.hid (show d.length ≤ maxLen by unfold maxLen; omega)
  have HXX := Lib.hid hx
  have HBB := Lib.hid hb
  have HPP := Lib.hid hp
  have HLD := Lib.hid ld
  have HLX := Lib.hid lx
  have HLB := Lib.hid lb
  have HLP := Lib.hid lp
  have HCK := Lib.hid hC
  have HF := Lib.hid (fun W => show Calls Tryz.prog 132 #[.int .i64 11] W (fun e w' => e = .returned (.tuple #[.agg #[.bool false, .bool true, .bool false, .bool false, .bool true, .bool false, .bool true, .bool false, .bool false], .bool true]) ∧ Below W.heap.size W w') from (rFields_11 W).mono fun e w' h => ⟨h.1.trans rfl, h.2⟩)
  have HM := Lib.hid (heap_alloc_new w (.cells #[.int .i64 11, .int .i64 v, .int .i64 s, .int .i64 c, .int .i64 t, .string (strB d), .slice P.x.1 x.length P.x.2, .int .i64 r.1, .int .i64 r.2, .slice P.b.1 b.length P.b.2, .slice P.p.1 p.length P.p.2, .slice P.q.1 0 P.q.2] 46))
  have HB := Lib.hid (alloc1B w (.cells #[.int .i64 11, .int .i64 v, .int .i64 s, .int .i64 c, .int .i64 t, .string (strB d), .slice P.x.1 x.length P.x.2, .int .i64 r.1, .int .i64 r.2, .slice P.b.1 b.length P.b.2, .slice P.p.1 p.length P.p.2, .slice P.q.1 0 P.q.2] 46))
  have HE := Lib.hid he
  clear hx hb hp ld lx lb lp hC he
  generalize putM ⟨11, v, s, c, t, d, x, r, b, p, []⟩ = L at *
  go_enter Tryz.func85, Tryz.ntmps85
  go_upto_region 1 with fail
  generalize hw0 : w.alloc _ = w0 at *
  clear hw0
  go_upto_region 3 with (first
    | (go_at_call 131; go_loud (refine (HCK.out _ HB.out).mono ?_; rintro e w1 ⟨rfl, hb⟩; have HM := Lib.hid (heapB HM.out hb); have HB := Lib.hid (bel2M HB.out hb); clear hb))
    | (refine wpList_load_mid rfl 46 _ rfl w.heap.size 0 rfl _ _ (heap_all HM.out) Tryz.underlying46 rfl (by kernel_rfl) ?_))
  have m0 := rowCell HM.out 0 (.int .i64 11) rfl
  go_upto_region 4 with (first
    | (go_at_call 132; go_loud (refine (HF.out _).mono ?_; rintro e w2 ⟨rfl, hb⟩; have HX := Lib.hid (heap_alloc_new w2 (.cells #[.bool false, .bool true, .bool false, .bool false, .bool true, .bool false, .bool true, .bool false, .bool false] 188)); have HM := Lib.hid (heapB (heapB HM.out hb) (alloc1B w2 (.cells #[.bool false, .bool true, .bool false, .bool false, .bool true, .bool false, .bool true, .bool false, .bool false] 188))); have HB := Lib.hid (bel2M (bel2M HB.out hb) (alloc1B w2 (.cells #[.bool false, .bool true, .bool false, .bool false, .bool true, .bool false, .bool true, .bool false, .bool false] 188))); clear hb)))
  generalize hw3 : w2.alloc _ = w3 at *
  clear hw3
  have HV := Lib.hid ((Wrt.nil w).next HB.out)
  have m0 := rowCell HM.out 0 (.int .i64 11) rfl
  have m2 := rowCell HM.out 2 (.int .i64 s) rfl
  have m6 := rowCell HM.out 6 (.slice P.x.1 x.length P.x.2) rfl
  have m9 := rowCell HM.out 9 (.slice P.b.1 b.length P.b.2) rfl
  have y0 := rowCell HX.out 0 (.bool false) rfl
  have y1 := rowCell HX.out 1 (.bool true) rfl
  have y2 := rowCell HX.out 2 (.bool false) rfl
  have y3 := rowCell HX.out 3 (.bool false) rfl
  have y4 := rowCell HX.out 4 (.bool true) rfl
  have y5 := rowCell HX.out 5 (.bool false) rfl
  have y6 := rowCell HX.out 6 (.bool true) rfl
  have y7 := rowCell HX.out 7 (.bool false) rfl
  have y8 := rowCell HX.out 8 (.bool false) rfl
  go_wp2_with (first
    | (go_at_call 114; go_loud (refine (wInt HV.out _ (by omega)).mono ?_; rintro e wj ⟨vj, rfl, hw, hb⟩; have HV := Lib.hid hw; have HM := Lib.hid (heapB HM.out hb); have HX := Lib.hid (heapB HX.out hb); have HB := Lib.hid (bel2M HB.out hb); have m0 := rowCell HM.out 0 (.int .i64 11) rfl; have m2 := rowCell HM.out 2 (.int .i64 s) rfl; have m6 := rowCell HM.out 6 (.slice P.x.1 x.length P.x.2) rfl; have m9 := rowCell HM.out 9 (.slice P.b.1 b.length P.b.2) rfl; have y0 := rowCell HX.out 0 (.bool false) rfl; have y1 := rowCell HX.out 1 (.bool true) rfl; have y2 := rowCell HX.out 2 (.bool false) rfl; have y3 := rowCell HX.out 3 (.bool false) rfl; have y4 := rowCell HX.out 4 (.bool true) rfl; have y5 := rowCell HX.out 5 (.bool false) rfl; have y6 := rowCell HX.out 6 (.bool true) rfl; have y7 := rowCell HX.out 7 (.bool false) rfl; have y8 := rowCell HX.out 8 (.bool false) rfl; clear hw hb))
    | (go_at_call 113; go_loud (refine (wBytes HV.out (HXX.out.below HB.out (Nat.le_refl _)) HLX.out (by omega) (by decide)).mono ?_; rintro e wj ⟨vj, rfl, hw, hb⟩; have HV := Lib.hid hw; have HM := Lib.hid (heapB HM.out hb); have HX := Lib.hid (heapB HX.out hb); have HB := Lib.hid (bel2M HB.out hb); have m0 := rowCell HM.out 0 (.int .i64 11) rfl; have m2 := rowCell HM.out 2 (.int .i64 s) rfl; have m6 := rowCell HM.out 6 (.slice P.x.1 x.length P.x.2) rfl; have m9 := rowCell HM.out 9 (.slice P.b.1 b.length P.b.2) rfl; have y0 := rowCell HX.out 0 (.bool false) rfl; have y1 := rowCell HX.out 1 (.bool true) rfl; have y2 := rowCell HX.out 2 (.bool false) rfl; have y3 := rowCell HX.out 3 (.bool false) rfl; have y4 := rowCell HX.out 4 (.bool true) rfl; have y5 := rowCell HX.out 5 (.bool false) rfl; have y6 := rowCell HX.out 6 (.bool true) rfl; have y7 := rowCell HX.out 7 (.bool false) rfl; have y8 := rowCell HX.out 8 (.bool false) rfl; clear hw hb))
    | (go_at_call_of 133 (Value.slice P.b.1 b.length P.b.2); go_loud (refine (wList HV.out (HBB.out.below HB.out) (by have := HLB.out.1; omega) HLB.out.2 (by have := HLB.out.1; omega) (by decide)).mono ?_; rintro e wj ⟨vj, rfl, hw, hb⟩; have HV := Lib.hid hw; have HM := Lib.hid (heapB HM.out hb); have HX := Lib.hid (heapB HX.out hb); have HB := Lib.hid (bel2M HB.out hb); have m0 := rowCell HM.out 0 (.int .i64 11) rfl; have m2 := rowCell HM.out 2 (.int .i64 s) rfl; have m6 := rowCell HM.out 6 (.slice P.x.1 x.length P.x.2) rfl; have m9 := rowCell HM.out 9 (.slice P.b.1 b.length P.b.2) rfl; have y0 := rowCell HX.out 0 (.bool false) rfl; have y1 := rowCell HX.out 1 (.bool true) rfl; have y2 := rowCell HX.out 2 (.bool false) rfl; have y3 := rowCell HX.out 3 (.bool false) rfl; have y4 := rowCell HX.out 4 (.bool true) rfl; have y5 := rowCell HX.out 5 (.bool false) rfl; have y6 := rowCell HX.out 6 (.bool true) rfl; have y7 := rowCell HX.out 7 (.bool false) rfl; have y8 := rowCell HX.out 8 (.bool false) rfl; clear hw hb)))
  go_ret
  exact ⟨_, rfl, by rw [HE.out]; exact HV.out.own, HV.out.below⟩

structure SmD (m : Msg) : Prop where
  d : m.d.length ≤ 200000
  x : m.x.length ≤ 200000
  b : m.b.length ≤ 30 ∧ ∀ e ∈ m.b, e.2.length ≤ 100000
  p : m.p.length ≤ 30 ∧ ∀ e ∈ m.p, e.2.length ≤ 100000
  q : m.q = []
theorem checkD_num (m : Msg) (hq : m.q = []) : checkD m = ((shapeM m.k).2 && numC (shapeM m.k).1 m.v m.s m.c m.t m.d.length m.x.length m.r.1 m.r.2 m.b.length m.p.length) := by
  unfold checkD docFits numC noRes
  rw [hq]
  simp only [List.length_nil, List.all_nil, Bool.and_true]
theorem dec_len (l : List UInt8) : decide (l.length = 0) = decide (l = []) := by
  by_cases h : l = []
  · subst h; rfl
  · rw [decide_eq_false h, decide_eq_false (fun h2 => h (List.eq_nil_of_length_eq_zero h2))]
theorem rCheckD_any (m : Msg) (P : Plc) (w : World) (h : SmD m) : Calls Tryz.prog 131 #[agM m P] w (Ans (.int .i64 (yesE (checkD m))) w) := by
  rw [checkD_num m h.q]
  have hd := h.d
  have hx := h.x
  have hb := h.b.1
  have hp := h.p.1
  have hql : m.q.length = 0 := by rw [h.q]; rfl
  have hC := fun W => rCounts_any m P (countB (shapeM m.k).1.v) (countB (shapeM m.k).1.s) (countB (shapeM m.k).1.c) (countB (shapeM m.k).1.d) (countB (shapeM m.k).1.x) (shapeM m.k).1.r (countB (shapeM m.k).1.b) (countB (shapeM m.k).1.p) (countB (shapeM m.k).1.q) W hql (fun h10 => by rw [h10]; rfl) (by omega) (by omega)
  have key := rCheck_of m P w (countB (shapeM m.k).1.v) (countB (shapeM m.k).1.s) (countB (shapeM m.k).1.c) (countB (shapeM m.k).1.d) (countB (shapeM m.k).1.x) (shapeM m.k).1.r (countB (shapeM m.k).1.b) (countB (shapeM m.k).1.p) (countB (shapeM m.k).1.q) (shapeM m.k).2 _ _ _ _ _ _ _ _ _ (lowV m.k) (lowS m.k)
    (fun W => rFields_any m.k W) (fun W => rFirsts_any m.k W) (fun W => rNumber_any _ _ _ W) (fun W => rNumber_any _ _ _ W) (fun W => rNumber_any _ _ _ W) (fun W => rNumber_any _ _ _ W) (fun W => by rw [hql]; exact hC W) rfl rfl rfl rfl (by omega)
  rcases hk : (shapeM m.k).2 with _ | _
  · rw [hk] at key
    exact key
  · rw [num_CR _ _ _ _ _ _ _ _ _ _ _ (by omega) (by omega) hk]
    rw [hk] at key
    unfold numR
    rw [dec_len, dec_len]
    have e : (decide (m.r.1 = 0) && decide (m.r.2 = 0)) = decide (m.r = (0, 0)) := by
      rw [Bool.eq_iff_iff]
      simp only [Bool.and_eq_true, decide_eq_true_eq]
      exact ⟨fun h => Prod.ext h.1 h.2, fun h => by rw [h]; exact ⟨rfl, rfl⟩⟩
    rw [e]
    exact key
set_option maxHeartbeats 1000000 in
theorem rEncode_no (m : Msg) (P : Plc) (w : World) (hC : ∀ W, Calls Tryz.prog 131 #[agM m P] W (Ans (.int .i64 120) W)) : Calls Tryz.prog 85 #[agM m P] w (Puts w []) := by
  have HM := Lib.hid (heap_alloc_new w (.cells (msC m P) 46))
  have HB := Lib.hid (alloc1B w (.cells (msC m P) 46))
  have HCK := Lib.hid hC
  clear hC
  go_enter Tryz.func85, Tryz.ntmps85
  go_upto_region 1 with fail
  generalize hw0 : w.alloc _ = w0 at *
  clear hw0
  go_wp2_with (first
    | (go_at_call 131; refine (HCK.out _).mono ?_; rintro e w1 ⟨rfl, hb⟩; have HB := Lib.hid (bel2M HB.out hb); clear hb)
    | (refine wpList_load_mid rfl 46 _ rfl w.heap.size 0 rfl _ _ (heap_all HM.out) Tryz.underlying46 rfl (by kernel_rfl) ?_))
  go_ret
  exact puts_nil _ _ HB.out
theorem kind_of {m : Msg} (h : checkD m = true) (hq : m.q = []) : m.k = 1 ∨ m.k = 2 ∨ m.k = 3 ∨ m.k = 4 ∨ m.k = 5 ∨ m.k = 6 ∨ m.k = 7 ∨ m.k = 8 ∨ m.k = 9 ∨ m.k = 11 := by
  by_cases h1 : m.k = 1
  · omega
  by_cases h2 : m.k = 2
  · omega
  by_cases h3 : m.k = 3
  · omega
  by_cases h4 : m.k = 4
  · omega
  by_cases h5 : m.k = 5
  · omega
  by_cases h6 : m.k = 6
  · omega
  by_cases h7 : m.k = 7
  · omega
  by_cases h8 : m.k = 8
  · omega
  by_cases h9 : m.k = 9
  · omega
  by_cases h11 : m.k = 11
  · omega
  by_cases h10 : m.k = 10
  · exfalso
    have := (checkD_fit h).q.1
    rw [hq, h10] at this
    exact absurd this (by decide)
  · exfalso
    unfold checkD at h
    rw [shape_none h1 h2 h3 h4 h5 h6 h7 h8 h9 h10 h11] at h
    exact absurd h (by simp)
theorem rEncode_any (m : Msg) (P : Plc) (w : World) (hm : MsgK w m P) (h : SmD m) : Calls Tryz.prog 85 #[agM m P] w (Puts w (encD m)) := by
  have hC := fun W => rCheckD_any m P W h
  unfold encD
  rcases hc : checkD m with _ | _
  · rw [hc] at hC
    rw [if_neg (by decide)]
    exact rEncode_no m P w hC
  · rw [hc] at hC
    rw [if_pos rfl]
    have hk := kind_of hc h.q
    obtain ⟨k, v, s, c, t, d, x, r, b, p, q⟩ := m
    have hq : q = [] := h.q
    subst hq
    simp only at hk
    rcases hk with rfl | rfl | rfl | rfl | rfl | rfl | rfl | rfl | rfl | rfl
    · exact rEncode_1 v s c t d x r b p P w hm.x hm.b hm.p h.d h.x h.b h.p fun W _ => hC W
    · exact rEncode_2 v s c t d x r b p P w hm.x hm.b hm.p h.d h.x h.b h.p fun W _ => hC W
    · exact rEncode_3 v s c t d x r b p P w hm.x hm.b hm.p h.d h.x h.b h.p fun W _ => hC W
    · exact rEncode_4 v s c t d x r b p P w hm.x hm.b hm.p h.d h.x h.b h.p fun W _ => hC W
    · exact rEncode_5 v s c t d x r b p P w hm.x hm.b hm.p h.d h.x h.b h.p fun W _ => hC W
    · exact rEncode_6 v s c t d x r b p P w hm.x hm.b hm.p h.d h.x h.b h.p fun W _ => hC W
    · exact rEncode_7 v s c t d x r b p P w hm.x hm.b hm.p h.d h.x h.b h.p fun W _ => hC W
    · exact rEncode_8 v s c t d x r b p P w hm.x hm.b hm.p h.d h.x h.b h.p fun W _ => hC W
    · exact rEncode_9 v s c t d x r b p P w hm.x hm.b hm.p h.d h.x h.b h.p fun W _ => hC W
    · exact rEncode_11 v s c t d x r b p P w hm.x hm.b hm.p h.d h.x h.b h.p fun W _ => hC W

end Go.Proofs.YticfnjihjpgneaaGreat
