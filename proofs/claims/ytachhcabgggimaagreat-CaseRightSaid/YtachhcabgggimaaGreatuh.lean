/- uh: KEndo StoreRow KMay KEff KAdv KShut KStep KDo KAw KLRight (made by shake.py). -/
import Derived.Deep.MidRow
import Derived.Test.YtachhcabgggimaaGreatug
namespace Go.Proofs.YtachhcabgggimaaGreat
open Go.RowKit Go.Shelf
set_option linter.unusedVariables false
set_option linter.unusedSimpArgs false
set_option maxRecDepth 20000

structure DdN (w : World) (base B : Nat) (k : Cse) (VA : Option Addr) (vc : Nat) (EA : Option Addr) (ec : Nat) : Prop where
  lt : B < base
  bz : base ≤ w.heap.size
  b : w.heap[B]? = some (.cells (csK k VA vc EA ec) 45 (0, 0))
  n : CsN (fun b => base ≤ b) w k VA vc EA ec
theorem DdK.dn {w : World} {base B : Nat} {k : Cse} {VA : Option Addr} {vc : Nat} {EA : Option Addr} {ec : Nat} (h : DdK w base B k VA vc EA ec) : DdN w base B k VA vc EA ec := ⟨h.lt, h.bz, h.b, h.csn⟩
def StepN (base B : Nat) (r : Cse × Int) (w : World) (e : Ending) (w' : World) : Prop := ∃ VA vc EA ec, e = .returned (.int .i64 r.2) ∧ DdN w' base B r.1 VA vc EA ec ∧ Frm base B w w'
theorem StepP.n {base B : Nat} {r : Cse × Int} {w : World} {e : Ending} {w' : World} (h : StepP base B r w e w') : StepN base B r w e w' := by
  obtain ⟨VA, vc, EA, ec, h1, h2, h3⟩ := h
  exact ⟨VA, vc, EA, ec, h1, h2.dn, h3⟩
theorem DdK.ins {w w' : World} {base B : Nat} {k : Cse} {VA : Option Addr} {vc : Nat} {EA : Option Addr} {ec : Nat} {A : Option Addr} {c : Nat} {r : List Int} (h : DdK w base B k VA vc EA ec) (hn : IsN (fun b => base ≤ b) w' A c r)
    (hfr : ∀ m, m < w.heap.size → (∀ g, EA = some ⟨g, 0, none⟩ → m ≠ g) → w'.heap[m]? = w.heap[m]?) (hos : w'.os = w.os) (htp : w'.tape = w.tape) (hop : w'.output = w.output) (hsz : w.heap.size ≤ w'.heap.size) :
    DdN (w'.setCell ⟨B, 4, none⟩ (.slice A r.length c)) base B { k with ends := r } VA vc A c ∧ Frm base B w (w'.setCell ⟨B, 4, none⟩ (.slice A r.length c)) := by
  have hlt := h.lt
  have hbz := h.bz
  have hg : ∀ g, EA = some ⟨g, 0, none⟩ → base ≤ g ∧ ∃ cur, w.heap[g]? = some (.cells cur 3 (0, 0)) := fun g he => by
    rcases h.e.2 with ⟨e, h0⟩ | ⟨g', cap, cur, e, h1, h2, -⟩
    · injection e with e1; rw [he] at e1; cases e1
    · injection e with e1
      rw [he] at e1
      injection e1 with e1
      injection e1 with e1
      subst e1
      exact ⟨h1, cur, h2⟩
  have hz : (w'.setCell ⟨B, 4, none⟩ (.slice A r.length c)).heap.size = w'.heap.size := by simp [World.setCell]
  have hbB : w'.heap[B]? = w.heap[B]? := hfr B (by omega) fun g he => by have := (hg g he).1; omega
  have hset := setZ (hbB.trans h.b) 4 (.slice A r.length c)
  refine ⟨⟨hlt, by omega, hset, ?_, ?_⟩, ⟨hos, htp, hop, by omega, fun m hm hmB => ?_⟩⟩
  · have hv := h.v
    have hvk := h.vlk
    obtain ⟨q1, q2, q3, q4⟩ := hvk
    refine ⟨q1, q2, q3, fun j hj => ?_⟩
    obtain ⟨b, e1, e2, e3, e4⟩ := q4 j hj
    have hty : ∃ cur, w.heap[b]? = some (.cells cur 55 (0, 0)) := by
      rcases hv.2 with ⟨e, h0⟩ | ⟨g', cap, cur, e, h1, h2, -⟩
      · injection e with e'; rw [e1] at e'; cases e'
      · injection e with e'
        rw [e1] at e'
        injection e' with e'
        injection e' with e'
        subst e'
        exact ⟨cur, h2⟩
    obtain ⟨cur, hcur⟩ := hty
    have hkeep : (w'.setCell ⟨B, 4, none⟩ (.slice A r.length c)).heap[b]? = w.heap[b]? := by
      rw [Below.heap_setCell w' _ _ b (show b ≠ B by omega)]
      refine hfr b e2 fun g he hbg => ?_
      obtain ⟨-, cur2, h2⟩ := hg g he
      rw [← hbg, hcur] at h2
      injection h2 with h2
      injection h2 with h3 h4
      exact absurd h4 (by decide)
    exact ⟨b, e1, by omega, e3, e4.at hkeep⟩
  · exact hn.move (fun b hb hl => ⟨Below.heap_setCell w' _ _ b (show b ≠ B by omega), hb⟩) (by omega)
  · rw [Below.heap_setCell w' _ _ m hmB]
    exact hfr m (by omega) fun g he => by have := (hg g he).1; omega
set_option maxHeartbeats 1000000 in
theorem kSearch_any (base : Nat) (EA : Option Addr) (ec : Nat) (l : List Int) (x : Int) (w : World) (hown : w.ownsRow base 3 1 (.slice EA l.length ec) l.length (l.map (Value.int .i64))) (hs : l.Pairwise (· ≤ ·)) (hl : l.length ≤ 1000) :
    Calls Tryz.prog 156 #[.slice EA l.length ec, .int .i64 x] w (VMk (.tuple #[.int .i64 ((l.countP (· < x) : Nat) : Int), .bool (memI x l)]) w) := by
  have hm : l.contains x = memI x l := by
    rw [Bool.eq_iff_iff, memI_iff, List.contains_iff_mem]
  rcases hown.2 with ⟨e, h0⟩ | ⟨g, cap, cur, e, -⟩
  · have hln : l = [] := List.eq_nil_of_length_eq_zero h0
    subst hln
    exact (Any.slices_BinarySearch_int_empty lay_search EA ec x w).mono fun e w' ⟨h1, h2⟩ => ⟨h1, by rw [h2]; exact Below.refl _ _⟩
  · injection e with e1 e2 e3
    subst e1
    have hc : ∀ j, j < l.length → w.cell? ⟨g, 0 + j, none⟩ = some (.int .i64 (l.getD j 0)) := fun j hj => by
      have h := hown.cells (g := g) rfl j (.int .i64 l[j]) (by simp [hj])
      rw [Addr.add_lit] at h
      rw [h, List.getD_eq_getElem?_getD, List.getElem?_eq_getElem hj]
      rfl
    refine (Any.slices_BinarySearch_int lay_search g 0 l.length ec l x w (Nat.le_refl _) (by omega) hc (by rw [List.take_length]; exact hs)).mono ?_
    rintro e w' ⟨rfl, q, rfl⟩
    rw [List.take_length, hm]
    exact ⟨rfl, below_drewN (Below.refl _ _) _⟩
set_option maxHeartbeats 8000000 in
theorem dEndorse_any (ct : Ctr) (FA : Option Addr) (fc : Nat) (SA : Option Addr) (sc : Nat) (MA : Option Addr) (mc : Nat) (k : Cse) (VA : Option Addr) (vc : Nat) (EA : Option Addr) (ec : Nat) (nm : ByteArray) (v : Vl) (org : Int) (base B : Nat) (w : World) (h : CtK w ct FA fc SA sc MA mc) (hd : DdK w base B k VA vc EA ec) (hr : RtK ct k) (hl : k.ends.length ≤ 1000) :
    Calls Tryz.prog 96 #[.agg (csD ct FA fc SA sc MA mc nm v org), .pointer (some ⟨B, 0, none⟩)] w (StepN base B (endK ct k org) w) := by
  have hb1 := alloc1 w (.cells #[.string ct.name, .slice FA ct.fs.length fc, .slice SA ct.ss.length sc, .slice MA ct.ms.length mc, .string nm, .int .i64 v.k, .int .i64 v.i, .bool v.b, .string v.s, .float .f64 v.n, .int .i64 org] 95)
  have hbd := heap_alloc_new w (.cells #[.string ct.name, .slice FA ct.fs.length fc, .slice SA ct.ss.length sc, .slice MA ct.ms.length mc, .string nm, .int .i64 v.k, .int .i64 v.i, .bool v.b, .string v.s, .float .f64 v.n, .int .i64 org] 95)
  have HST := Lib.hid (fun W (hb : Below w.heap.size w W) => dStage_any ct FA fc SA sc MA mc k VA vc EA ec nm v org B W (h.below hb) (hd.below hb).b hr.s0 hr.s1)
  have HSR := Lib.hid (fun W (hb : Below w.heap.size w W) => kSearch_any base EA ec k.ends org W (hd.below hb).e (ends_sorted hr.en) hl)
  have HIN := Lib.hid (fun (i vb : Nat) W (hb : Below w.heap.size w W) (hi : i ≤ k.ends.length) hvb hne => kInsert_any base EA ec k.ends i org vb W (hd.below hb).e hi hl (hd.below hb).bz hvb hne)
  have HD0 := Lib.hid hd
  have HB1 := Lib.hid hb1
  have hBw : B < w.heap.size := by have := hd.lt; have := hd.bz; omega
  have HBW := Lib.hid hBw
  have HE1 := Lib.hid (show memI org (stgAt ct k.stage).orgs = false → endK ct k org = (k, 72) from fun h => by unfold endK; rw [h]; rfl)
  have HE2 := Lib.hid (show memI org (stgAt ct k.stage).orgs = true → memI org k.ends = true → endK ct k org = (k, 82) from fun h h2 => by unfold endK; rw [h, h2]; rfl)
  have HE3 := Lib.hid (show memI org (stgAt ct k.stage).orgs = true → memI org k.ends = false → endK ct k org = ({ k with ends := k.ends.take (k.ends.countP (· < org)) ++ org :: k.ends.drop (k.ends.countP (· < org)) }, 0) from fun h h2 => by unfold endK; rw [h, h2]; simp only [if_true]; rw [if_neg (by simp), insI_at org hr.en ((memI_no _ _).1 h2)])
  have HGB := Lib.hid (show ∀ g, EA = some ⟨g, 0, none⟩ → g < w.heap.size from fun g he => by
    have h := hd.e.lt g (by rw [he]; rfl)
    exact h.2)
  have HCP := Lib.hid (show k.ends.countP (· < org) ≤ k.ends.length from List.countP_le_length)
  clear h hd hr hb1 hBw hl
  generalize endK ct k org = U at *
  generalize stgAt ct k.stage = s at *
  generalize hcnt : k.ends.countP (· < org) = ci at *
  clear hcnt
  go_enter Tryz.func96, Tryz.ntmps96
  go_upto_region 1 with fail
  generalize w.alloc (.cells #[.string ct.name, .slice FA ct.fs.length fc, .slice SA ct.ss.length sc, .slice MA ct.ms.length mc, .string nm, .int .i64 v.k, .int .i64 v.i, .bool v.b, .string v.s, .float .f64 v.n, .int .i64 org] 95) = w1 at *
  have d0 := (heap_at hbd 0).trans (rfl : _ = some (Value.string ct.name))
  have d1 := (heap_at hbd 1).trans (rfl : _ = some (Value.slice FA ct.fs.length fc))
  have d2 := (heap_at hbd 2).trans (rfl : _ = some (Value.slice SA ct.ss.length sc))
  have d3 := (heap_at hbd 3).trans (rfl : _ = some (Value.slice MA ct.ms.length mc))
  have d4 := (heap_at hbd 4).trans (rfl : _ = some (Value.string nm))
  have d5 := (heap_at hbd 5).trans (rfl : _ = some (Value.int .i64 v.k))
  have d6 := (heap_at hbd 6).trans (rfl : _ = some (Value.int .i64 v.i))
  have d7 := (heap_at hbd 7).trans (rfl : _ = some (Value.bool v.b))
  have d8 := (heap_at hbd 8).trans (rfl : _ = some (Value.string v.s))
  have d9 := (heap_at hbd 9).trans (rfl : _ = some (Value.float .f64 v.n))
  have d10 := (heap_at hbd 10).trans (rfl : _ = some (Value.int .i64 org))
  have df := heap_free hbd
  have dl := heap_ltZ hbd
  rcases hmo : memI org s.orgs with _ | _
  all_goals
    have HMO := Lib.hid hmo
    clear hmo
    have HK := Lib.hid (show ∀ W, Below w1.heap.size w1 W → (fun W => Below w1.heap.size w1 W ∧ W.cell? ⟨w.heap.size, 0, none⟩ = some (.string ct.name) ∧ W.cell? ⟨w.heap.size, 1, none⟩ = some (.slice FA ct.fs.length fc) ∧ W.cell? ⟨w.heap.size, 2, none⟩ = some (.slice SA ct.ss.length sc) ∧ W.cell? ⟨w.heap.size, 3, none⟩ = some (.slice MA ct.ms.length mc) ∧ W.cell? ⟨w.heap.size, 4, none⟩ = some (.string nm) ∧ W.cell? ⟨w.heap.size, 5, none⟩ = some (.int .i64 v.k) ∧ W.cell? ⟨w.heap.size, 6, none⟩ = some (.int .i64 v.i) ∧ W.cell? ⟨w.heap.size, 7, none⟩ = some (.bool v.b) ∧ W.cell? ⟨w.heap.size, 8, none⟩ = some (.string v.s) ∧ W.cell? ⟨w.heap.size, 9, none⟩ = some (.float .f64 v.n) ∧ W.cell? ⟨w.heap.size, 10, none⟩ = some (.int .i64 org)) W from fun W h => ⟨h, (h.cell (World.block_lt_of_cell? _ _ d0)).trans d0, (h.cell (World.block_lt_of_cell? _ _ d1)).trans d1, (h.cell (World.block_lt_of_cell? _ _ d2)).trans d2, (h.cell (World.block_lt_of_cell? _ _ d3)).trans d3, (h.cell (World.block_lt_of_cell? _ _ d4)).trans d4, (h.cell (World.block_lt_of_cell? _ _ d5)).trans d5, (h.cell (World.block_lt_of_cell? _ _ d6)).trans d6, (h.cell (World.block_lt_of_cell? _ _ d7)).trans d7, (h.cell (World.block_lt_of_cell? _ _ d8)).trans d8, (h.cell (World.block_lt_of_cell? _ _ d9)).trans d9, (h.cell (World.block_lt_of_cell? _ _ d10)).trans d10⟩)
    have HBr0 := Lib.hid (show Below w1.heap.size w1 w1.drew from (Below.refl _ _).drew)
    have HS0 := Lib.hid (HK.out w1.drew HBr0.out)
    go_region_held3 (fun W => Below w1.heap.size w1 W ∧ W.cell? ⟨w.heap.size, 0, none⟩ = some (.string ct.name) ∧ W.cell? ⟨w.heap.size, 1, none⟩ = some (.slice FA ct.fs.length fc) ∧ W.cell? ⟨w.heap.size, 2, none⟩ = some (.slice SA ct.ss.length sc) ∧ W.cell? ⟨w.heap.size, 3, none⟩ = some (.slice MA ct.ms.length mc) ∧ W.cell? ⟨w.heap.size, 4, none⟩ = some (.string nm) ∧ W.cell? ⟨w.heap.size, 5, none⟩ = some (.int .i64 v.k) ∧ W.cell? ⟨w.heap.size, 6, none⟩ = some (.int .i64 v.i) ∧ W.cell? ⟨w.heap.size, 7, none⟩ = some (.bool v.b) ∧ W.cell? ⟨w.heap.size, 8, none⟩ = some (.string v.s) ∧ W.cell? ⟨w.heap.size, 9, none⟩ = some (.float .f64 v.n) ∧ W.cell? ⟨w.heap.size, 10, none⟩ = some (.int .i64 org)) (first | assumption | exact HK.out _ HBr2.out | exact HK.out _ HBr1.out | exact HS0.out) (first
        | (go_at_call 155; refine (HST.out _ (bel2 HB1.out HBr0.out)).mono ?_; rintro e wr1 ⟨A2, c2, rfl, hso, hbr1⟩; have hfd := fun w : World => (show (Instr.field 65 (.agg #[.string s.name, .int .i64 s.need, .slice A2 s.orgs.length c2]) 2).run Tryz.prog w = .ok (.slice A2 s.orgs.length c2) w by kernel_rfl); have HCT := Lib.hid (fun (_ : Below w1.heap.size w1 wr1) => (kContains_any A2 c2 s.orgs org wr1 hso).mono fun e w' h => (show VMk _ wr1 e w' from ⟨h.1, by rw [← h.2]; exact Below.refl _ _⟩)); rw [HMO.out] at HCT; clear hso; have HBr1 := Lib.hid (bel2 HBr0.out hbr1); clear hbr1)
        | (go_at_call 153; refine (HCT.out HBr1.out).mono ?_; rintro e wr2 ⟨rfl, hbr2⟩; have HBr2 := Lib.hid (bel2 HBr1.out hbr2); clear hbr2))
    have HB2 := Lib.hid (bel2 HB1.out HBr2.out)
    have HD2 := Lib.hid (HD0.out.below HB2.out)
  · have hU := HE1.out HMO.out
    subst hU
    go_wp2
    go_ret
    exact (StepP.stay HD0.out HB2.out).n
  have f10 := (HBr2.out.cell (World.block_lt_of_cell? _ _ d10)).trans d10
  have b4 := (heap_at HD2.out.b 4).trans (rfl : _ = some (Value.slice EA k.ends.length ec))
  clear d0 d1 d2 d3 d4 d5 d6 d7 d8 d9 d10 df dl hbd HK HS0
  have HRB := Lib.hid HBr2.out
  clear HBr0 HBr1 HBr2
  go_wp2_with fail
  generalize wr2 = w2 at *
  have HK := Lib.hid (show ∀ W, Below w2.heap.size w2 W → (fun W => Below w2.heap.size w2 W ∧ W.cell? ⟨w.heap.size, 10, none⟩ = some (.int .i64 org) ∧ W.cell? ⟨B, 4, none⟩ = some (.slice EA k.ends.length ec)) W from fun W h => ⟨h, (h.cell (World.block_lt_of_cell? _ _ f10)).trans f10, (h.cell (World.block_lt_of_cell? _ _ b4)).trans b4⟩)
  have HBr0 := Lib.hid (show Below w2.heap.size w2 w2.drew from (Below.refl _ _).drew)
  have HS0 := Lib.hid (HK.out w2.drew HBr0.out)
  go_region_held3 (fun W => Below w2.heap.size w2 W ∧ W.cell? ⟨w.heap.size, 10, none⟩ = some (.int .i64 org) ∧ W.cell? ⟨B, 4, none⟩ = some (.slice EA k.ends.length ec)) (first | assumption | exact HK.out _ HBr1.out | exact HS0.out) (first
      | (go_at_call 156; refine (HSR.out _ (bel2 HB2.out HBr0.out)).mono ?_; rintro e wr1 ⟨rfl, hbr1⟩; have HBr1 := Lib.hid (bel2 HBr0.out hbr1); clear hbr1))
  have HB3 := Lib.hid (bel2 HB2.out HBr1.out)
  have HD3 := Lib.hid (HD0.out.below HB3.out)
  rcases hms : memI org k.ends with _ | _
  case true =>
    have hU := HE2.out HMO.out hms
    subst hU
    clear hms
    go_wp2
    go_ret
    exact (StepP.stay HD0.out HB3.out).n
  have hU := HE3.out HMO.out hms
  clear hms
  generalize hrr : k.ends.take ci ++ org :: k.ends.drop ci = rr at *
  have HRR := Lib.hid hrr
  subst hU
  clear hrr HE1 HE2 HE3
  have f11 := (HBr1.out.cell (World.block_lt_of_cell? _ _ f10)).trans f10
  have b5 := (heap_at HD3.out.b 4).trans (rfl : _ = some (Value.slice EA k.ends.length ec))
  clear f10 b4 HK HS0
  have HRB2 := Lib.hid HBr1.out
  clear HBr0 HBr1
  go_wp2_with fail
  generalize wr1 = w3 at *
  have HD3d := Lib.hid HD3.out
  have hS0 : w3.drew.cell? ⟨w.heap.size, 10, none⟩ = some (.int .i64 org) := f11
  have hb4 : w3.drew.cell? ⟨B, 4, none⟩ = some (.slice EA k.ends.length ec) := b5
  have hN3 : w.heap.size < w3.heap.size := World.block_lt_of_cell? _ _ f11
  obtain ⟨WA, hWA⟩ : ∃ WA, WA = (w3.alloc (.cells #[.int .i64 org] 3)).drew := ⟨_, rfl⟩
  have hAl : Below w3.heap.size w3 WA := by rw [hWA]; exact (alloc1 w3 (.cells #[.int .i64 org] 3)).drew
  have hvb : WA.heap[w3.heap.size]? = some (.cells #[.int .i64 org] 3 (0, 0)) := by rw [hWA]; exact heap_alloc_new w3 _
  have HVB := Lib.hid hvb
  have HZA := Lib.hid (show WA.heap.size = w3.heap.size + 1 by rw [hWA]; exact World.size_alloc w3 _)
  have hS1 : WA.cell? ⟨w.heap.size, 10, none⟩ = some (.int .i64 org) := (hAl.cell (p := ⟨w.heap.size, 10, none⟩) hN3).trans f11
  have hb41 : WA.cell? ⟨B, 4, none⟩ = some (.slice EA k.ends.length ec) := (hAl.cell (World.block_lt_of_cell? _ _ b5)).trans b5
  have HAL := Lib.hid hAl
  have HN3 := Lib.hid hN3
  have HIX := Lib.hid (HIN.out ci w3.heap.size WA (bel2 HB3.out hAl) HCP.out HVB.out (fun g he => by have := HGB.out g he; omega))
  rw [HRR.out] at HIX
  rw [hWA] at hS1 hb41 HIX HZA HAL
  clear hvb hAl f11 b5 hN3 HVB hWA WA
  refine wp_region_held_drew (S := (fun W => W.cell? ⟨w.heap.size, 10, none⟩ = some (.int .i64 org))) (by kernel_rfl) (hS0) (fun hHeld => ?_)
  refine tk 0 ?_
  (try simp only [Act.put, sA, sB, sC])
  refine tk 1 ?_
  (try simp only [Act.put, sA, sB, sC])
  refine tk 2 ?_
  (try simp only [Act.put, sA, sB, sC])
  refine tk 3 ?_
  (try simp only [Act.put, sA, sB, sC])
  refine tk 5 ?_
  (try simp only [Act.put, sA, sB, sC])
  refine tk 6 ?_
  (try simp only [Act.put, sA, sB, sC])
  refine tk 7 ?_
  (try simp only [Act.put, sA, sB, sC])
  refine wpAnyH_ready (rs := [4, 8]) (by kernel_rfl) (by simp) ?_
  refine AllReadyH.cons (o := ?o422) ?g422 (fun K hK => ?j422) (AllReadyH.cons (o := ?o423) ?g423 (fun K hK => ?j423) AllReadyH.nil)
  case g422 => (simp only [gA, gB, gC]; rfl)
  case g423 => (simp only [gA, gB, gC]; rfl)
  ·
   go_simp
   refine hK.out _ _ ?_ (fun hHeld => ?_)
   · (try dsimp only); exact hS0
   clear hK K
   (try simp only [Act.put, sA, sB, sC])
   refine wpAnyH_ready (rs := [8]) (by kernel_rfl) (by simp) ?_
   refine AllReadyH.cons (o := ?o424) ?g424 (fun K hK => ?j424) AllReadyH.nil
   case g424 => (simp only [gA, gB, gC]; rfl)
   go_simp
   refine hK.out _ _ ?_ (fun hHeld => ?_)
   · (try dsimp only); exact hS1
   clear hK K
   (try simp only [Act.put, sA, sB, sC])
   refine wpAnyH_ready (rs := [9]) (by kernel_rfl) (by simp) ?_
   refine AllReadyH.cons (o := ?o425) ?g425 (fun K hK => ?j425) AllReadyH.nil
   case g425 => (simp only [gA, gB, gC]; rfl)
   go_simp
   refine HIX.out.mono ?_
   rintro e w4 ⟨A4, c4, rfl, hn4, hfr4, hos4, htp4, hop4, hsz4⟩
   have hza := HZA.out
   have hn3 := HN3.out
   have hN4 := hfr4 w.heap.size (by omega) (fun g he => by have := HGB.out g he; omega)
   have hS4 : w4.cell? ⟨w.heap.size, 10, none⟩ = some (.int .i64 org) := (World.cell?_of_block (a := ⟨w.heap.size, 10, none⟩) hN4).trans hS1
   have HFIN := Lib.hid (DdK.ins (HD3d.out.below HAL.out) hn4 hfr4 hos4 htp4 hop4 hsz4)
   have hB4 := hfr4 B (by have := HBW.out; omega) (fun g he => by have := HD0.out.e.lt g (by rw [he]; rfl); have := HD0.out.lt; omega)
   have b44 : w4.cell? ⟨B, 4, none⟩ = some (.slice EA k.ends.length ec) := (World.cell?_of_block (a := ⟨B, 4, none⟩) hB4).trans hb41
   have b4f : ∀ j, w4.frozen? ⟨B, j, none⟩ = false := heap_free (hB4.trans (HD3d.out.below HAL.out).b)
   clear hn4 hfr4 hos4 htp4 hop4 hsz4 hN4 hB4 hza hn3
   refine hK.out _ _ ?_ (fun hHeld => ?_)
   · (try dsimp only); exact hS4
   clear hK K
   (try simp only [Act.put, sA, sB, sC])
   refine tk 10 ?_
   (try simp only [Act.put, sA, sB, sC])
   refine tk 11 ?_
   (try simp only [Act.put, sA, sB, sC])
   refine wpAnyH_ready (rs := [12]) (by kernel_rfl) (by simp) ?_
   refine AllReadyH.cons (o := ?o428) ?g428 (fun K hK => ?j428) AllReadyH.nil
   case g428 => (simp only [gA, gB, gC]; rfl)
   go_simp
   refine hK.out _ _ ?_ (fun hHeld => ?_)
   · (try dsimp only); exact (World.cell?_setCell_other w4 _ _ _ (fun e => by injection e with e1 e2 e3; exact absurd e2 (by decide))).trans hS4
   clear hK K
   (try simp only [Act.put, sA, sB, sC])
   refine wpAnyH_done (by kernel_rfl) ?_ _
   go_wp2
   go_ret
   exact ⟨VA, vc, A4, c4, rfl, HFIN.out.1, (Frm.of HD0.out.bz (bel2 HB3.out HAL.out)).trans HFIN.out.2⟩
  ·
   go_simp
   refine hK.out _ _ ?_ (fun hHeld => ?_)
   · (try dsimp only); exact hS1
   clear hK K
   (try simp only [Act.put, sA, sB, sC])
   refine wpAnyH_ready (rs := [4]) (by kernel_rfl) (by simp) ?_
   refine AllReadyH.cons (o := ?o429) ?g429 (fun K hK => ?j429) AllReadyH.nil
   case g429 => (simp only [gA, gB, gC]; rfl)
   go_simp
   refine hK.out _ _ ?_ (fun hHeld => ?_)
   · (try dsimp only); exact hS1
   clear hK K
   (try simp only [Act.put, sA, sB, sC])
   refine wpAnyH_ready (rs := [9]) (by kernel_rfl) (by simp) ?_
   refine AllReadyH.cons (o := ?o430) ?g430 (fun K hK => ?j430) AllReadyH.nil
   case g430 => (simp only [gA, gB, gC]; rfl)
   go_simp
   refine HIX.out.mono ?_
   rintro e w4 ⟨A4, c4, rfl, hn4, hfr4, hos4, htp4, hop4, hsz4⟩
   have hza := HZA.out
   have hn3 := HN3.out
   have hN4 := hfr4 w.heap.size (by omega) (fun g he => by have := HGB.out g he; omega)
   have hS4 : w4.cell? ⟨w.heap.size, 10, none⟩ = some (.int .i64 org) := (World.cell?_of_block (a := ⟨w.heap.size, 10, none⟩) hN4).trans hS1
   have HFIN := Lib.hid (DdK.ins (HD3d.out.below HAL.out) hn4 hfr4 hos4 htp4 hop4 hsz4)
   have hB4 := hfr4 B (by have := HBW.out; omega) (fun g he => by have := HD0.out.e.lt g (by rw [he]; rfl); have := HD0.out.lt; omega)
   have b44 : w4.cell? ⟨B, 4, none⟩ = some (.slice EA k.ends.length ec) := (World.cell?_of_block (a := ⟨B, 4, none⟩) hB4).trans hb41
   have b4f : ∀ j, w4.frozen? ⟨B, j, none⟩ = false := heap_free (hB4.trans (HD3d.out.below HAL.out).b)
   clear hn4 hfr4 hos4 htp4 hop4 hsz4 hN4 hB4 hza hn3
   refine hK.out _ _ ?_ (fun hHeld => ?_)
   · (try dsimp only); exact hS4
   clear hK K
   (try simp only [Act.put, sA, sB, sC])
   refine tk 10 ?_
   (try simp only [Act.put, sA, sB, sC])
   refine tk 11 ?_
   (try simp only [Act.put, sA, sB, sC])
   refine wpAnyH_ready (rs := [12]) (by kernel_rfl) (by simp) ?_
   refine AllReadyH.cons (o := ?o433) ?g433 (fun K hK => ?j433) AllReadyH.nil
   case g433 => (simp only [gA, gB, gC]; rfl)
   go_simp
   refine hK.out _ _ ?_ (fun hHeld => ?_)
   · (try dsimp only); exact (World.cell?_setCell_other w4 _ _ _ (fun e => by injection e with e1 e2 e3; exact absurd e2 (by decide))).trans hS4
   clear hK K
   (try simp only [Act.put, sA, sB, sC])
   refine wpAnyH_done (by kernel_rfl) ?_ _
   go_wp2
   go_ret
   exact ⟨VA, vc, A4, c4, rfl, HFIN.out.1, (Frm.of HD0.out.bz (bel2 HB3.out HAL.out)).trans HFIN.out.2⟩
end Go.Proofs.YtachhcabgggimaaGreat

namespace Go.Proofs.YtachhcabgggimaaGreat
open Go.RowKit
set_option linter.unusedVariables false
set_option linter.unusedSimpArgs false
set_option maxRecDepth 20000

theorem wp_store_row {op : Oper} {a : Act} {w : World} {K : Act → World → Prop} {Q : Exit → Act → World → Prop} (ty : TypeId) (x y : Operand) (ho : op.op = .store ty x y)
    (b : Nat) (cells cur : Array Value) (hx : a.eval x = .pointer (some ⟨b, 0, none⟩)) (hy : a.eval y = .agg cells)
    (hh : w.heap[b]? = some (.cells cur ty (0, 0))) (hs : cur.size = cells.size) (hi : (Tryz.prog.info? ty).map (·.size) = some cells.size) (h1 : cells.all (·.oneCell') = true)
    (h : K (a.put op.dst undef) (w.setRow b cells)) : op.wp Tryz.prog a w K Q := by
  unfold Oper.wp execOp
  simp only [ho, hx, hy, Instr.storeAt, Instr.sureAddr, Sem.run_bind, Sem.run_pure, Result.andThen_ok, run_storeVar_row _ _ ty ty cur cells hh hi hs h1]
  exact h

theorem below_setRow {B b : Nat} {w w0 : World} (h : Below B w w0) (hb : B ≤ b) (cs : Array Value) : Below B w (w0.setRow b cs) :=
  ⟨h.os, h.tape, h.output, by simpa using h.size, fun m hm => (setRow_other w0 b m cs (by omega)).trans (h.block m hm)⟩
theorem infoVl5 : (Tryz.prog.info? 55).map (·.size) = some 5 := by kernel_rfl
theorem evK_any (ct : Ctr) (FA : Option Addr) (fc : Nat) (k : Cse) (VA : Option Addr) (vc : Nat) (e : Ex) (A : Option Addr) (c : Nat) (w : World) (hf : FldK w FA fc ct.fs) (hv : VlK w VA vc k.vals) (hx : ExE w A c e) (hok : okX 6 e) (hvs : ∀ v ∈ k.vals, okV v) :
    Calls Tryz.prog 207 #[agX e.op A e.kids.length c e.name e.val, .slice FA ct.fs.length fc, .slice VA k.vals.length vc] w (VMk (pairVE (evK ct k e).1 (evK ct k e).2) w) := by
  obtain ⟨D, hx⟩ := hx
  have h := Eval_any FA fc (ct.fs.map Fld.f) VA vc k.vals D e A c w hx hf.fdk hv hok hvs
  rw [List.length_map] at h
  exact h
theorem mayK_1 {c : Ctr} {k : Cse} {m : Mv} {ev : Ex → Vl × Int} {org : Int} (h : m.frm ≠ k.stage) : mayK c k m ev org = 61 := if_pos h
theorem mayK_2 {c : Ctr} {k : Cse} {m : Mv} {ev : Ex → Vl × Int} {org : Int} (h : m.frm = k.stage) (h2 : 0 ≤ m.org ∧ m.org ≠ org) : mayK c k m ev org = 72 := by
  unfold mayK; rw [if_neg (fun e => e h), if_pos h2]
theorem mayK_3 {c : Ctr} {k : Cse} {m : Mv} {ev : Ex → Vl × Int} {org : Int} (h : m.frm = k.stage) (h2 : ¬ (0 ≤ m.org ∧ m.org ≠ org)) (h3 : (k.ends.length : Int) < (stgAt c k.stage).need) : mayK c k m ev org = 71 := by
  unfold mayK; rw [if_neg (fun e => e h), if_neg h2, if_pos h3]
theorem mayK_4 {c : Ctr} {k : Cse} {m : Mv} {ev : Ex → Vl × Int} {org : Int} (h : m.frm = k.stage) (h2 : ¬ (0 ≤ m.org ∧ m.org ≠ org)) (h3 : ¬ (k.ends.length : Int) < (stgAt c k.stage).need) : mayK c k m ev org = if (ev m.guard).2 ≠ 0 then (ev m.guard).2 else if (ev m.guard).1.b = true then 0 else 70 := by
  unfold mayK; rw [if_neg (fun e => e h), if_neg h2, if_neg h3]
set_option maxHeartbeats 8000000 in
theorem mayMove_any (ct : Ctr) (FA : Option Addr) (fc : Nat) (SA : Option Addr) (sc : Nat) (MA : Option Addr) (mc : Nat) (k : Cse) (VA : Option Addr) (vc : Nat) (EA : Option Addr) (ec : Nat) (nm : ByteArray) (v : Vl) (org : Int) (x : Mv) (A : Option Addr) (c : Nat) (EA2 : Option Addr) (ec2 : Nat) (base B : Nat) (w : World) (h : CtK w ct FA fc SA sc MA mc) (hd : DdK w base B k VA vc EA ec) (hr : RtK ct k) (hvs : ∀ v ∈ k.vals, okV v) (hx : ExE w A c x.guard) (hok : okX 6 x.guard) :
    Calls Tryz.prog 158 #[.agg (csD ct FA fc SA sc MA mc nm v org), .pointer (some ⟨B, 0, none⟩), .agg #[.string x.name, .int .i64 x.frm, .int .i64 x.too, .int .i64 x.guard.op, .slice A x.guard.kids.length c, .string x.guard.name, .int .i64 x.guard.val.k, .int .i64 x.guard.val.i, .bool x.guard.val.b, .string x.guard.val.s, .float .f64 x.guard.val.n, .slice EA2 x.effs.length ec2, .int .i64 x.org]] w (VMk (.int .i64 (mayK ct k x (evK ct k) org)) w) := by
  have hsf := fun (w : World) (a : Addr) (m : Mode) (b : Nat) => run_store Tryz.prog w a (.float .f64 b) m rfl
  have hb2 : Below w.heap.size w ((w.alloc (.cells #[.string ct.name, .slice FA ct.fs.length fc, .slice SA ct.ss.length sc, .slice MA ct.ms.length mc, .string nm, .int .i64 v.k, .int .i64 v.i, .bool v.b, .string v.s, .float .f64 v.n, .int .i64 org] 95)).alloc (.cells #[.string x.name, .int .i64 x.frm, .int .i64 x.too, .int .i64 x.guard.op, .slice A x.guard.kids.length c, .string x.guard.name, .int .i64 x.guard.val.k, .int .i64 x.guard.val.i, .bool x.guard.val.b, .string x.guard.val.s, .float .f64 x.guard.val.n, .slice EA2 x.effs.length ec2, .int .i64 x.org] 80)) := (alloc1 _ _).trans ((alloc1 _ _).mono (by simp))
  have hbd := belowZ (heap_alloc_new w (.cells #[.string ct.name, .slice FA ct.fs.length fc, .slice SA ct.ss.length sc, .slice MA ct.ms.length mc, .string nm, .int .i64 v.k, .int .i64 v.i, .bool v.b, .string v.s, .float .f64 v.n, .int .i64 org] 95)) (alloc1 (w.alloc (.cells #[.string ct.name, .slice FA ct.fs.length fc, .slice SA ct.ss.length sc, .slice MA ct.ms.length mc, .string nm, .int .i64 v.k, .int .i64 v.i, .bool v.b, .string v.s, .float .f64 v.n, .int .i64 org] 95)) (.cells #[.string x.name, .int .i64 x.frm, .int .i64 x.too, .int .i64 x.guard.op, .slice A x.guard.kids.length c, .string x.guard.name, .int .i64 x.guard.val.k, .int .i64 x.guard.val.i, .bool x.guard.val.b, .string x.guard.val.s, .float .f64 x.guard.val.n, .slice EA2 x.effs.length ec2, .int .i64 x.org] 80))
  have hbm := heap_alloc_new (w.alloc (.cells #[.string ct.name, .slice FA ct.fs.length fc, .slice SA ct.ss.length sc, .slice MA ct.ms.length mc, .string nm, .int .i64 v.k, .int .i64 v.i, .bool v.b, .string v.s, .float .f64 v.n, .int .i64 org] 95)) (.cells #[.string x.name, .int .i64 x.frm, .int .i64 x.too, .int .i64 x.guard.op, .slice A x.guard.kids.length c, .string x.guard.name, .int .i64 x.guard.val.k, .int .i64 x.guard.val.i, .bool x.guard.val.b, .string x.guard.val.s, .float .f64 x.guard.val.n, .slice EA2 x.effs.length ec2, .int .i64 x.org] 80)
  rw [World.size_alloc] at hbm
  have hbB := belowZ hd.b hb2
  have HST := Lib.hid (fun W (hb : Below w.heap.size w W) => dStage_any ct FA fc SA sc MA mc k VA vc EA ec nm v org B W (h.below hb) (hd.below hb).b hr.s0 hr.s1)
  have HEV := Lib.hid (fun W (hb : Below w.heap.size w W) => evK_any ct FA fc k VA vc x.guard A c W (h.f.below hb) ((hd.vlk.k).below hb (Nat.le_refl _)) (hx.below hb) hok hvs)
  have HB2 := Lib.hid hb2
  have HY1 := Lib.hid (fun h => mayK_1 (c := ct) (k := k) (m := x) (ev := evK ct k) (org := org) h)
  have HY2 := Lib.hid (fun h h2 => mayK_2 (c := ct) (k := k) (m := x) (ev := evK ct k) (org := org) h h2)
  have HY3 := Lib.hid (fun h h2 h3 => mayK_3 (c := ct) (k := k) (m := x) (ev := evK ct k) (org := org) h h2 h3)
  have HY4 := Lib.hid (fun h h2 h3 => mayK_4 (c := ct) (k := k) (m := x) (ev := evK ct k) (org := org) h h2 h3)
  clear h hd hr hvs hx hok hb2
  generalize mayK ct k x (evK ct k) org = Y at *
  generalize hev : evK ct k x.guard = E at *
  obtain ⟨gv, ge⟩ := E
  clear hev
  generalize stgAt ct k.stage = s at *
  obtain ⟨id, kc, st, vals, ends, su, sh, sp⟩ := k
  go_enter Tryz.func158, Tryz.ntmps158
  go_upto_region 1 with fail
  generalize (w.alloc (.cells #[.string ct.name, .slice FA ct.fs.length fc, .slice SA ct.ss.length sc, .slice MA ct.ms.length mc, .string nm, .int .i64 v.k, .int .i64 v.i, .bool v.b, .string v.s, .float .f64 v.n, .int .i64 org] 95)).alloc (.cells #[.string x.name, .int .i64 x.frm, .int .i64 x.too, .int .i64 x.guard.op, .slice A x.guard.kids.length c, .string x.guard.name, .int .i64 x.guard.val.k, .int .i64 x.guard.val.i, .bool x.guard.val.b, .string x.guard.val.s, .float .f64 x.guard.val.n, .slice EA2 x.effs.length ec2, .int .i64 x.org] 80) = w1 at *
  have d0 := (heap_at hbd 0).trans (rfl : _ = some (Value.string ct.name))
  have d1 := (heap_at hbd 1).trans (rfl : _ = some (Value.slice FA ct.fs.length fc))
  have d2 := (heap_at hbd 2).trans (rfl : _ = some (Value.slice SA ct.ss.length sc))
  have d3 := (heap_at hbd 3).trans (rfl : _ = some (Value.slice MA ct.ms.length mc))
  have d4 := (heap_at hbd 4).trans (rfl : _ = some (Value.string nm))
  have d5 := (heap_at hbd 5).trans (rfl : _ = some (Value.int .i64 v.k))
  have d6 := (heap_at hbd 6).trans (rfl : _ = some (Value.int .i64 v.i))
  have d7 := (heap_at hbd 7).trans (rfl : _ = some (Value.bool v.b))
  have d8 := (heap_at hbd 8).trans (rfl : _ = some (Value.string v.s))
  have d9 := (heap_at hbd 9).trans (rfl : _ = some (Value.float .f64 v.n))
  have d10 := (heap_at hbd 10).trans (rfl : _ = some (Value.int .i64 org))
  have df := heap_free hbd
  have dl := heap_ltZ hbd
  have m0 := (heap_at hbm 0).trans (rfl : _ = some (Value.string x.name))
  have m1 := (heap_at hbm 1).trans (rfl : _ = some (Value.int .i64 x.frm))
  have m2 := (heap_at hbm 2).trans (rfl : _ = some (Value.int .i64 x.too))
  have m3 := (heap_at hbm 3).trans (rfl : _ = some (Value.int .i64 x.guard.op))
  have m4 := (heap_at hbm 4).trans (rfl : _ = some (Value.slice A x.guard.kids.length c))
  have m5 := (heap_at hbm 5).trans (rfl : _ = some (Value.string x.guard.name))
  have m6 := (heap_at hbm 6).trans (rfl : _ = some (Value.int .i64 x.guard.val.k))
  have m7 := (heap_at hbm 7).trans (rfl : _ = some (Value.int .i64 x.guard.val.i))
  have m8 := (heap_at hbm 8).trans (rfl : _ = some (Value.bool x.guard.val.b))
  have m9 := (heap_at hbm 9).trans (rfl : _ = some (Value.string x.guard.val.s))
  have m10 := (heap_at hbm 10).trans (rfl : _ = some (Value.float .f64 x.guard.val.n))
  have m11 := (heap_at hbm 11).trans (rfl : _ = some (Value.slice EA2 x.effs.length ec2))
  have m12 := (heap_at hbm 12).trans (rfl : _ = some (Value.int .i64 x.org))
  have mf := heap_free hbm
  have ml := heap_ltZ hbm
  have k0 := (heap_at hbB 0).trans (rfl : _ = some (Value.string id))
  have k1 := (heap_at hbB 1).trans (rfl : _ = some (Value.string kc))
  have k2 := (heap_at hbB 2).trans (rfl : _ = some (Value.int .i64 st))
  have k3 := (heap_at hbB 3).trans (rfl : _ = some (Value.slice VA vals.length vc))
  have k4 := (heap_at hbB 4).trans (rfl : _ = some (Value.slice EA ends.length ec))
  have k5 := (heap_at hbB 5).trans (rfl : _ = some (Value.bool su))
  have k6 := (heap_at hbB 6).trans (rfl : _ = some (Value.bool sh))
  have k7 := (heap_at hbB 7).trans (rfl : _ = some (Value.int .i64 sp))
  have kf := heap_free hbB
  have kl := heap_ltZ hbB
  have HBD := Lib.hid hbd
  have HBM := Lib.hid hbm
  have HBB := Lib.hid hbB
  clear hbd hbm hbB
  by_cases h1 : x.frm = st
  case neg =>
    have hy := HY1.out h1
    have h1b : (x.frm != st) = true := by simpa using h1
    subst hy
    clear h1
    go_quiet (fail)
    go_wp2
    go_ret
    exact ⟨rfl, HB2.out.trans (below_drewN (Below.refl _ _) _ |>.mono HB2.out.size)⟩
  have H1 := Lib.hid h1
  have h1b : (x.frm != st) = false := by simp [h1]
  clear h1
  go_quiet (fail)
  have hqq := below_drewN (Below.refl w1.heap.size w1) nq
  have HQ := Lib.hid hqq
  have HBDq := Lib.hid (belowZ HBD.out hqq)
  have HBMq := Lib.hid (belowZ HBM.out hqq)
  have HBBq := Lib.hid (belowZ HBB.out hqq)
  have HB3 := Lib.hid (bel2 HB2.out HQ.out)
  clear hqq HQ HBD HBM HBB d0 d1 d2 d3 d4 d5 d6 d7 d8 d9 d10 df dl m0 m1 m2 m3 m4 m5 m6 m7 m8 m9 m10 m11 m12 mf ml k0 k1 k2 k3 k4 k5 k6 k7 kf kl
  generalize w1.drewN nq = w2 at *
  have d0 := (heap_at HBDq.out 0).trans (rfl : _ = some (Value.string ct.name))
  have d1 := (heap_at HBDq.out 1).trans (rfl : _ = some (Value.slice FA ct.fs.length fc))
  have d2 := (heap_at HBDq.out 2).trans (rfl : _ = some (Value.slice SA ct.ss.length sc))
  have d3 := (heap_at HBDq.out 3).trans (rfl : _ = some (Value.slice MA ct.ms.length mc))
  have d4 := (heap_at HBDq.out 4).trans (rfl : _ = some (Value.string nm))
  have d5 := (heap_at HBDq.out 5).trans (rfl : _ = some (Value.int .i64 v.k))
  have d6 := (heap_at HBDq.out 6).trans (rfl : _ = some (Value.int .i64 v.i))
  have d7 := (heap_at HBDq.out 7).trans (rfl : _ = some (Value.bool v.b))
  have d8 := (heap_at HBDq.out 8).trans (rfl : _ = some (Value.string v.s))
  have d9 := (heap_at HBDq.out 9).trans (rfl : _ = some (Value.float .f64 v.n))
  have d10 := (heap_at HBDq.out 10).trans (rfl : _ = some (Value.int .i64 org))
  have df := heap_free HBDq.out
  have dl := heap_ltZ HBDq.out
  have m0 := (heap_at HBMq.out 0).trans (rfl : _ = some (Value.string x.name))
  have m1 := (heap_at HBMq.out 1).trans (rfl : _ = some (Value.int .i64 x.frm))
  have m2 := (heap_at HBMq.out 2).trans (rfl : _ = some (Value.int .i64 x.too))
  have m3 := (heap_at HBMq.out 3).trans (rfl : _ = some (Value.int .i64 x.guard.op))
  have m4 := (heap_at HBMq.out 4).trans (rfl : _ = some (Value.slice A x.guard.kids.length c))
  have m5 := (heap_at HBMq.out 5).trans (rfl : _ = some (Value.string x.guard.name))
  have m6 := (heap_at HBMq.out 6).trans (rfl : _ = some (Value.int .i64 x.guard.val.k))
  have m7 := (heap_at HBMq.out 7).trans (rfl : _ = some (Value.int .i64 x.guard.val.i))
  have m8 := (heap_at HBMq.out 8).trans (rfl : _ = some (Value.bool x.guard.val.b))
  have m9 := (heap_at HBMq.out 9).trans (rfl : _ = some (Value.string x.guard.val.s))
  have m10 := (heap_at HBMq.out 10).trans (rfl : _ = some (Value.float .f64 x.guard.val.n))
  have m11 := (heap_at HBMq.out 11).trans (rfl : _ = some (Value.slice EA2 x.effs.length ec2))
  have m12 := (heap_at HBMq.out 12).trans (rfl : _ = some (Value.int .i64 x.org))
  have mf := heap_free HBMq.out
  have ml := heap_ltZ HBMq.out
  have k0 := (heap_at HBBq.out 0).trans (rfl : _ = some (Value.string id))
  have k1 := (heap_at HBBq.out 1).trans (rfl : _ = some (Value.string kc))
  have k2 := (heap_at HBBq.out 2).trans (rfl : _ = some (Value.int .i64 st))
  have k3 := (heap_at HBBq.out 3).trans (rfl : _ = some (Value.slice VA vals.length vc))
  have k4 := (heap_at HBBq.out 4).trans (rfl : _ = some (Value.slice EA ends.length ec))
  have k5 := (heap_at HBBq.out 5).trans (rfl : _ = some (Value.bool su))
  have k6 := (heap_at HBBq.out 6).trans (rfl : _ = some (Value.bool sh))
  have k7 := (heap_at HBBq.out 7).trans (rfl : _ = some (Value.int .i64 sp))
  have kf := heap_free HBBq.out
  have kl := heap_ltZ HBBq.out
  by_cases h2 : 0 ≤ x.org ∧ x.org ≠ org
  case pos =>
    have hy := HY2.out H1.out h2
    have h2a := h2.1
    have h2b : (x.org != org) = true := by simpa using h2.2
    subst hy
    clear h2
    go_wp2
    go_ret
    exact ⟨rfl, HB3.out⟩
  have H2 := Lib.hid h2
  have hcase : x.org < 0 ∨ (0 ≤ x.org ∧ (x.org != org) = false) := by
    by_cases h0 : 0 ≤ x.org
    · exact .inr ⟨h0, by simpa using fun e => h2 ⟨h0, e⟩⟩
    · exact .inl (by omega)
  clear h2
  rcases hcase with h2a | ⟨h2a, h2b⟩
  · have h2c : ¬ 0 ≤ x.org := by omega
    go_upto_region 5 with fail
    clear h2a h2c
    have HK := Lib.hid (show ∀ W, Below w2.heap.size w2 W → (fun W => Below w2.heap.size w2 W ∧ W.cell? ⟨w.heap.size, 0, none⟩ = some (.string ct.name) ∧ W.cell? ⟨w.heap.size, 1, none⟩ = some (.slice FA ct.fs.length fc) ∧ W.cell? ⟨w.heap.size, 2, none⟩ = some (.slice SA ct.ss.length sc) ∧ W.cell? ⟨w.heap.size, 3, none⟩ = some (.slice MA ct.ms.length mc) ∧ W.cell? ⟨w.heap.size, 4, none⟩ = some (.string nm) ∧ W.cell? ⟨w.heap.size, 5, none⟩ = some (.int .i64 v.k) ∧ W.cell? ⟨w.heap.size, 6, none⟩ = some (.int .i64 v.i) ∧ W.cell? ⟨w.heap.size, 7, none⟩ = some (.bool v.b) ∧ W.cell? ⟨w.heap.size, 8, none⟩ = some (.string v.s) ∧ W.cell? ⟨w.heap.size, 9, none⟩ = some (.float .f64 v.n) ∧ W.cell? ⟨w.heap.size, 10, none⟩ = some (.int .i64 org) ∧ W.cell? ⟨B, 4, none⟩ = some (.slice EA ends.length ec)) W from fun W h => ⟨h, (h.cell (World.block_lt_of_cell? _ _ d0)).trans d0, (h.cell (World.block_lt_of_cell? _ _ d1)).trans d1, (h.cell (World.block_lt_of_cell? _ _ d2)).trans d2, (h.cell (World.block_lt_of_cell? _ _ d3)).trans d3, (h.cell (World.block_lt_of_cell? _ _ d4)).trans d4, (h.cell (World.block_lt_of_cell? _ _ d5)).trans d5, (h.cell (World.block_lt_of_cell? _ _ d6)).trans d6, (h.cell (World.block_lt_of_cell? _ _ d7)).trans d7, (h.cell (World.block_lt_of_cell? _ _ d8)).trans d8, (h.cell (World.block_lt_of_cell? _ _ d9)).trans d9, (h.cell (World.block_lt_of_cell? _ _ d10)).trans d10, (h.cell (World.block_lt_of_cell? _ _ k4)).trans k4⟩)
    have HBr0 := Lib.hid (show Below w2.heap.size w2 w2.drew from (Below.refl _ _).drew)
    have HS0 := Lib.hid (HK.out w2.drew HBr0.out)
    go_region_held3 (fun W => Below w2.heap.size w2 W ∧ W.cell? ⟨w.heap.size, 0, none⟩ = some (.string ct.name) ∧ W.cell? ⟨w.heap.size, 1, none⟩ = some (.slice FA ct.fs.length fc) ∧ W.cell? ⟨w.heap.size, 2, none⟩ = some (.slice SA ct.ss.length sc) ∧ W.cell? ⟨w.heap.size, 3, none⟩ = some (.slice MA ct.ms.length mc) ∧ W.cell? ⟨w.heap.size, 4, none⟩ = some (.string nm) ∧ W.cell? ⟨w.heap.size, 5, none⟩ = some (.int .i64 v.k) ∧ W.cell? ⟨w.heap.size, 6, none⟩ = some (.int .i64 v.i) ∧ W.cell? ⟨w.heap.size, 7, none⟩ = some (.bool v.b) ∧ W.cell? ⟨w.heap.size, 8, none⟩ = some (.string v.s) ∧ W.cell? ⟨w.heap.size, 9, none⟩ = some (.float .f64 v.n) ∧ W.cell? ⟨w.heap.size, 10, none⟩ = some (.int .i64 org) ∧ W.cell? ⟨B, 4, none⟩ = some (.slice EA ends.length ec)) (first | assumption | exact HK.out _ HBr1.out | exact HS0.out) (first
        | (go_at_call 155; refine (HST.out _ (bel2 HB3.out HBr0.out)).mono ?_; rintro e wr1 ⟨A2, c2, rfl, -, hbr1⟩; have hfd := fun w : World => (show (Instr.field 65 (.agg #[.string s.name, .int .i64 s.need, .slice A2 s.orgs.length c2]) 1).run Tryz.prog w = .ok (.int .i64 s.need) w by kernel_rfl); have HBr1 := Lib.hid (bel2 HBr0.out hbr1); clear hbr1))
    have HB4 := Lib.hid (bel2 HB3.out HBr1.out)
    have HBD5 := Lib.hid (belowZ HBDq.out HBr1.out)
    have HBM5 := Lib.hid (belowZ HBMq.out HBr1.out)
    have HBB5 := Lib.hid (belowZ HBBq.out HBr1.out)
    clear d0 d1 d2 d3 d4 d5 d6 d7 d8 d9 d10 df dl m0 m1 m2 m3 m4 m5 m6 m7 m8 m9 m10 m11 m12 mf ml k0 k1 k2 k3 k4 k5 k6 k7 kf kl hfd
    by_cases h3 : (ends.length : Int) < s.need
    · have hy := HY3.out H1.out H2.out h3
      subst hy
      go_wp2
      go_ret
      exact ⟨rfl, HB4.out⟩
    have hy4 := HY4.out H1.out H2.out (by omega)
    clear HY1 HY2 HY3 HY4
    go_upto_region 7 with fail
    clear h3 HK HS0 HBr0 HBr1
    generalize wr1 = w3 at *
    have d0 := (heap_at HBD5.out 0).trans (rfl : _ = some (Value.string ct.name))
    have d1 := (heap_at HBD5.out 1).trans (rfl : _ = some (Value.slice FA ct.fs.length fc))
    have d2 := (heap_at HBD5.out 2).trans (rfl : _ = some (Value.slice SA ct.ss.length sc))
    have d3 := (heap_at HBD5.out 3).trans (rfl : _ = some (Value.slice MA ct.ms.length mc))
    have d4 := (heap_at HBD5.out 4).trans (rfl : _ = some (Value.string nm))
    have d5 := (heap_at HBD5.out 5).trans (rfl : _ = some (Value.int .i64 v.k))
    have d6 := (heap_at HBD5.out 6).trans (rfl : _ = some (Value.int .i64 v.i))
    have d7 := (heap_at HBD5.out 7).trans (rfl : _ = some (Value.bool v.b))
    have d8 := (heap_at HBD5.out 8).trans (rfl : _ = some (Value.string v.s))
    have d9 := (heap_at HBD5.out 9).trans (rfl : _ = some (Value.float .f64 v.n))
    have d10 := (heap_at HBD5.out 10).trans (rfl : _ = some (Value.int .i64 org))
    have df := heap_free HBD5.out
    have dl := heap_ltZ HBD5.out
    have m0 := (heap_at HBM5.out 0).trans (rfl : _ = some (Value.string x.name))
    have m1 := (heap_at HBM5.out 1).trans (rfl : _ = some (Value.int .i64 x.frm))
    have m2 := (heap_at HBM5.out 2).trans (rfl : _ = some (Value.int .i64 x.too))
    have m3 := (heap_at HBM5.out 3).trans (rfl : _ = some (Value.int .i64 x.guard.op))
    have m4 := (heap_at HBM5.out 4).trans (rfl : _ = some (Value.slice A x.guard.kids.length c))
    have m5 := (heap_at HBM5.out 5).trans (rfl : _ = some (Value.string x.guard.name))
    have m6 := (heap_at HBM5.out 6).trans (rfl : _ = some (Value.int .i64 x.guard.val.k))
    have m7 := (heap_at HBM5.out 7).trans (rfl : _ = some (Value.int .i64 x.guard.val.i))
    have m8 := (heap_at HBM5.out 8).trans (rfl : _ = some (Value.bool x.guard.val.b))
    have m9 := (heap_at HBM5.out 9).trans (rfl : _ = some (Value.string x.guard.val.s))
    have m10 := (heap_at HBM5.out 10).trans (rfl : _ = some (Value.float .f64 x.guard.val.n))
    have m11 := (heap_at HBM5.out 11).trans (rfl : _ = some (Value.slice EA2 x.effs.length ec2))
    have m12 := (heap_at HBM5.out 12).trans (rfl : _ = some (Value.int .i64 x.org))
    have mf := heap_free HBM5.out
    have ml := heap_ltZ HBM5.out
    have k0 := (heap_at HBB5.out 0).trans (rfl : _ = some (Value.string id))
    have k1 := (heap_at HBB5.out 1).trans (rfl : _ = some (Value.string kc))
    have k2 := (heap_at HBB5.out 2).trans (rfl : _ = some (Value.int .i64 st))
    have k3 := (heap_at HBB5.out 3).trans (rfl : _ = some (Value.slice VA vals.length vc))
    have k4 := (heap_at HBB5.out 4).trans (rfl : _ = some (Value.slice EA ends.length ec))
    have k5 := (heap_at HBB5.out 5).trans (rfl : _ = some (Value.bool su))
    have k6 := (heap_at HBB5.out 6).trans (rfl : _ = some (Value.bool sh))
    have k7 := (heap_at HBB5.out 7).trans (rfl : _ = some (Value.int .i64 sp))
    have kf := heap_free HBB5.out
    have kl := heap_ltZ HBB5.out
    have HK7 := Lib.hid (show ∀ W, Below w3.heap.size w3 W → (fun W => Below w3.heap.size w3 W ∧ W.cell? ⟨w.heap.size, 1, none⟩ = some (.slice FA ct.fs.length fc) ∧ W.cell? ⟨(w.heap.size + 1), 3, none⟩ = some (.int .i64 x.guard.op) ∧ W.cell? ⟨(w.heap.size + 1), 4, none⟩ = some (.slice A x.guard.kids.length c) ∧ W.cell? ⟨(w.heap.size + 1), 5, none⟩ = some (.string x.guard.name) ∧ W.cell? ⟨(w.heap.size + 1), 6, none⟩ = some (.int .i64 x.guard.val.k) ∧ W.cell? ⟨(w.heap.size + 1), 7, none⟩ = some (.int .i64 x.guard.val.i) ∧ W.cell? ⟨(w.heap.size + 1), 8, none⟩ = some (.bool x.guard.val.b) ∧ W.cell? ⟨(w.heap.size + 1), 9, none⟩ = some (.string x.guard.val.s) ∧ W.cell? ⟨(w.heap.size + 1), 10, none⟩ = some (.float .f64 x.guard.val.n) ∧ W.cell? ⟨B, 3, none⟩ = some (.slice VA vals.length vc)) W from fun W h => ⟨h, (h.cell (World.block_lt_of_cell? _ _ d1)).trans d1, (h.cell (World.block_lt_of_cell? _ _ m3)).trans m3, (h.cell (World.block_lt_of_cell? _ _ m4)).trans m4, (h.cell (World.block_lt_of_cell? _ _ m5)).trans m5, (h.cell (World.block_lt_of_cell? _ _ m6)).trans m6, (h.cell (World.block_lt_of_cell? _ _ m7)).trans m7, (h.cell (World.block_lt_of_cell? _ _ m8)).trans m8, (h.cell (World.block_lt_of_cell? _ _ m9)).trans m9, (h.cell (World.block_lt_of_cell? _ _ m10)).trans m10, (h.cell (World.block_lt_of_cell? _ _ k3)).trans k3⟩)
    have HBs0 := Lib.hid (show Below w3.heap.size w3 w3.drew from (Below.refl _ _).drew)
    clear d0 d1 d2 d3 d4 d5 d6 d7 d8 d9 d10 df dl m0 m1 m2 m3 m4 m5 m6 m7 m8 m9 m10 m11 m12 mf ml k0 k1 k2 k3 k4 k5 k6 k7 kf kl
    refine wp_region_held_drew (S := (fun W => Below w3.heap.size w3 W ∧ W.cell? ⟨w.heap.size, 1, none⟩ = some (.slice FA ct.fs.length fc) ∧ W.cell? ⟨(w.heap.size + 1), 3, none⟩ = some (.int .i64 x.guard.op) ∧ W.cell? ⟨(w.heap.size + 1), 4, none⟩ = some (.slice A x.guard.kids.length c) ∧ W.cell? ⟨(w.heap.size + 1), 5, none⟩ = some (.string x.guard.name) ∧ W.cell? ⟨(w.heap.size + 1), 6, none⟩ = some (.int .i64 x.guard.val.k) ∧ W.cell? ⟨(w.heap.size + 1), 7, none⟩ = some (.int .i64 x.guard.val.i) ∧ W.cell? ⟨(w.heap.size + 1), 8, none⟩ = some (.bool x.guard.val.b) ∧ W.cell? ⟨(w.heap.size + 1), 9, none⟩ = some (.string x.guard.val.s) ∧ W.cell? ⟨(w.heap.size + 1), 10, none⟩ = some (.float .f64 x.guard.val.n) ∧ W.cell? ⟨B, 3, none⟩ = some (.slice VA vals.length vc))) (by kernel_rfl) (HK7.out _ HBs0.out) (fun hHeld => ?_)
    refine tk 0 ?_
    (try simp only [Act.put, sA, sB, sC])
    refine tk 1 ?_
    (try simp only [Act.put, sA, sB, sC])
    refine tk 2 ?_
    (try simp only [Act.put, sA, sB, sC])
    refine tk 3 ?_
    (try simp only [Act.put, sA, sB, sC])
    refine tk 4 ?_
    (try simp only [Act.put, sA, sB, sC])
    refine tk 5 ?_
    (try simp only [Act.put, sA, sB, sC])
    refine tk 6 ?_
    (try simp only [Act.put, sA, sB, sC])
    refine tk 7 ?_
    (try simp only [Act.put, sA, sB, sC])
    refine tk 8 ?_
    (try simp only [Act.put, sA, sB, sC])
    refine wpAnyH_ready (rs := [9, 13]) (by kernel_rfl) (by simp) ?_
    refine AllReadyH.cons (o := ?o378) ?g378 (fun K hK => ?j378) (AllReadyH.cons (o := ?o379) ?g379 (fun K hK => ?j379) AllReadyH.nil)
    case g378 => (simp only [gA, gB, gC]; rfl)
    case g379 => (simp only [gA, gB, gC]; rfl)
    ·
     go_simp
     refine (HEV.out _ (bel2 HB4.out HBs0.out)).mono ?_
     rintro e ws1 ⟨rfl, hbs1⟩
     have HBs1 := Lib.hid (bel2 HBs0.out hbs1)
     clear hbs1
     refine hK.out _ _ ?_ (fun hHeld => ?_)
     · (try dsimp only); (first | assumption | exact HK7.out _ HBs2.out | exact HK7.out _ HBs1.out | exact HK7.out _ HBs0.out)
     clear hK K
     (try simp only [Act.put, sA, sB, sC])
     refine tk 10 ?_
     (try simp only [Act.put, sA, sB, sC])
     refine tk 11 ?_
     (try simp only [Act.put, sA, sB, sC])
     refine tk 12 ?_
     (try simp only [Act.put, sA, sB, sC])
     refine wpAnyH_ready (rs := [13]) (by kernel_rfl) (by simp) ?_
     refine AllReadyH.cons (o := ?o383) ?g383 (fun K hK => ?j383) AllReadyH.nil
     case g383 => (simp only [gA, gB, gC]; rfl)
     go_simp
     refine hK.out _ _ ?_ (fun hHeld => ?_)
     · (try dsimp only); exact HK7.out _ (bel2 HBs1.out (alloc1 _ _))
     clear hK K
     (try simp only [Act.put, sA, sB, sC])
     refine wpAnyH_ready (rs := [14]) (by kernel_rfl) (by simp) ?_
     refine AllReadyH.cons (o := ?o384) ?g384 (fun K hK => ?j384) AllReadyH.nil
     case g384 => (simp only [gA, gB, gC]; rfl)
     go_simp
     refine hK.out _ _ ?_ (fun hHeld => ?_)
     · (try dsimp only); exact HK7.out _ (bel2 HBs1.out (alloc1 _ _))
     clear hK K
     (try simp only [Act.put, sA, sB, sC])
     refine tk 15 ?_
     (try simp only [Act.put, sA, sB, sC])
     refine wpAnyH_done (by kernel_rfl) ?_ _
     have hbx := heap_alloc_new ws1 (.cells #[.int .i64 gv.k, .int .i64 gv.i, .bool gv.b, .string gv.s, .float .f64 gv.n] 55)
     have HBe := Lib.hid (bel2 HB4.out (bel2 HBs1.out (alloc1 ws1 (.cells #[.int .i64 gv.k, .int .i64 gv.i, .bool gv.b, .string gv.s, .float .f64 gv.n] 55))))
     generalize ws1.alloc (.cells #[.int .i64 gv.k, .int .i64 gv.i, .bool gv.b, .string gv.s, .float .f64 gv.n] 55) = we at *
     generalize ws1.heap.size = nb at *
     have bx2 := (heap_at hbx 2).trans (rfl : _ = some (Value.bool gv.b))
     by_cases h4 : ge = 0
     · subst h4
       rw [if_neg (fun h => h rfl)] at hy4
       have h00 : ((0 : Int) == 0) = true := rfl
       rcases hgb : gv.b with _ | _
       · have hy : Y = 70 := by rw [hy4, hgb]; rfl
         rw [hgb] at bx2
         subst hy
         clear hy4 hgb
         go_wp2
         go_ret
         exact ⟨rfl, HBe.out⟩
       · have hy : Y = 0 := by rw [hy4, hgb]; rfl
         rw [hgb] at bx2
         subst hy
         clear hy4 hgb
         go_wp2
         go_ret
         exact ⟨rfl, HBe.out⟩
     · rw [if_pos h4] at hy4
       have h4b : (ge == 0) = false := by simpa using h4
       subst hy4
       clear h4
       go_wp2
       go_ret
       exact ⟨rfl, HBe.out⟩
    ·
     go_simp
     refine hK.out _ _ ?_ (fun hHeld => ?_)
     · (try dsimp only); exact HK7.out _ (bel2 HBs0.out (alloc1 _ _))
     clear hK K
     (try simp only [Act.put, sA, sB, sC])
     refine wpAnyH_ready (rs := [9]) (by kernel_rfl) (by simp) ?_
     refine AllReadyH.cons (o := ?o386) ?g386 (fun K hK => ?j386) AllReadyH.nil
     case g386 => (simp only [gA, gB, gC]; rfl)
     go_simp
     refine (HEV.out _ (bel2 HB4.out (bel2 HBs0.out (alloc1 _ _)))).mono ?_
     rintro e ws1 ⟨rfl, hbs1⟩
     have hz0 : ws1.heap[w3.heap.size]? = some (.cells #[.int .i64 0, .int .i64 0, .bool false, .string ⟨#[]⟩, .float .f64 0] 55 (0, 0)) := belowZ (heap_alloc_new w3.drew (.cells #[.int .i64 0, .int .i64 0, .bool false, .string ⟨#[]⟩, .float .f64 0] 55)) hbs1
     have HBs1 := Lib.hid (bel2 (bel2 HBs0.out (alloc1 _ _)) hbs1)
     clear hbs1
     refine hK.out _ _ ?_ (fun hHeld => ?_)
     · (try dsimp only); (first | assumption | exact HK7.out _ HBs2.out | exact HK7.out _ HBs1.out | exact HK7.out _ HBs0.out)
     clear hK K
     (try simp only [Act.put, sA, sB, sC])
     refine tk 10 ?_
     (try simp only [Act.put, sA, sB, sC])
     refine tk 11 ?_
     (try simp only [Act.put, sA, sB, sC])
     refine tk 12 ?_
     (try simp only [Act.put, sA, sB, sC])
     refine wpAnyH_ready (rs := [14]) (by kernel_rfl) (by simp) ?_
     refine AllReadyH.cons (o := ?o390) ?g390 (fun K hK => ?j390) AllReadyH.nil
     case g390 => (simp only [gA, gB, gC]; rfl)
     refine wp_store_row 55 (.tmp 7) (.tmp 50) rfl w3.heap.size #[.int .i64 gv.k, .int .i64 gv.i, .bool gv.b, .string gv.s, .float .f64 gv.n] #[.int .i64 0, .int .i64 0, .bool false, .string ⟨#[]⟩, .float .f64 0] rfl rfl hz0 rfl infoVl5 (all_oneCell_toArray (cs := vCells gv) (by have h := vCells_one [gv]; simpa using h)) ?_
     refine hK.out _ _ ?_ (fun hHeld => ?_)
     · (try dsimp only); exact HK7.out _ (below_setRow HBs1.out (Nat.le_refl _) _)
     clear hK K
     (try simp only [Act.put, sA, sB, sC])
     refine tk 15 ?_
     (try simp only [Act.put, sA, sB, sC])
     refine wpAnyH_done (by kernel_rfl) ?_ _
     have hbx := setRow_heap ws1 w3.heap.size _ #[.int .i64 gv.k, .int .i64 gv.i, .bool gv.b, .string gv.s, .float .f64 gv.n] 55 (0, 0) hz0
     have HBe := Lib.hid (bel2 HB4.out (below_setRow HBs1.out (Nat.le_refl _) #[.int .i64 gv.k, .int .i64 gv.i, .bool gv.b, .string gv.s, .float .f64 gv.n]))
     generalize ws1.setRow w3.heap.size #[.int .i64 gv.k, .int .i64 gv.i, .bool gv.b, .string gv.s, .float .f64 gv.n] = we at *
     have bx2 := (heap_at hbx 2).trans (rfl : _ = some (Value.bool gv.b))
     by_cases h4 : ge = 0
     · subst h4
       rw [if_neg (fun h => h rfl)] at hy4
       have h00 : ((0 : Int) == 0) = true := rfl
       rcases hgb : gv.b with _ | _
       · have hy : Y = 70 := by rw [hy4, hgb]; rfl
         rw [hgb] at bx2
         subst hy
         clear hy4 hgb
         go_wp2
         go_ret
         exact ⟨rfl, HBe.out⟩
       · have hy : Y = 0 := by rw [hy4, hgb]; rfl
         rw [hgb] at bx2
         subst hy
         clear hy4 hgb
         go_wp2
         go_ret
         exact ⟨rfl, HBe.out⟩
     · rw [if_pos h4] at hy4
       have h4b : (ge == 0) = false := by simpa using h4
       subst hy4
       clear h4
       go_wp2
       go_ret
       exact ⟨rfl, HBe.out⟩
  · go_upto_region 5 with fail
    clear h2a h2b
    have HK := Lib.hid (show ∀ W, Below w2.heap.size w2 W → (fun W => Below w2.heap.size w2 W ∧ W.cell? ⟨w.heap.size, 0, none⟩ = some (.string ct.name) ∧ W.cell? ⟨w.heap.size, 1, none⟩ = some (.slice FA ct.fs.length fc) ∧ W.cell? ⟨w.heap.size, 2, none⟩ = some (.slice SA ct.ss.length sc) ∧ W.cell? ⟨w.heap.size, 3, none⟩ = some (.slice MA ct.ms.length mc) ∧ W.cell? ⟨w.heap.size, 4, none⟩ = some (.string nm) ∧ W.cell? ⟨w.heap.size, 5, none⟩ = some (.int .i64 v.k) ∧ W.cell? ⟨w.heap.size, 6, none⟩ = some (.int .i64 v.i) ∧ W.cell? ⟨w.heap.size, 7, none⟩ = some (.bool v.b) ∧ W.cell? ⟨w.heap.size, 8, none⟩ = some (.string v.s) ∧ W.cell? ⟨w.heap.size, 9, none⟩ = some (.float .f64 v.n) ∧ W.cell? ⟨w.heap.size, 10, none⟩ = some (.int .i64 org) ∧ W.cell? ⟨B, 4, none⟩ = some (.slice EA ends.length ec)) W from fun W h => ⟨h, (h.cell (World.block_lt_of_cell? _ _ d0)).trans d0, (h.cell (World.block_lt_of_cell? _ _ d1)).trans d1, (h.cell (World.block_lt_of_cell? _ _ d2)).trans d2, (h.cell (World.block_lt_of_cell? _ _ d3)).trans d3, (h.cell (World.block_lt_of_cell? _ _ d4)).trans d4, (h.cell (World.block_lt_of_cell? _ _ d5)).trans d5, (h.cell (World.block_lt_of_cell? _ _ d6)).trans d6, (h.cell (World.block_lt_of_cell? _ _ d7)).trans d7, (h.cell (World.block_lt_of_cell? _ _ d8)).trans d8, (h.cell (World.block_lt_of_cell? _ _ d9)).trans d9, (h.cell (World.block_lt_of_cell? _ _ d10)).trans d10, (h.cell (World.block_lt_of_cell? _ _ k4)).trans k4⟩)
    have HBr0 := Lib.hid (show Below w2.heap.size w2 w2.drew from (Below.refl _ _).drew)
    have HS0 := Lib.hid (HK.out w2.drew HBr0.out)
    go_region_held3 (fun W => Below w2.heap.size w2 W ∧ W.cell? ⟨w.heap.size, 0, none⟩ = some (.string ct.name) ∧ W.cell? ⟨w.heap.size, 1, none⟩ = some (.slice FA ct.fs.length fc) ∧ W.cell? ⟨w.heap.size, 2, none⟩ = some (.slice SA ct.ss.length sc) ∧ W.cell? ⟨w.heap.size, 3, none⟩ = some (.slice MA ct.ms.length mc) ∧ W.cell? ⟨w.heap.size, 4, none⟩ = some (.string nm) ∧ W.cell? ⟨w.heap.size, 5, none⟩ = some (.int .i64 v.k) ∧ W.cell? ⟨w.heap.size, 6, none⟩ = some (.int .i64 v.i) ∧ W.cell? ⟨w.heap.size, 7, none⟩ = some (.bool v.b) ∧ W.cell? ⟨w.heap.size, 8, none⟩ = some (.string v.s) ∧ W.cell? ⟨w.heap.size, 9, none⟩ = some (.float .f64 v.n) ∧ W.cell? ⟨w.heap.size, 10, none⟩ = some (.int .i64 org) ∧ W.cell? ⟨B, 4, none⟩ = some (.slice EA ends.length ec)) (first | assumption | exact HK.out _ HBr1.out | exact HS0.out) (first
        | (go_at_call 155; refine (HST.out _ (bel2 HB3.out HBr0.out)).mono ?_; rintro e wr1 ⟨A2, c2, rfl, -, hbr1⟩; have hfd := fun w : World => (show (Instr.field 65 (.agg #[.string s.name, .int .i64 s.need, .slice A2 s.orgs.length c2]) 1).run Tryz.prog w = .ok (.int .i64 s.need) w by kernel_rfl); have HBr1 := Lib.hid (bel2 HBr0.out hbr1); clear hbr1))
    have HB4 := Lib.hid (bel2 HB3.out HBr1.out)
    have HBD5 := Lib.hid (belowZ HBDq.out HBr1.out)
    have HBM5 := Lib.hid (belowZ HBMq.out HBr1.out)
    have HBB5 := Lib.hid (belowZ HBBq.out HBr1.out)
    clear d0 d1 d2 d3 d4 d5 d6 d7 d8 d9 d10 df dl m0 m1 m2 m3 m4 m5 m6 m7 m8 m9 m10 m11 m12 mf ml k0 k1 k2 k3 k4 k5 k6 k7 kf kl hfd
    by_cases h3 : (ends.length : Int) < s.need
    · have hy := HY3.out H1.out H2.out h3
      subst hy
      go_wp2
      go_ret
      exact ⟨rfl, HB4.out⟩
    have hy4 := HY4.out H1.out H2.out (by omega)
    clear HY1 HY2 HY3 HY4
    go_upto_region 7 with fail
    clear h3 HK HS0 HBr0 HBr1
    generalize wr1 = w3 at *
    have d0 := (heap_at HBD5.out 0).trans (rfl : _ = some (Value.string ct.name))
    have d1 := (heap_at HBD5.out 1).trans (rfl : _ = some (Value.slice FA ct.fs.length fc))
    have d2 := (heap_at HBD5.out 2).trans (rfl : _ = some (Value.slice SA ct.ss.length sc))
    have d3 := (heap_at HBD5.out 3).trans (rfl : _ = some (Value.slice MA ct.ms.length mc))
    have d4 := (heap_at HBD5.out 4).trans (rfl : _ = some (Value.string nm))
    have d5 := (heap_at HBD5.out 5).trans (rfl : _ = some (Value.int .i64 v.k))
    have d6 := (heap_at HBD5.out 6).trans (rfl : _ = some (Value.int .i64 v.i))
    have d7 := (heap_at HBD5.out 7).trans (rfl : _ = some (Value.bool v.b))
    have d8 := (heap_at HBD5.out 8).trans (rfl : _ = some (Value.string v.s))
    have d9 := (heap_at HBD5.out 9).trans (rfl : _ = some (Value.float .f64 v.n))
    have d10 := (heap_at HBD5.out 10).trans (rfl : _ = some (Value.int .i64 org))
    have df := heap_free HBD5.out
    have dl := heap_ltZ HBD5.out
    have m0 := (heap_at HBM5.out 0).trans (rfl : _ = some (Value.string x.name))
    have m1 := (heap_at HBM5.out 1).trans (rfl : _ = some (Value.int .i64 x.frm))
    have m2 := (heap_at HBM5.out 2).trans (rfl : _ = some (Value.int .i64 x.too))
    have m3 := (heap_at HBM5.out 3).trans (rfl : _ = some (Value.int .i64 x.guard.op))
    have m4 := (heap_at HBM5.out 4).trans (rfl : _ = some (Value.slice A x.guard.kids.length c))
    have m5 := (heap_at HBM5.out 5).trans (rfl : _ = some (Value.string x.guard.name))
    have m6 := (heap_at HBM5.out 6).trans (rfl : _ = some (Value.int .i64 x.guard.val.k))
    have m7 := (heap_at HBM5.out 7).trans (rfl : _ = some (Value.int .i64 x.guard.val.i))
    have m8 := (heap_at HBM5.out 8).trans (rfl : _ = some (Value.bool x.guard.val.b))
    have m9 := (heap_at HBM5.out 9).trans (rfl : _ = some (Value.string x.guard.val.s))
    have m10 := (heap_at HBM5.out 10).trans (rfl : _ = some (Value.float .f64 x.guard.val.n))
    have m11 := (heap_at HBM5.out 11).trans (rfl : _ = some (Value.slice EA2 x.effs.length ec2))
    have m12 := (heap_at HBM5.out 12).trans (rfl : _ = some (Value.int .i64 x.org))
    have mf := heap_free HBM5.out
    have ml := heap_ltZ HBM5.out
    have k0 := (heap_at HBB5.out 0).trans (rfl : _ = some (Value.string id))
    have k1 := (heap_at HBB5.out 1).trans (rfl : _ = some (Value.string kc))
    have k2 := (heap_at HBB5.out 2).trans (rfl : _ = some (Value.int .i64 st))
    have k3 := (heap_at HBB5.out 3).trans (rfl : _ = some (Value.slice VA vals.length vc))
    have k4 := (heap_at HBB5.out 4).trans (rfl : _ = some (Value.slice EA ends.length ec))
    have k5 := (heap_at HBB5.out 5).trans (rfl : _ = some (Value.bool su))
    have k6 := (heap_at HBB5.out 6).trans (rfl : _ = some (Value.bool sh))
    have k7 := (heap_at HBB5.out 7).trans (rfl : _ = some (Value.int .i64 sp))
    have kf := heap_free HBB5.out
    have kl := heap_ltZ HBB5.out
    have HK7 := Lib.hid (show ∀ W, Below w3.heap.size w3 W → (fun W => Below w3.heap.size w3 W ∧ W.cell? ⟨w.heap.size, 1, none⟩ = some (.slice FA ct.fs.length fc) ∧ W.cell? ⟨(w.heap.size + 1), 3, none⟩ = some (.int .i64 x.guard.op) ∧ W.cell? ⟨(w.heap.size + 1), 4, none⟩ = some (.slice A x.guard.kids.length c) ∧ W.cell? ⟨(w.heap.size + 1), 5, none⟩ = some (.string x.guard.name) ∧ W.cell? ⟨(w.heap.size + 1), 6, none⟩ = some (.int .i64 x.guard.val.k) ∧ W.cell? ⟨(w.heap.size + 1), 7, none⟩ = some (.int .i64 x.guard.val.i) ∧ W.cell? ⟨(w.heap.size + 1), 8, none⟩ = some (.bool x.guard.val.b) ∧ W.cell? ⟨(w.heap.size + 1), 9, none⟩ = some (.string x.guard.val.s) ∧ W.cell? ⟨(w.heap.size + 1), 10, none⟩ = some (.float .f64 x.guard.val.n) ∧ W.cell? ⟨B, 3, none⟩ = some (.slice VA vals.length vc)) W from fun W h => ⟨h, (h.cell (World.block_lt_of_cell? _ _ d1)).trans d1, (h.cell (World.block_lt_of_cell? _ _ m3)).trans m3, (h.cell (World.block_lt_of_cell? _ _ m4)).trans m4, (h.cell (World.block_lt_of_cell? _ _ m5)).trans m5, (h.cell (World.block_lt_of_cell? _ _ m6)).trans m6, (h.cell (World.block_lt_of_cell? _ _ m7)).trans m7, (h.cell (World.block_lt_of_cell? _ _ m8)).trans m8, (h.cell (World.block_lt_of_cell? _ _ m9)).trans m9, (h.cell (World.block_lt_of_cell? _ _ m10)).trans m10, (h.cell (World.block_lt_of_cell? _ _ k3)).trans k3⟩)
    have HBs0 := Lib.hid (show Below w3.heap.size w3 w3.drew from (Below.refl _ _).drew)
    clear d0 d1 d2 d3 d4 d5 d6 d7 d8 d9 d10 df dl m0 m1 m2 m3 m4 m5 m6 m7 m8 m9 m10 m11 m12 mf ml k0 k1 k2 k3 k4 k5 k6 k7 kf kl
    refine wp_region_held_drew (S := (fun W => Below w3.heap.size w3 W ∧ W.cell? ⟨w.heap.size, 1, none⟩ = some (.slice FA ct.fs.length fc) ∧ W.cell? ⟨(w.heap.size + 1), 3, none⟩ = some (.int .i64 x.guard.op) ∧ W.cell? ⟨(w.heap.size + 1), 4, none⟩ = some (.slice A x.guard.kids.length c) ∧ W.cell? ⟨(w.heap.size + 1), 5, none⟩ = some (.string x.guard.name) ∧ W.cell? ⟨(w.heap.size + 1), 6, none⟩ = some (.int .i64 x.guard.val.k) ∧ W.cell? ⟨(w.heap.size + 1), 7, none⟩ = some (.int .i64 x.guard.val.i) ∧ W.cell? ⟨(w.heap.size + 1), 8, none⟩ = some (.bool x.guard.val.b) ∧ W.cell? ⟨(w.heap.size + 1), 9, none⟩ = some (.string x.guard.val.s) ∧ W.cell? ⟨(w.heap.size + 1), 10, none⟩ = some (.float .f64 x.guard.val.n) ∧ W.cell? ⟨B, 3, none⟩ = some (.slice VA vals.length vc))) (by kernel_rfl) (HK7.out _ HBs0.out) (fun hHeld => ?_)
    refine tk 0 ?_
    (try simp only [Act.put, sA, sB, sC])
    refine tk 1 ?_
    (try simp only [Act.put, sA, sB, sC])
    refine tk 2 ?_
    (try simp only [Act.put, sA, sB, sC])
    refine tk 3 ?_
    (try simp only [Act.put, sA, sB, sC])
    refine tk 4 ?_
    (try simp only [Act.put, sA, sB, sC])
    refine tk 5 ?_
    (try simp only [Act.put, sA, sB, sC])
    refine tk 6 ?_
    (try simp only [Act.put, sA, sB, sC])
    refine tk 7 ?_
    (try simp only [Act.put, sA, sB, sC])
    refine tk 8 ?_
    (try simp only [Act.put, sA, sB, sC])
    refine wpAnyH_ready (rs := [9, 13]) (by kernel_rfl) (by simp) ?_
    refine AllReadyH.cons (o := ?o401) ?g401 (fun K hK => ?j401) (AllReadyH.cons (o := ?o402) ?g402 (fun K hK => ?j402) AllReadyH.nil)
    case g401 => (simp only [gA, gB, gC]; rfl)
    case g402 => (simp only [gA, gB, gC]; rfl)
    ·
     go_simp
     refine (HEV.out _ (bel2 HB4.out HBs0.out)).mono ?_
     rintro e ws1 ⟨rfl, hbs1⟩
     have HBs1 := Lib.hid (bel2 HBs0.out hbs1)
     clear hbs1
     refine hK.out _ _ ?_ (fun hHeld => ?_)
     · (try dsimp only); (first | assumption | exact HK7.out _ HBs2.out | exact HK7.out _ HBs1.out | exact HK7.out _ HBs0.out)
     clear hK K
     (try simp only [Act.put, sA, sB, sC])
     refine tk 10 ?_
     (try simp only [Act.put, sA, sB, sC])
     refine tk 11 ?_
     (try simp only [Act.put, sA, sB, sC])
     refine tk 12 ?_
     (try simp only [Act.put, sA, sB, sC])
     refine wpAnyH_ready (rs := [13]) (by kernel_rfl) (by simp) ?_
     refine AllReadyH.cons (o := ?o406) ?g406 (fun K hK => ?j406) AllReadyH.nil
     case g406 => (simp only [gA, gB, gC]; rfl)
     go_simp
     refine hK.out _ _ ?_ (fun hHeld => ?_)
     · (try dsimp only); exact HK7.out _ (bel2 HBs1.out (alloc1 _ _))
     clear hK K
     (try simp only [Act.put, sA, sB, sC])
     refine wpAnyH_ready (rs := [14]) (by kernel_rfl) (by simp) ?_
     refine AllReadyH.cons (o := ?o407) ?g407 (fun K hK => ?j407) AllReadyH.nil
     case g407 => (simp only [gA, gB, gC]; rfl)
     go_simp
     refine hK.out _ _ ?_ (fun hHeld => ?_)
     · (try dsimp only); exact HK7.out _ (bel2 HBs1.out (alloc1 _ _))
     clear hK K
     (try simp only [Act.put, sA, sB, sC])
     refine tk 15 ?_
     (try simp only [Act.put, sA, sB, sC])
     refine wpAnyH_done (by kernel_rfl) ?_ _
     have hbx := heap_alloc_new ws1 (.cells #[.int .i64 gv.k, .int .i64 gv.i, .bool gv.b, .string gv.s, .float .f64 gv.n] 55)
     have HBe := Lib.hid (bel2 HB4.out (bel2 HBs1.out (alloc1 ws1 (.cells #[.int .i64 gv.k, .int .i64 gv.i, .bool gv.b, .string gv.s, .float .f64 gv.n] 55))))
     generalize ws1.alloc (.cells #[.int .i64 gv.k, .int .i64 gv.i, .bool gv.b, .string gv.s, .float .f64 gv.n] 55) = we at *
     generalize ws1.heap.size = nb at *
     have bx2 := (heap_at hbx 2).trans (rfl : _ = some (Value.bool gv.b))
     by_cases h4 : ge = 0
     · subst h4
       rw [if_neg (fun h => h rfl)] at hy4
       have h00 : ((0 : Int) == 0) = true := rfl
       rcases hgb : gv.b with _ | _
       · have hy : Y = 70 := by rw [hy4, hgb]; rfl
         rw [hgb] at bx2
         subst hy
         clear hy4 hgb
         go_wp2
         go_ret
         exact ⟨rfl, HBe.out⟩
       · have hy : Y = 0 := by rw [hy4, hgb]; rfl
         rw [hgb] at bx2
         subst hy
         clear hy4 hgb
         go_wp2
         go_ret
         exact ⟨rfl, HBe.out⟩
     · rw [if_pos h4] at hy4
       have h4b : (ge == 0) = false := by simpa using h4
       subst hy4
       clear h4
       go_wp2
       go_ret
       exact ⟨rfl, HBe.out⟩
    ·
     go_simp
     refine hK.out _ _ ?_ (fun hHeld => ?_)
     · (try dsimp only); exact HK7.out _ (bel2 HBs0.out (alloc1 _ _))
     clear hK K
     (try simp only [Act.put, sA, sB, sC])
     refine wpAnyH_ready (rs := [9]) (by kernel_rfl) (by simp) ?_
     refine AllReadyH.cons (o := ?o409) ?g409 (fun K hK => ?j409) AllReadyH.nil
     case g409 => (simp only [gA, gB, gC]; rfl)
     go_simp
     refine (HEV.out _ (bel2 HB4.out (bel2 HBs0.out (alloc1 _ _)))).mono ?_
     rintro e ws1 ⟨rfl, hbs1⟩
     have hz0 : ws1.heap[w3.heap.size]? = some (.cells #[.int .i64 0, .int .i64 0, .bool false, .string ⟨#[]⟩, .float .f64 0] 55 (0, 0)) := belowZ (heap_alloc_new w3.drew (.cells #[.int .i64 0, .int .i64 0, .bool false, .string ⟨#[]⟩, .float .f64 0] 55)) hbs1
     have HBs1 := Lib.hid (bel2 (bel2 HBs0.out (alloc1 _ _)) hbs1)
     clear hbs1
     refine hK.out _ _ ?_ (fun hHeld => ?_)
     · (try dsimp only); (first | assumption | exact HK7.out _ HBs2.out | exact HK7.out _ HBs1.out | exact HK7.out _ HBs0.out)
     clear hK K
     (try simp only [Act.put, sA, sB, sC])
     refine tk 10 ?_
     (try simp only [Act.put, sA, sB, sC])
     refine tk 11 ?_
     (try simp only [Act.put, sA, sB, sC])
     refine tk 12 ?_
     (try simp only [Act.put, sA, sB, sC])
     refine wpAnyH_ready (rs := [14]) (by kernel_rfl) (by simp) ?_
     refine AllReadyH.cons (o := ?o413) ?g413 (fun K hK => ?j413) AllReadyH.nil
     case g413 => (simp only [gA, gB, gC]; rfl)
     refine wp_store_row 55 (.tmp 7) (.tmp 50) rfl w3.heap.size #[.int .i64 gv.k, .int .i64 gv.i, .bool gv.b, .string gv.s, .float .f64 gv.n] #[.int .i64 0, .int .i64 0, .bool false, .string ⟨#[]⟩, .float .f64 0] rfl rfl hz0 rfl infoVl5 (all_oneCell_toArray (cs := vCells gv) (by have h := vCells_one [gv]; simpa using h)) ?_
     refine hK.out _ _ ?_ (fun hHeld => ?_)
     · (try dsimp only); exact HK7.out _ (below_setRow HBs1.out (Nat.le_refl _) _)
     clear hK K
     (try simp only [Act.put, sA, sB, sC])
     refine tk 15 ?_
     (try simp only [Act.put, sA, sB, sC])
     refine wpAnyH_done (by kernel_rfl) ?_ _
     have hbx := setRow_heap ws1 w3.heap.size _ #[.int .i64 gv.k, .int .i64 gv.i, .bool gv.b, .string gv.s, .float .f64 gv.n] 55 (0, 0) hz0
     have HBe := Lib.hid (bel2 HB4.out (below_setRow HBs1.out (Nat.le_refl _) #[.int .i64 gv.k, .int .i64 gv.i, .bool gv.b, .string gv.s, .float .f64 gv.n]))
     generalize ws1.setRow w3.heap.size #[.int .i64 gv.k, .int .i64 gv.i, .bool gv.b, .string gv.s, .float .f64 gv.n] = we at *
     have bx2 := (heap_at hbx 2).trans (rfl : _ = some (Value.bool gv.b))
     by_cases h4 : ge = 0
     · subst h4
       rw [if_neg (fun h => h rfl)] at hy4
       have h00 : ((0 : Int) == 0) = true := rfl
       rcases hgb : gv.b with _ | _
       · have hy : Y = 70 := by rw [hy4, hgb]; rfl
         rw [hgb] at bx2
         subst hy
         clear hy4 hgb
         go_wp2
         go_ret
         exact ⟨rfl, HBe.out⟩
       · have hy : Y = 0 := by rw [hy4, hgb]; rfl
         rw [hgb] at bx2
         subst hy
         clear hy4 hgb
         go_wp2
         go_ret
         exact ⟨rfl, HBe.out⟩
     · rw [if_pos h4] at hy4
       have h4b : (ge == 0) = false := by simpa using h4
       subst hy4
       clear h4
       go_wp2
       go_ret
       exact ⟨rfl, HBe.out⟩

theorem own_monoK {w : World} {b b2 : Nat} {e : TypeId} {K : Nat} {v : Value} {n : Nat} {xs : List Value} (h : w.ownsRow b e K v n xs) (hb : b2 ≤ b) : w.ownsRow b2 e K v n xs :=
  ⟨h.1, h.2.imp id fun ⟨g, cap, cur, e1, e2, r⟩ => ⟨g, cap, cur, e1, Nat.le_trans hb e2, r⟩⟩
def EffsP (r : List Vl × Int) (w : World) (e : Ending) (w' : World) : Prop := ∃ v, e = .returned (.tuple #[v, .int .i64 r.2]) ∧ w'.ownsRow w.heap.size 55 5 v r.1.length (r.1.flatMap vCells) ∧ Below w.heap.size w w'
structure EfI (w1 : World) (row : Value) (n : Nat) (ct : Ctr) (ev : Ex → Vl × Int) (es : List Eff) (R : List Vl × Int) (wr : World) (k : Nat) (a : List Vl) : Prop where
  pre : effK ct ev (es.drop k) a = R
  len : a.length = n
  own : wr.ownsRow w1.heap.size 55 5 row n (a.flatMap vCells)
  bel : Below w1.heap.size w1 wr
theorem EfI.next {w1 : World} {g cap n : Nat} {ct : Ctr} {ev : Ex → Vl × Int} {es : List Eff} {R : List Vl × Int} {wr W : World} {k j : Nat} {a : List Vl} {v : Vl} (h : EfI w1 (.slice (some ⟨g, 0, none⟩) n cap) n ct ev es R wr k a) (hW : Below wr.heap.size wr W) (hg : w1.heap.size ≤ g) (hp : effK ct ev (es.drop (k + 1)) (a.set j v) = R) (hj : j < n) :
    EfI w1 (.slice (some ⟨g, 0, none⟩) n cap) n ct ev es R (((((W.setCell ⟨g, j * 5, none⟩ (.int .i64 v.k)).setCell ⟨g, j * 5 + 1, none⟩ (.int .i64 v.i)).setCell ⟨g, j * 5 + 2, none⟩ (.bool v.b)).setCell ⟨g, j * 5 + 3, none⟩ (.string v.s)).setCell ⟨g, j * 5 + 4, none⟩ (.float .f64 v.n)) (k + 1) (a.set j v) := by
  have hl := h.len
  have h5 : (((((W.setCell ⟨g, j * 5, none⟩ (.int .i64 v.k)).setCell ⟨g, j * 5 + 1, none⟩ (.int .i64 v.i)).setCell ⟨g, j * 5 + 2, none⟩ (.bool v.b)).setCell ⟨g, j * 5 + 3, none⟩ (.string v.s)).setCell ⟨g, j * 5 + 4, none⟩ (.float .f64 v.n)).ownsRow w1.heap.size 55 5 (.slice (some ⟨g, 0, none⟩) (a.set j v).length cap) (a.set j v).length ((a.set j v).flatMap vCells) := own_set5 (by rw [hl]; exact own_belowX h.own hW) j (by omega) v
  rw [List.length_set, hl] at h5
  refine ⟨hp, by rw [List.length_set]; exact hl, h5, ?_⟩
  have hB := h.bel.trans (hW.mono h.bel.size)
  exact below_setg (below_setg (below_setg (below_setg (below_setg hB hg _ _) hg _ _) hg _ _) hg _ _) hg _ _
set_option maxHeartbeats 8000000 in
theorem dEffects_any (ct : Ctr) (FA : Option Addr) (fc : Nat) (SA : Option Addr) (sc : Nat) (MA : Option Addr) (mc : Nat) (k : Cse) (VA : Option Addr) (vc : Nat) (EA : Option Addr) (ec : Nat) (nm : ByteArray) (v : Vl) (org : Int) (es : List Eff) (EA2 : Option Addr) (ec2 : Nat) (w : World) (h : CtK w ct FA fc SA sc MA mc) (hv : VlK w VA vc k.vals) (hes : EffK w EA2 ec2 es) (hn : k.vals.length = ct.fs.length) (hl : k.vals.length ≤ 1000) (hvs : ∀ v ∈ k.vals, okV v) (hok : ∀ e ∈ es, okX 6 e.e)
    (hat : ∀ e ∈ es, 0 ≤ placeN e.field (ct.fs.map fun f => f.f.name) 0 ∧ (placeN e.field (ct.fs.map fun f => f.f.name) 0).toNat < ct.fs.length) :
    Calls Tryz.prog 159 #[.agg (csD ct FA fc SA sc MA mc nm v org), .slice VA k.vals.length vc, .slice EA2 es.length ec2] w (EffsP (effK ct (evK ct k) es k.vals) w) := by
  have hsf := fun (w : World) (a : Addr) (m : Mode) (b : Nat) => run_store Tryz.prog w a (.float .f64 b) m rfl
  have HBD := Lib.hid (heap_alloc_new w (.cells #[.string ct.name, .slice FA ct.fs.length fc, .slice SA ct.ss.length sc, .slice MA ct.ms.length mc, .string nm, .int .i64 v.k, .int .i64 v.i, .bool v.b, .string v.s, .float .f64 v.n, .int .i64 org] 95))
  have HB1 := Lib.hid (alloc1 w (.cells #[.string ct.name, .slice FA ct.fs.length fc, .slice SA ct.ss.length sc, .slice MA ct.ms.length mc, .string nm, .int .i64 v.k, .int .i64 v.i, .bool v.b, .string v.s, .float .f64 v.n, .int .i64 org] 95))
  have HEV := Lib.hid (fun (e : Ex) (A : Option Addr) (c : Nat) W (hb : Below w.heap.size w W) (hx : ExE W A c e) (hok : okX 6 e) => evK_any ct FA fc k VA vc e A c W (h.f.below hb) (hv.below hb (Nat.le_refl _)) hx hok hvs)
  have HFI := Lib.hid (fun (fn : ByteArray) W (hb : Below w.heap.size w W) => cField_any ct FA fc SA sc MA mc fn W (h.below hb))
  have HFL := Lib.hid (fun W (hb : Below w.heap.size w W) => h.f.below hb)
  have HES := Lib.hid (fun W (hb : Below w.heap.size w W) => EffK.below hes hb)
  have HCL := Lib.hid (fun W (hb : Below w.heap.size w W) => cloneVl_any VA vc k.vals W (hv.below hb (Nat.le_refl _)) hl)
  have HAT := Lib.hid hat
  have HOK := Lib.hid hok
  have HN := Lib.hid hn
  have hel : es.length ≤ 9223372036854775807 := by have h1 := hes.1; have h2 := hes.2.1; unfold maxLen at h2; omega
  have HP0 := Lib.hid (show effK ct (evK ct k) (es.drop 0) k.vals = effK ct (evK ct k) es k.vals from rfl)
  clear h hv hes hn hl hvs hat hok
  generalize effK ct (evK ct k) es k.vals = R at *
  generalize evK ct k = ev at *
  generalize hvn : k.vals.length = n at *
  have HVN := Lib.hid hvn
  clear hvn
  generalize k.vals = vals at *
  generalize hen : es.length = m at *
  have HEN := Lib.hid hen
  clear hen
  go_enter Tryz.func159, Tryz.ntmps159
  go_upto_region 1 with fail
  generalize hw1 : w.alloc (.cells #[.string ct.name, .slice FA ct.fs.length fc, .slice SA ct.ss.length sc, .slice MA ct.ms.length mc, .string nm, .int .i64 v.k, .int .i64 v.i, .bool v.b, .string v.s, .float .f64 v.n, .int .i64 org] 95) = w1 at *
  have HZ1 := Lib.hid (show w1.heap.size = w.heap.size + 1 by rw [← hw1]; simp)
  clear hw1
  go_wp2_with fail
  refine (HCL.out _ HB1.out).mono ?_
  rintro _ w2 ⟨row, rfl, hown, hb2⟩
  rw [HVN.out] at hown
  have HI0 := Lib.hid (show EfI w1 row n ct ev es R w2 0 vals from ⟨HP0.out, HVN.out, hown, hb2⟩)
  obtain ⟨RA, rc, rfl⟩ := own_sliceX hown
  clear hown hb2 HCL HP0
  go_wp2
  go_loopw [19] (fun i wr => ∃ (q : Nat) (a : List Vl), q ≤ m ∧ i = .int .i64 q ∧ EfI w1 (.slice RA n rc) n ct ev es R wr q a) (fun i _ => m - (intOf i).toNat)
  case atStart => exact ⟨0, vals, Nat.zero_le _, rfl, HI0.out⟩
  case round =>
    obtain ⟨q, a, hq, rfl, hi⟩ := hrel
    have HI := Lib.hid hi
    clear hi
    have HBR := Lib.hid (bel2 HB1.out HI.out.bel)
    by_cases hlt : q < m
    · have hltI : (q : Int) < (m : Int) := by omega
      have hqe : q < es.length := by have := HEN.out; omega
      obtain ⟨-, -, -, hex⟩ := HES.out wr HBR.out
      obtain ⟨ea, hea, heb, QA, qc, x0, ⟨x1, x2, x3, x4, x5, x6, x7, x8⟩, hxe⟩ := hex q hqe
      subst hea
      have hpre := HI.out.pre
      rw [List.drop_eq_getElem_cons hqe] at hpre
      have hmem : es[q] ∈ es := List.getElem_mem hqe
      have hat1 := HAT.out _ hmem
      have hok1 := HOK.out _ hmem
      have HLT := Lib.hid hlt
      clear hex hmem hlt
      generalize es[q] = x at *
      clear hqe
      obtain ⟨j, hjp⟩ := Int.eq_ofNat_of_zero_le hat1.1
      have hj : j < ct.fs.length := by have := hat1.2; omega
      have hfj : ct.fs[(placeN x.field (ct.fs.map fun f => f.f.name) 0).toNat]? = some ct.fs[j] := by rw [hjp, Int.toNat_natCast]; exact List.getElem?_eq_getElem hj
      rw [effK_cons hfj, hjp, Int.toNat_natCast] at hpre
      have HPRE := Lib.hid hpre
      have HEVX := Lib.hid (fun W (hb : Below w.heap.size w W) (hb2 : Below wr.heap.size wr W) => HEV.out x.e QA qc W hb (hxe.below hb2) hok1)
      have HFIX := Lib.hid (fun W (hb : Below w.heap.size w W) => by have h := HFI.out x.field W hb; rw [hjp] at h; exact h)
      have HJ := Lib.hid hj
      clear hpre hat1 hok1 hxe hjp hfj
      have hd := HI.out.bel.block w.heap.size (by have := HZ1.out; omega) |>.trans HBD.out
      have HD := Lib.hid hd
      have d0 := (heap_at hd 0).trans (rfl : _ = some (Value.string ct.name))
      have d1 := (heap_at hd 1).trans (rfl : _ = some (Value.slice FA ct.fs.length fc))
      have d2 := (heap_at hd 2).trans (rfl : _ = some (Value.slice SA ct.ss.length sc))
      have d3 := (heap_at hd 3).trans (rfl : _ = some (Value.slice MA ct.ms.length mc))
      have d4 := (heap_at hd 4).trans (rfl : _ = some (Value.string nm))
      have d5 := (heap_at hd 5).trans (rfl : _ = some (Value.int .i64 v.k))
      have d6 := (heap_at hd 6).trans (rfl : _ = some (Value.int .i64 v.i))
      have d7 := (heap_at hd 7).trans (rfl : _ = some (Value.bool v.b))
      have d8 := (heap_at hd 8).trans (rfl : _ = some (Value.string v.s))
      have d9 := (heap_at hd 9).trans (rfl : _ = some (Value.float .f64 v.n))
      have d10 := (heap_at hd 10).trans (rfl : _ = some (Value.int .i64 org))
      have df := heap_free hd
      have dl := heap_ltZ hd
      go_upto_region 5 with fail
      have hxb := heap_alloc_new wr (.cells #[.string x.field, .int .i64 x.e.op, .slice QA x.e.kids.length qc, .string x.e.name, .int .i64 x.e.val.k, .int .i64 x.e.val.i, .bool x.e.val.b, .string x.e.val.s, .float .f64 x.e.val.n] 128)
      have HBe := Lib.hid (alloc1 wr (.cells #[.string x.field, .int .i64 x.e.op, .slice QA x.e.kids.length qc, .string x.e.name, .int .i64 x.e.val.k, .int .i64 x.e.val.i, .bool x.e.val.b, .string x.e.val.s, .float .f64 x.e.val.n] 128))
      have HDe := Lib.hid (belowZ HD.out HBe.out)
      clear d0 d1 d2 d3 d4 d5 d6 d7 d8 d9 d10 df dl hd
      generalize wr.alloc (.cells #[.string x.field, .int .i64 x.e.op, .slice QA x.e.kids.length qc, .string x.e.name, .int .i64 x.e.val.k, .int .i64 x.e.val.i, .bool x.e.val.b, .string x.e.val.s, .float .f64 x.e.val.n] 128) = we at *
      have d0 := (heap_at HDe.out 0).trans (rfl : _ = some (Value.string ct.name))
      have d1 := (heap_at HDe.out 1).trans (rfl : _ = some (Value.slice FA ct.fs.length fc))
      have d2 := (heap_at HDe.out 2).trans (rfl : _ = some (Value.slice SA ct.ss.length sc))
      have d3 := (heap_at HDe.out 3).trans (rfl : _ = some (Value.slice MA ct.ms.length mc))
      have d4 := (heap_at HDe.out 4).trans (rfl : _ = some (Value.string nm))
      have d5 := (heap_at HDe.out 5).trans (rfl : _ = some (Value.int .i64 v.k))
      have d6 := (heap_at HDe.out 6).trans (rfl : _ = some (Value.int .i64 v.i))
      have d7 := (heap_at HDe.out 7).trans (rfl : _ = some (Value.bool v.b))
      have d8 := (heap_at HDe.out 8).trans (rfl : _ = some (Value.string v.s))
      have d9 := (heap_at HDe.out 9).trans (rfl : _ = some (Value.float .f64 v.n))
      have d10 := (heap_at HDe.out 10).trans (rfl : _ = some (Value.int .i64 org))
      have df := heap_free HDe.out
      have dl := heap_ltZ HDe.out
      have y0 := (heap_at hxb 0).trans (rfl : _ = some (Value.string x.field))
      have y1 := (heap_at hxb 1).trans (rfl : _ = some (Value.int .i64 x.e.op))
      have y2 := (heap_at hxb 2).trans (rfl : _ = some (Value.slice QA x.e.kids.length qc))
      have y3 := (heap_at hxb 3).trans (rfl : _ = some (Value.string x.e.name))
      have y4 := (heap_at hxb 4).trans (rfl : _ = some (Value.int .i64 x.e.val.k))
      have y5 := (heap_at hxb 5).trans (rfl : _ = some (Value.int .i64 x.e.val.i))
      have y6 := (heap_at hxb 6).trans (rfl : _ = some (Value.bool x.e.val.b))
      have y7 := (heap_at hxb 7).trans (rfl : _ = some (Value.string x.e.val.s))
      have y8 := (heap_at hxb 8).trans (rfl : _ = some (Value.float .f64 x.e.val.n))
      have yf := heap_free hxb
      have yl := heap_ltZ hxb
      go_wp2_with fail
      refine (HEVX.out we (bel2 HBR.out HBe.out) HBe.out).mono ?_
      rintro _ wA ⟨rfl, hbA⟩
      generalize hE : ev x.e = E at *
      obtain ⟨gv, ge⟩ := E
      clear hE HEVX
      dsimp only at HPRE ⊢
      have hxb2 := belowZ (belowZ hxb hbA) (alloc1 wA (.cells #[.int .i64 gv.k, .int .i64 gv.i, .bool gv.b, .string gv.s, .float .f64 gv.n] 55))
      have HDA := Lib.hid (belowZ (belowZ HDe.out hbA) (alloc1 wA (.cells #[.int .i64 gv.k, .int .i64 gv.i, .bool gv.b, .string gv.s, .float .f64 gv.n] 55)))
      have hvb := heap_alloc_new wA (.cells #[.int .i64 gv.k, .int .i64 gv.i, .bool gv.b, .string gv.s, .float .f64 gv.n] 55)
      have HBA := Lib.hid (bel2 HBe.out (bel2 hbA (alloc1 wA (.cells #[.int .i64 gv.k, .int .i64 gv.i, .bool gv.b, .string gv.s, .float .f64 gv.n] 55))))
      clear hbA hxb d0 d1 d2 d3 d4 d5 d6 d7 d8 d9 d10 df dl y0 y1 y2 y3 y4 y5 y6 y7 y8 yf yl
      go_upto_region 6 with fail
      generalize wA.alloc (.cells #[.int .i64 gv.k, .int .i64 gv.i, .bool gv.b, .string gv.s, .float .f64 gv.n] 55) = wB at *
      generalize hvbn : wA.heap.size = vb at *
      clear hvbn
      have hpre := HPRE.out
      by_cases h0 : ge = 0
      case neg =>
        have h0b : (ge != 0) = true := by simpa using h0
        rw [if_neg h0] at hpre
        subst hpre
        clear h0
        go_wp2
        exact bodyPost_ret (v := .tuple #[.slice none 0 0, .int .i64 ge]) (by simp [results, Tryz.results159, go_sem]) rfl ⟨_, rfl, World.ownsRow_nil _ _ _ _, bel2 HBR.out HBA.out⟩
      rw [if_pos h0] at hpre
      subst h0
      have HPR2 := Lib.hid hpre
      clear hpre HPRE
      have h00 : ((0 : Int) != 0) = false := rfl
      have d0 := (heap_at HDA.out 0).trans (rfl : _ = some (Value.string ct.name))
      have d1 := (heap_at HDA.out 1).trans (rfl : _ = some (Value.slice FA ct.fs.length fc))
      have d2 := (heap_at HDA.out 2).trans (rfl : _ = some (Value.slice SA ct.ss.length sc))
      have d3 := (heap_at HDA.out 3).trans (rfl : _ = some (Value.slice MA ct.ms.length mc))
      have d4 := (heap_at HDA.out 4).trans (rfl : _ = some (Value.string nm))
      have d5 := (heap_at HDA.out 5).trans (rfl : _ = some (Value.int .i64 v.k))
      have d6 := (heap_at HDA.out 6).trans (rfl : _ = some (Value.int .i64 v.i))
      have d7 := (heap_at HDA.out 7).trans (rfl : _ = some (Value.bool v.b))
      have d8 := (heap_at HDA.out 8).trans (rfl : _ = some (Value.string v.s))
      have d9 := (heap_at HDA.out 9).trans (rfl : _ = some (Value.float .f64 v.n))
      have d10 := (heap_at HDA.out 10).trans (rfl : _ = some (Value.int .i64 org))
      have df := heap_free HDA.out
      have dl := heap_ltZ HDA.out
      have y0 := (heap_at hxb2 0).trans (rfl : _ = some (Value.string x.field))
      have y1 := (heap_at hxb2 1).trans (rfl : _ = some (Value.int .i64 x.e.op))
      have y2 := (heap_at hxb2 2).trans (rfl : _ = some (Value.slice QA x.e.kids.length qc))
      have y3 := (heap_at hxb2 3).trans (rfl : _ = some (Value.string x.e.name))
      have y4 := (heap_at hxb2 4).trans (rfl : _ = some (Value.int .i64 x.e.val.k))
      have y5 := (heap_at hxb2 5).trans (rfl : _ = some (Value.int .i64 x.e.val.i))
      have y6 := (heap_at hxb2 6).trans (rfl : _ = some (Value.bool x.e.val.b))
      have y7 := (heap_at hxb2 7).trans (rfl : _ = some (Value.string x.e.val.s))
      have y8 := (heap_at hxb2 8).trans (rfl : _ = some (Value.float .f64 x.e.val.n))
      have yf := heap_free hxb2
      have yl := heap_ltZ hxb2
      go_wp2_with fail
      refine (HFIX.out wB (bel2 HBR.out HBA.out)).mono ?_
      rintro _ wC ⟨rfl, hbC⟩
      have hvb2 := belowZ hvb hbC
      have hd3 := belowZ HDA.out hbC
      have HBC := Lib.hid (bel2 HBA.out hbC)
      clear hbC HFIX hvb hxb2 d0 d1 d2 d3 d4 d5 d6 d7 d8 d9 d10 df dl y0 y1 y2 y3 y4 y5 y6 y7 y8 yf yl
      obtain ⟨-, -, -, hfx⟩ := HFL.out wC (bel2 HBR.out HBC.out)
      have hj := HJ.out
      obtain ⟨fa, hfa, hfb, QA2, qc2, ⟨p0, p1, p2, p3, p4, p5, p6, p7⟩, hss⟩ := hfx j hj
      subst hfa
      have HFT := Lib.hid (fun W (hW : Below wC.heap.size wC W) => Fits_val gv (ct.fs[j]).f.name (ct.fs[j]).f.kind (.slice QA2 (ct.fs[j]).en.length qc2) (ct.fs[j]).y (ct.fs[j]).en W (hss.below hW (Nat.le_refl _)))
      have hjI : (j : Int) < (ct.fs.length : Int) := by omega
      clear hfx hss
      generalize ct.fs[j] = f at *
      have d0 := (heap_at hd3 0).trans (rfl : _ = some (Value.string ct.name))
      have d1 := (heap_at hd3 1).trans (rfl : _ = some (Value.slice (some fa) ct.fs.length fc))
      have d2 := (heap_at hd3 2).trans (rfl : _ = some (Value.slice SA ct.ss.length sc))
      have d3 := (heap_at hd3 3).trans (rfl : _ = some (Value.slice MA ct.ms.length mc))
      have d4 := (heap_at hd3 4).trans (rfl : _ = some (Value.string nm))
      have d5 := (heap_at hd3 5).trans (rfl : _ = some (Value.int .i64 v.k))
      have d6 := (heap_at hd3 6).trans (rfl : _ = some (Value.int .i64 v.i))
      have d7 := (heap_at hd3 7).trans (rfl : _ = some (Value.bool v.b))
      have d8 := (heap_at hd3 8).trans (rfl : _ = some (Value.string v.s))
      have d9 := (heap_at hd3 9).trans (rfl : _ = some (Value.float .f64 v.n))
      have d10 := (heap_at hd3 10).trans (rfl : _ = some (Value.int .i64 org))
      have df := heap_free hd3
      have dl := heap_ltZ hd3
      have b0 := (heap_at hvb2 0).trans (rfl : _ = some (Value.int .i64 gv.k))
      have b1 := (heap_at hvb2 1).trans (rfl : _ = some (Value.int .i64 gv.i))
      have b2 := (heap_at hvb2 2).trans (rfl : _ = some (Value.bool gv.b))
      have b3 := (heap_at hvb2 3).trans (rfl : _ = some (Value.string gv.s))
      have b4 := (heap_at hvb2 4).trans (rfl : _ = some (Value.float .f64 gv.n))
      have bf := heap_free hvb2
      have bl := heap_ltZ hvb2
      clear hd3 hvb2
      go_upto_region 9 with fail
      have HK := Lib.hid (show ∀ W, Below wC.heap.size wC W → (fun W => Below wC.heap.size wC W ∧ W.cell? ⟨w.heap.size, 1, none⟩ = some (.slice (some fa) ct.fs.length fc) ∧ W.cell? ⟨vb, 0, none⟩ = some (.int .i64 gv.k) ∧ W.cell? ⟨vb, 1, none⟩ = some (.int .i64 gv.i) ∧ W.cell? ⟨vb, 2, none⟩ = some (.bool gv.b) ∧ W.cell? ⟨vb, 3, none⟩ = some (.string gv.s) ∧ W.cell? ⟨vb, 4, none⟩ = some (.float .f64 gv.n) ∧ W.cell? (fa.add (j * 8)) = some (.string f.f.name) ∧ W.cell? ⟨(fa.add (j * 8)).block, (fa.add (j * 8)).off + 1, none⟩ = some (.int .i64 f.f.kind) ∧ W.cell? ⟨(fa.add (j * 8)).block, (fa.add (j * 8)).off + 2, none⟩ = some (.slice QA2 f.en.length qc2) ∧ W.cell? ⟨(fa.add (j * 8)).block, (fa.add (j * 8)).off + 3, none⟩ = some (.int .i64 f.y.k) ∧ W.cell? ⟨(fa.add (j * 8)).block, (fa.add (j * 8)).off + 4, none⟩ = some (.int .i64 f.y.i) ∧ W.cell? ⟨(fa.add (j * 8)).block, (fa.add (j * 8)).off + 5, none⟩ = some (.bool f.y.b) ∧ W.cell? ⟨(fa.add (j * 8)).block, (fa.add (j * 8)).off + 6, none⟩ = some (.string f.y.s) ∧ W.cell? ⟨(fa.add (j * 8)).block, (fa.add (j * 8)).off + 7, none⟩ = some (.float .f64 f.y.n)) W from fun W h => ⟨h, (h.cell (World.block_lt_of_cell? _ _ d1)).trans d1, (h.cell (World.block_lt_of_cell? _ _ b0)).trans b0, (h.cell (World.block_lt_of_cell? _ _ b1)).trans b1, (h.cell (World.block_lt_of_cell? _ _ b2)).trans b2, (h.cell (World.block_lt_of_cell? _ _ b3)).trans b3, (h.cell (World.block_lt_of_cell? _ _ b4)).trans b4, (h.cell (World.block_lt_of_cell? _ _ p0)).trans p0, (h.cell (World.block_lt_of_cell? _ _ p1)).trans p1, (h.cell (World.block_lt_of_cell? _ _ p2)).trans p2, (h.cell (World.block_lt_of_cell? _ _ p3)).trans p3, (h.cell (World.block_lt_of_cell? _ _ p4)).trans p4, (h.cell (World.block_lt_of_cell? _ _ p5)).trans p5, (h.cell (World.block_lt_of_cell? _ _ p6)).trans p6, (h.cell (World.block_lt_of_cell? _ _ p7)).trans p7⟩)
      have HBr0 := Lib.hid (show Below wC.heap.size wC wC.drew from (Below.refl _ _).drew)
      have HS0 := Lib.hid (HK.out wC.drew HBr0.out)
      go_region_held3 (fun W => Below wC.heap.size wC W ∧ W.cell? ⟨w.heap.size, 1, none⟩ = some (.slice (some fa) ct.fs.length fc) ∧ W.cell? ⟨vb, 0, none⟩ = some (.int .i64 gv.k) ∧ W.cell? ⟨vb, 1, none⟩ = some (.int .i64 gv.i) ∧ W.cell? ⟨vb, 2, none⟩ = some (.bool gv.b) ∧ W.cell? ⟨vb, 3, none⟩ = some (.string gv.s) ∧ W.cell? ⟨vb, 4, none⟩ = some (.float .f64 gv.n) ∧ W.cell? (fa.add (j * 8)) = some (.string f.f.name) ∧ W.cell? ⟨(fa.add (j * 8)).block, (fa.add (j * 8)).off + 1, none⟩ = some (.int .i64 f.f.kind) ∧ W.cell? ⟨(fa.add (j * 8)).block, (fa.add (j * 8)).off + 2, none⟩ = some (.slice QA2 f.en.length qc2) ∧ W.cell? ⟨(fa.add (j * 8)).block, (fa.add (j * 8)).off + 3, none⟩ = some (.int .i64 f.y.k) ∧ W.cell? ⟨(fa.add (j * 8)).block, (fa.add (j * 8)).off + 4, none⟩ = some (.int .i64 f.y.i) ∧ W.cell? ⟨(fa.add (j * 8)).block, (fa.add (j * 8)).off + 5, none⟩ = some (.bool f.y.b) ∧ W.cell? ⟨(fa.add (j * 8)).block, (fa.add (j * 8)).off + 6, none⟩ = some (.string f.y.s) ∧ W.cell? ⟨(fa.add (j * 8)).block, (fa.add (j * 8)).off + 7, none⟩ = some (.float .f64 f.y.n)) (first | assumption | exact HK.out _ HBr1.out | exact HS0.out) (first
          | (go_at_call 152; refine (HFT.out _ HBr0.out).mono ?_; rintro e wr1 ⟨rfl, hbr1⟩; have HBr1 := Lib.hid (bel2 HBr0.out hbr1); clear hbr1))
      have HBD2 := Lib.hid (bel2 HBC.out HBr1.out)
      have hpre := HPR2.out
      by_cases hz : fitsV gv f.f.kind f.en = 0
      · have hzb : (fitsV gv f.f.kind f.en != 0) = false := by simp [hz]
        rw [if_pos hz] at hpre
        have HPR3 := Lib.hid hpre
        clear hpre hz HPR2
        have hjn : j < n := by have := HJ.out; have := HN.out; omega
        have hown := own_belowX HI.out.own HBD2.out
        obtain ⟨g, hg, hg2, hg3⟩ := own_head hown (by omega)
        subst hg
        have hownl : wr1.ownsRow w1.heap.size 55 5 (.slice (some ⟨g, 0, none⟩) a.length rc) a.length (a.flatMap vCells) := by rw [HI.out.len]; exact hown
        obtain ⟨y, q0, q1, q2, q3, q4⟩ := own_cells5 hownl j (by rw [HI.out.len]; exact hjn)
        have qf := fun o => hownl.frozenAt o
        have hjI2 : (j : Int) < (n : Int) := by omega
        have HNX := Lib.hid (EfI.next (v := gv) HI.out HBD2.out hg2 HPR3.out hjn)
        have e0 := (HBr1.out.cell (World.block_lt_of_cell? _ _ b0)).trans b0
        have e1 := (HBr1.out.cell (World.block_lt_of_cell? _ _ b1)).trans b1
        have e2 := (HBr1.out.cell (World.block_lt_of_cell? _ _ b2)).trans b2
        have e3 := (HBr1.out.cell (World.block_lt_of_cell? _ _ b3)).trans b3
        have e4 := (HBr1.out.cell (World.block_lt_of_cell? _ _ b4)).trans b4
        have hgl := HLT.out
        clear hown hownl hjn
        go_wp2
        go_roundw
        case rel => exact ⟨q + 1, _, by have := HLT.out; omega, by go_num, HNX.out⟩
        case measure => simp [intOf]; have := HLT.out; omega
      · have hzb : (fitsV gv f.f.kind f.en != 0) = true := by simpa using hz
        rw [if_neg hz] at hpre
        subst hpre
        clear hz
        go_wp2
        exact bodyPost_ret (v := .tuple #[.slice none 0 0, .int .i64 (fitsV gv f.f.kind f.en)]) (by simp [results, Tryz.results159, go_sem]) rfl ⟨_, rfl, World.ownsRow_nil _ _ _ _, bel2 HBR.out HBD2.out⟩
    · obtain rfl : q = m := by omega
      have hltI : ¬ (q : Int) < (q : Int) := by omega
      have hpre := HI.out.pre
      rw [List.drop_of_length_le (by have := HEN.out; omega), effK] at hpre
      subst hpre
      go_wp2
      exact bodyPost_ret (v := .tuple #[.slice RA n rc, .int .i64 0]) (by simp [results, Tryz.results159, go_sem]) rfl ⟨_, rfl, by dsimp only; rw [HI.out.len]; exact own_monoK HI.out.own (by have := HZ1.out; omega), HBR.out⟩

theorem DdN.drew {w : World} {base B : Nat} {k : Cse} {VA : Option Addr} {vc : Nat} {EA : Option Addr} {ec : Nat} (h : DdN w base B k VA vc EA ec) : DdN w.drew base B k VA vc EA ec := ⟨h.lt, h.bz, h.b, CsN.move (w := w) (w' := w.drew) (fun b hb _ => ⟨rfl, hb⟩) (Nat.le_refl _) h.n⟩
theorem DdN.adv {w : World} {base B : Nat} {k : Cse} {VA : Option Addr} {vc : Nat} {EA : Option Addr} {ec : Nat} {RA : Option Addr} {rc : Nat} {r : List Vl} {too : Int} (hlt : B < base) (hbz : base ≤ w.heap.size) (hb : w.heap[B]? = some (.cells (csK k VA vc EA ec) 45 (0, 0))) (hv : VlN (fun b => base ≤ b) w RA rc r) :
    DdN (((w.setCell ⟨B, 3, none⟩ (.slice RA r.length rc)).setCell ⟨B, 2, none⟩ (.int .i64 too)).setCell ⟨B, 4, none⟩ (.slice none 0 0)) base B { k with vals := r, stage := too, ends := [] } RA rc none 0 ∧
      Frm base B w (((w.setCell ⟨B, 3, none⟩ (.slice RA r.length rc)).setCell ⟨B, 2, none⟩ (.int .i64 too)).setCell ⟨B, 4, none⟩ (.slice none 0 0)) := by
  have h1 := setZ (setZ (setZ hb 3 (.slice RA r.length rc)) 2 (.int .i64 too)) 4 (.slice none 0 0)
  have hB := below_setg (below_setg (below_setg (Below.refl B w) (Nat.le_refl B) 3 (.slice RA r.length rc)) (Nat.le_refl B) 2 (.int .i64 too)) (Nat.le_refl B) 4 (.slice none 0 0)
  have hz : (((w.setCell ⟨B, 3, none⟩ (.slice RA r.length rc)).setCell ⟨B, 2, none⟩ (.int .i64 too)).setCell ⟨B, 4, none⟩ (.slice none 0 0)).heap.size = w.heap.size := by simp [World.setCell]
  have hk : ∀ b, b ≠ B → (((w.setCell ⟨B, 3, none⟩ (.slice RA r.length rc)).setCell ⟨B, 2, none⟩ (.int .i64 too)).setCell ⟨B, 4, none⟩ (.slice none 0 0)).heap[b]? = w.heap[b]? := fun b hb => by
    rw [Below.heap_setCell _ _ _ b hb, Below.heap_setCell _ _ _ b hb, Below.heap_setCell _ _ _ b hb]
  refine ⟨⟨hlt, by omega, h1, ⟨hv.move (fun b hb2 hl => ⟨hk b (by omega), hb2⟩) (by omega), RowN.nil _ _ _ _⟩⟩, hB.os, hB.tape, hB.output, by omega, fun m hm hmB => hk m hmB⟩
set_option maxHeartbeats 8000000 in
theorem dAdvance_any (ct : Ctr) (FA : Option Addr) (fc : Nat) (SA : Option Addr) (sc : Nat) (MA : Option Addr) (mc : Nat) (k : Cse) (VA : Option Addr) (vc : Nat) (EA : Option Addr) (ec : Nat) (nm : ByteArray) (v : Vl) (org : Int) (base B : Nat) (w : World) (h : CtK w ct FA fc SA sc MA mc) (hd : DdK w base B k VA vc EA ec) (hr : RtK ct k) (hvs : ∀ v ∈ k.vals, okV v) (hoc : okC ct) :
    Calls Tryz.prog 97 #[.agg (csD ct FA fc SA sc MA mc nm v org), .pointer (some ⟨B, 0, none⟩)] w (StepN base B (advK ct k nm (evK ct k) org) w) := by
  have hsf := fun (w : World) (a : Addr) (m : Mode) (b : Nat) => run_store Tryz.prog w a (.float .f64 b) m rfl
  have HBD := Lib.hid (heap_alloc_new w (.cells #[.string ct.name, .slice FA ct.fs.length fc, .slice SA ct.ss.length sc, .slice MA ct.ms.length mc, .string nm, .int .i64 v.k, .int .i64 v.i, .bool v.b, .string v.s, .float .f64 v.n, .int .i64 org] 95))
  have HB1 := Lib.hid (alloc1 w (.cells #[.string ct.name, .slice FA ct.fs.length fc, .slice SA ct.ss.length sc, .slice MA ct.ms.length mc, .string nm, .int .i64 v.k, .int .i64 v.i, .bool v.b, .string v.s, .float .f64 v.n, .int .i64 org] 95))
  have HMV := Lib.hid (fun W (hb : Below w.heap.size w W) => show Calls Tryz.prog 128 #[agC ct.name FA ct.fs.length fc SA ct.ss.length sc MA ct.ms.length mc, .string nm] W (VMk (.int .i64 (placeN nm (ct.ms.map Mv.name) 0)) W) from cMove_any ct FA fc SA sc MA mc nm W (h.below hb))
  have HML := Lib.hid (fun W (hb : Below w.heap.size w W) => h.m.below hb)
  have hck := hr.ck
  have hn6 : k.vals.length ≤ 1000 := by
    have h2 := hr.vn
    obtain ⟨-, h3, -, -⟩ := check_parts hck
    unfold fieldsR at h3
    simp only [Bool.and_eq_true, decide_eq_true_eq] at h3
    omega
  have HMM := Lib.hid (fun (x : Mv) (hx : x ∈ ct.ms) (A : Option Addr) (c : Nat) (XE : Option Addr) (xc : Nat) W (hb : Below w.heap.size w W) (hg : ExE W A c x.guard) => mayMove_any ct FA fc SA sc MA mc k VA vc EA ec nm v org x A c XE xc base B W (h.below hb) (hd.below hb) hr hvs hg ((hoc.m x hx).2.2.2.1 6))
  have HEF := Lib.hid (fun (x : Mv) (hx : x ∈ ct.ms) (XE : Option Addr) (xc : Nat) W (hb : Below w.heap.size w W) (he : EffK W XE xc x.effs) => dEffects_any ct FA fc SA sc MA mc k VA vc EA ec nm v org x.effs XE xc W (h.below hb) ((hd.below hb).vlk.k) he hr.vn hn6 hvs (fun e h => (hoc.m x hx).2.2.2.2 e h 6) (effs_at hck hx))
  have HD0 := Lib.hid hd
  have HBW := Lib.hid (show B < w.heap.size by have := hd.lt; have := hd.bz; omega)
  have HA1 := Lib.hid (fun h => advK_neg (c := ct) (k := k) (nm := nm) (ev := evK ct k) (org := org) h)
  have HA2 := Lib.hid (fun (m : Mv) h h2 => advK_at (c := ct) (k := k) (nm := nm) (ev := evK ct k) (org := org) (m := m) h h2)
  have HPL := Lib.hid (fun h => place_at nm ct.ms Mv.name h)
  clear h hd hr hvs hoc hck hn6
  generalize advK ct k nm (evK ct k) org = U at *
  generalize placeN nm (ct.ms.map Mv.name) 0 = pl at *
  generalize evK ct k = ev at *
  go_enter Tryz.func97, Tryz.ntmps97
  go_upto_region 1 with fail
  generalize w.alloc (.cells #[.string ct.name, .slice FA ct.fs.length fc, .slice SA ct.ss.length sc, .slice MA ct.ms.length mc, .string nm, .int .i64 v.k, .int .i64 v.i, .bool v.b, .string v.s, .float .f64 v.n, .int .i64 org] 95) = w1 at *
  have d0 := (heap_at HBD.out 0).trans (rfl : _ = some (Value.string ct.name))
  have d1 := (heap_at HBD.out 1).trans (rfl : _ = some (Value.slice FA ct.fs.length fc))
  have d2 := (heap_at HBD.out 2).trans (rfl : _ = some (Value.slice SA ct.ss.length sc))
  have d3 := (heap_at HBD.out 3).trans (rfl : _ = some (Value.slice MA ct.ms.length mc))
  have d4 := (heap_at HBD.out 4).trans (rfl : _ = some (Value.string nm))
  have d5 := (heap_at HBD.out 5).trans (rfl : _ = some (Value.int .i64 v.k))
  have d6 := (heap_at HBD.out 6).trans (rfl : _ = some (Value.int .i64 v.i))
  have d7 := (heap_at HBD.out 7).trans (rfl : _ = some (Value.bool v.b))
  have d8 := (heap_at HBD.out 8).trans (rfl : _ = some (Value.string v.s))
  have d9 := (heap_at HBD.out 9).trans (rfl : _ = some (Value.float .f64 v.n))
  have d10 := (heap_at HBD.out 10).trans (rfl : _ = some (Value.int .i64 org))
  have df := heap_free HBD.out
  have dl := heap_ltZ HBD.out
  go_wp2_with fail
  refine (HMV.out w1 HB1.out).mono ?_
  rintro _ w2 ⟨rfl, hb2⟩
  have HBD2 := Lib.hid (belowZ HBD.out hb2)
  have HB2 := Lib.hid (bel2 HB1.out hb2)
  clear hb2 HMV d0 d1 d2 d3 d4 d5 d6 d7 d8 d9 d10 df dl
  by_cases hneg : pl < 0
  · have hU := HA1.out hneg
    subst hU
    go_wp2
    go_ret
    exact (StepP.stay HD0.out HB2.out).n
  obtain ⟨j, hj, hpj, hmj⟩ := HPL.out (by omega)
  have HA3 := Lib.hid (HA2.out _ (by omega) hmj)
  have hmem : ct.ms[j] ∈ ct.ms := List.getElem_mem hj
  obtain ⟨-, -, -, hmx⟩ := HML.out w2 HB2.out
  obtain ⟨ma, hma, hmb, A, c, XE, xc, x0, x1, x2, ⟨x3, x4, x5, x6, x7, x8, x9, x10⟩, hxg, x11, x12, hxe⟩ := hmx j hj
  subst hma
  subst hpj
  have hnegI : ¬ (j : Int) < 0 := by omega
  have hjI : (j : Int) < (ct.ms.length : Int) := by omega
  have HMX := Lib.hid (HMM.out _ hmem A c XE xc)
  have HEX := Lib.hid (HEF.out _ hmem XE xc)
  have HJ := Lib.hid hj
  clear hneg hmj hmx hmem HMM HEF HA1 HA2 HPL HML
  generalize ct.ms[j] = x at *
  clear hj
  have HXG := Lib.hid hxg
  have HXE := Lib.hid hxe
  clear hxg hxe
  have d0 := (heap_at HBD2.out 0).trans (rfl : _ = some (Value.string ct.name))
  have d1 := (heap_at HBD2.out 1).trans (rfl : _ = some (Value.slice FA ct.fs.length fc))
  have d2 := (heap_at HBD2.out 2).trans (rfl : _ = some (Value.slice SA ct.ss.length sc))
  have d3 := (heap_at HBD2.out 3).trans (rfl : _ = some (Value.slice (some ma) ct.ms.length mc))
  have d4 := (heap_at HBD2.out 4).trans (rfl : _ = some (Value.string nm))
  have d5 := (heap_at HBD2.out 5).trans (rfl : _ = some (Value.int .i64 v.k))
  have d6 := (heap_at HBD2.out 6).trans (rfl : _ = some (Value.int .i64 v.i))
  have d7 := (heap_at HBD2.out 7).trans (rfl : _ = some (Value.bool v.b))
  have d8 := (heap_at HBD2.out 8).trans (rfl : _ = some (Value.string v.s))
  have d9 := (heap_at HBD2.out 9).trans (rfl : _ = some (Value.float .f64 v.n))
  have d10 := (heap_at HBD2.out 10).trans (rfl : _ = some (Value.int .i64 org))
  have df := heap_free HBD2.out
  have dl := heap_ltZ HBD2.out
  go_upto_region 5 with fail
  have hbm := heap_alloc_new w2 (.cells #[.string x.name, .int .i64 x.frm, .int .i64 x.too, .int .i64 x.guard.op, .slice A x.guard.kids.length c, .string x.guard.name, .int .i64 x.guard.val.k, .int .i64 x.guard.val.i, .bool x.guard.val.b, .string x.guard.val.s, .float .f64 x.guard.val.n, .slice XE x.effs.length xc, .int .i64 x.org] 80)
  have HB3 := Lib.hid (alloc1 w2 (.cells #[.string x.name, .int .i64 x.frm, .int .i64 x.too, .int .i64 x.guard.op, .slice A x.guard.kids.length c, .string x.guard.name, .int .i64 x.guard.val.k, .int .i64 x.guard.val.i, .bool x.guard.val.b, .string x.guard.val.s, .float .f64 x.guard.val.n, .slice XE x.effs.length xc, .int .i64 x.org] 80))
  have HBD3 := Lib.hid (belowZ HBD2.out HB3.out)
  clear d0 d1 d2 d3 d4 d5 d6 d7 d8 d9 d10 df dl x0 x1 x2 x3 x4 x5 x6 x7 x8 x9 x10 x11 x12
  generalize w2.alloc (.cells #[.string x.name, .int .i64 x.frm, .int .i64 x.too, .int .i64 x.guard.op, .slice A x.guard.kids.length c, .string x.guard.name, .int .i64 x.guard.val.k, .int .i64 x.guard.val.i, .bool x.guard.val.b, .string x.guard.val.s, .float .f64 x.guard.val.n, .slice XE x.effs.length xc, .int .i64 x.org] 80) = w3 at *
  generalize hmbb : w2.heap.size = mb at *
  have HMB := Lib.hid hbm
  have HB3w := Lib.hid (show Below w.heap.size w w3 from bel2 HB2.out (by rw [hmbb]; exact HB3.out))
  have HXG3 := Lib.hid (HXG.out.below (show Below w2.heap.size w2 w3 by rw [hmbb]; exact HB3.out))
  have HXE3 := Lib.hid (EffK.below HXE.out (show Below w2.heap.size w2 w3 by rw [hmbb]; exact HB3.out))
  clear hmbb HXG HXE
  have d0 := (heap_at HBD3.out 0).trans (rfl : _ = some (Value.string ct.name))
  have d1 := (heap_at HBD3.out 1).trans (rfl : _ = some (Value.slice FA ct.fs.length fc))
  have d2 := (heap_at HBD3.out 2).trans (rfl : _ = some (Value.slice SA ct.ss.length sc))
  have d3 := (heap_at HBD3.out 3).trans (rfl : _ = some (Value.slice (some ma) ct.ms.length mc))
  have d4 := (heap_at HBD3.out 4).trans (rfl : _ = some (Value.string nm))
  have d5 := (heap_at HBD3.out 5).trans (rfl : _ = some (Value.int .i64 v.k))
  have d6 := (heap_at HBD3.out 6).trans (rfl : _ = some (Value.int .i64 v.i))
  have d7 := (heap_at HBD3.out 7).trans (rfl : _ = some (Value.bool v.b))
  have d8 := (heap_at HBD3.out 8).trans (rfl : _ = some (Value.string v.s))
  have d9 := (heap_at HBD3.out 9).trans (rfl : _ = some (Value.float .f64 v.n))
  have d10 := (heap_at HBD3.out 10).trans (rfl : _ = some (Value.int .i64 org))
  have df := heap_free HBD3.out
  have dl := heap_ltZ HBD3.out
  have m0 := (heap_at hbm 0).trans (rfl : _ = some (Value.string x.name))
  have m1 := (heap_at hbm 1).trans (rfl : _ = some (Value.int .i64 x.frm))
  have m2 := (heap_at hbm 2).trans (rfl : _ = some (Value.int .i64 x.too))
  have m3 := (heap_at hbm 3).trans (rfl : _ = some (Value.int .i64 x.guard.op))
  have m4 := (heap_at hbm 4).trans (rfl : _ = some (Value.slice A x.guard.kids.length c))
  have m5 := (heap_at hbm 5).trans (rfl : _ = some (Value.string x.guard.name))
  have m6 := (heap_at hbm 6).trans (rfl : _ = some (Value.int .i64 x.guard.val.k))
  have m7 := (heap_at hbm 7).trans (rfl : _ = some (Value.int .i64 x.guard.val.i))
  have m8 := (heap_at hbm 8).trans (rfl : _ = some (Value.bool x.guard.val.b))
  have m9 := (heap_at hbm 9).trans (rfl : _ = some (Value.string x.guard.val.s))
  have m10 := (heap_at hbm 10).trans (rfl : _ = some (Value.float .f64 x.guard.val.n))
  have m11 := (heap_at hbm 11).trans (rfl : _ = some (Value.slice XE x.effs.length xc))
  have m12 := (heap_at hbm 12).trans (rfl : _ = some (Value.int .i64 x.org))
  have mf := heap_free hbm
  have ml := heap_ltZ hbm
  go_wp2_with fail
  refine (HMX.out w3 HB3w.out HXG3.out).mono ?_
  rintro _ w4 ⟨rfl, hb4⟩
  have HB4 := Lib.hid (bel2 HB3w.out hb4)
  have HBD4 := Lib.hid (belowZ HBD3.out hb4)
  have HMB4 := Lib.hid (belowZ HMB.out hb4)
  have HXE4 := Lib.hid (EffK.below HXE3.out hb4)
  clear hb4 hbm d0 d1 d2 d3 d4 d5 d6 d7 d8 d9 d10 df dl m0 m1 m2 m3 m4 m5 m6 m7 m8 m9 m10 m11 m12 mf ml
  have hA3 := HA3.out
  clear HA3
  generalize mayK ct k x ev org = y at *
  by_cases hy : y = 0
  case neg =>
    have hyb : (y != 0) = true := by simpa using hy
    rw [if_pos hy] at hA3
    subst hA3
    clear hy
    go_wp2
    go_ret
    exact (StepP.stay HD0.out HB4.out).n
  rw [if_neg (fun h => h hy)] at hA3
  have hyb : (y != 0) = false := by simp [hy]
  have HA4 := Lib.hid hA3
  clear hA3 hy
  have HDB4 := Lib.hid (HD0.out.below HB4.out)
  have d0 := (heap_at HBD4.out 0).trans (rfl : _ = some (Value.string ct.name))
  have d1 := (heap_at HBD4.out 1).trans (rfl : _ = some (Value.slice FA ct.fs.length fc))
  have d2 := (heap_at HBD4.out 2).trans (rfl : _ = some (Value.slice SA ct.ss.length sc))
  have d3 := (heap_at HBD4.out 3).trans (rfl : _ = some (Value.slice (some ma) ct.ms.length mc))
  have d4 := (heap_at HBD4.out 4).trans (rfl : _ = some (Value.string nm))
  have d5 := (heap_at HBD4.out 5).trans (rfl : _ = some (Value.int .i64 v.k))
  have d6 := (heap_at HBD4.out 6).trans (rfl : _ = some (Value.int .i64 v.i))
  have d7 := (heap_at HBD4.out 7).trans (rfl : _ = some (Value.bool v.b))
  have d8 := (heap_at HBD4.out 8).trans (rfl : _ = some (Value.string v.s))
  have d9 := (heap_at HBD4.out 9).trans (rfl : _ = some (Value.float .f64 v.n))
  have d10 := (heap_at HBD4.out 10).trans (rfl : _ = some (Value.int .i64 org))
  have df := heap_free HBD4.out
  have dl := heap_ltZ HBD4.out
  have m0 := (heap_at HMB4.out 0).trans (rfl : _ = some (Value.string x.name))
  have m1 := (heap_at HMB4.out 1).trans (rfl : _ = some (Value.int .i64 x.frm))
  have m2 := (heap_at HMB4.out 2).trans (rfl : _ = some (Value.int .i64 x.too))
  have m3 := (heap_at HMB4.out 3).trans (rfl : _ = some (Value.int .i64 x.guard.op))
  have m4 := (heap_at HMB4.out 4).trans (rfl : _ = some (Value.slice A x.guard.kids.length c))
  have m5 := (heap_at HMB4.out 5).trans (rfl : _ = some (Value.string x.guard.name))
  have m6 := (heap_at HMB4.out 6).trans (rfl : _ = some (Value.int .i64 x.guard.val.k))
  have m7 := (heap_at HMB4.out 7).trans (rfl : _ = some (Value.int .i64 x.guard.val.i))
  have m8 := (heap_at HMB4.out 8).trans (rfl : _ = some (Value.bool x.guard.val.b))
  have m9 := (heap_at HMB4.out 9).trans (rfl : _ = some (Value.string x.guard.val.s))
  have m10 := (heap_at HMB4.out 10).trans (rfl : _ = some (Value.float .f64 x.guard.val.n))
  have m11 := (heap_at HMB4.out 11).trans (rfl : _ = some (Value.slice XE x.effs.length xc))
  have m12 := (heap_at HMB4.out 12).trans (rfl : _ = some (Value.int .i64 x.org))
  have mf := heap_free HMB4.out
  have ml := heap_ltZ HMB4.out
  have k3 := (heap_at HDB4.out.b 3).trans (rfl : _ = some (Value.slice VA k.vals.length vc))
  go_upto_region 8 with fail
  have HK := Lib.hid (show ∀ W, Below w4.heap.size w4 W → (fun W => Below w4.heap.size w4 W ∧ W.cell? ⟨w.heap.size, 0, none⟩ = some (.string ct.name) ∧ W.cell? ⟨w.heap.size, 1, none⟩ = some (.slice FA ct.fs.length fc) ∧ W.cell? ⟨w.heap.size, 2, none⟩ = some (.slice SA ct.ss.length sc) ∧ W.cell? ⟨w.heap.size, 3, none⟩ = some (.slice (some ma) ct.ms.length mc) ∧ W.cell? ⟨w.heap.size, 4, none⟩ = some (.string nm) ∧ W.cell? ⟨w.heap.size, 5, none⟩ = some (.int .i64 v.k) ∧ W.cell? ⟨w.heap.size, 6, none⟩ = some (.int .i64 v.i) ∧ W.cell? ⟨w.heap.size, 7, none⟩ = some (.bool v.b) ∧ W.cell? ⟨w.heap.size, 8, none⟩ = some (.string v.s) ∧ W.cell? ⟨w.heap.size, 9, none⟩ = some (.float .f64 v.n) ∧ W.cell? ⟨w.heap.size, 10, none⟩ = some (.int .i64 org) ∧ W.cell? ⟨mb, 11, none⟩ = some (.slice XE x.effs.length xc) ∧ W.cell? ⟨B, 3, none⟩ = some (.slice VA k.vals.length vc)) W from fun W h => ⟨h, (h.cell (World.block_lt_of_cell? _ _ d0)).trans d0, (h.cell (World.block_lt_of_cell? _ _ d1)).trans d1, (h.cell (World.block_lt_of_cell? _ _ d2)).trans d2, (h.cell (World.block_lt_of_cell? _ _ d3)).trans d3, (h.cell (World.block_lt_of_cell? _ _ d4)).trans d4, (h.cell (World.block_lt_of_cell? _ _ d5)).trans d5, (h.cell (World.block_lt_of_cell? _ _ d6)).trans d6, (h.cell (World.block_lt_of_cell? _ _ d7)).trans d7, (h.cell (World.block_lt_of_cell? _ _ d8)).trans d8, (h.cell (World.block_lt_of_cell? _ _ d9)).trans d9, (h.cell (World.block_lt_of_cell? _ _ d10)).trans d10, (h.cell (World.block_lt_of_cell? _ _ m11)).trans m11, (h.cell (World.block_lt_of_cell? _ _ k3)).trans k3⟩)
  have HBr0 := Lib.hid (show Below w4.heap.size w4 w4.drew from (Below.refl _ _).drew)
  have HS0 := Lib.hid (HK.out w4.drew HBr0.out)
  go_region_held3 (fun W => Below w4.heap.size w4 W ∧ W.cell? ⟨w.heap.size, 0, none⟩ = some (.string ct.name) ∧ W.cell? ⟨w.heap.size, 1, none⟩ = some (.slice FA ct.fs.length fc) ∧ W.cell? ⟨w.heap.size, 2, none⟩ = some (.slice SA ct.ss.length sc) ∧ W.cell? ⟨w.heap.size, 3, none⟩ = some (.slice (some ma) ct.ms.length mc) ∧ W.cell? ⟨w.heap.size, 4, none⟩ = some (.string nm) ∧ W.cell? ⟨w.heap.size, 5, none⟩ = some (.int .i64 v.k) ∧ W.cell? ⟨w.heap.size, 6, none⟩ = some (.int .i64 v.i) ∧ W.cell? ⟨w.heap.size, 7, none⟩ = some (.bool v.b) ∧ W.cell? ⟨w.heap.size, 8, none⟩ = some (.string v.s) ∧ W.cell? ⟨w.heap.size, 9, none⟩ = some (.float .f64 v.n) ∧ W.cell? ⟨w.heap.size, 10, none⟩ = some (.int .i64 org) ∧ W.cell? ⟨mb, 11, none⟩ = some (.slice XE x.effs.length xc) ∧ W.cell? ⟨B, 3, none⟩ = some (.slice VA k.vals.length vc)) (first | assumption | exact HK.out _ HBr1.out | exact HS0.out) (first
      | (go_at_call 159; refine (HEX.out _ (bel2 HB4.out HBr0.out) (EffK.below HXE4.out HBr0.out)).mono ?_; rintro e wr1 ⟨rv, rfl, hown, hbr1⟩; have HOW := Lib.hid hown; clear hown; have HBr1 := Lib.hid (bel2 HBr0.out hbr1); clear hbr1))
  have HB5 := Lib.hid (bel2 HB4.out HBr1.out)
  generalize effK ct ev x.effs k.vals = R at *
  obtain ⟨r1, r2⟩ := R
  have hA4 := HA4.out
  clear HA4
  have hown := HOW.out
  dsimp only at hA4 hown ⊢
  by_cases hz : r2 = 0
  case neg =>
    have hzb : (r2 != 0) = true := by simpa using hz
    rw [if_pos hz] at hA4
    subst hA4
    clear hz
    go_wp2
    go_ret
    exact (StepP.stay HD0.out HB5.out).n
  rw [if_neg (fun h => h hz)] at hA4
  subst hA4
  subst hz
  have h00 : ((0 : Int) != 0) = false := rfl
  obtain ⟨RA, rc, rfl, hvn⟩ := vlN_own (T := fun b => base ≤ b) hown fun b hb => by have h4 := HB4.out.size; have h0 := HD0.out.bz; have h5 : w4.drew.heap.size = w4.heap.size := rfl; omega
  have HDB5 := Lib.hid (HD0.out.below HB5.out)
  have hbB := HDB5.out.b
  have b2 := (heap_at hbB 2).trans (rfl : _ = some (Value.int .i64 k.stage))
  have b3 := (heap_at hbB 3).trans (rfl : _ = some (Value.slice VA k.vals.length vc))
  have b4 := (heap_at hbB 4).trans (rfl : _ = some (Value.slice EA k.ends.length ec))
  have bf := heap_free hbB
  have hmb5 := belowZ HMB4.out HBr1.out
  have e2 := (heap_at hmb5 2).trans (rfl : _ = some (Value.int .i64 x.too))
  have HFIN := Lib.hid (DdN.adv (too := x.too) HDB5.out.lt HDB5.out.bz hbB hvn)
  clear hown hvn hbB hmb5 d0 d1 d2 d3 d4 d5 d6 d7 d8 d9 d10 df dl m0 m1 m2 m3 m4 m5 m6 m7 m8 m9 m10 m11 m12 mf ml k3 HK HS0
  go_wp2
  go_region
  all_goals
    go_wp2
    go_ret
    exact ⟨RA, rc, none, 0, rfl, HFIN.out.1.drew, ((Frm.of HD0.out.bz HB5.out).trans HFIN.out.2).drew⟩

theorem firstB_any {α : Type} (P : α → Bool) : ∀ (l : List α) (i : Nat), decide (0 ≤ firstB P l i) = l.any P
  | [], _ => rfl
  | x :: l, i => by
    rw [firstB, List.any_cons]
    cases P x
    · rw [if_neg (by decide), firstB_any P l (i + 1)]; rfl
    · rw [if_pos rfl]; simp
set_option maxHeartbeats 4000000 in
theorem idx_MoveS (P : Mv → Bool) (p : Nat) (A : Option Addr) (cc : Nat) (l : List Mv) (w : World) (hf : MvK w A cc l)
    (hcall : ∀ x ∈ l, ∀ (A : Option Addr) (c : Nat) (EA : Option Addr) (ec : Nat) W, Below w.heap.size w W → (ExE W A c x.guard ∧ EffK W EA ec x.effs) → Calls Tryz.prog 161 #[agMv x A c EA ec, .pointer (some ⟨p, 0, none⟩)] W (VMk (.bool (P x)) W)) :
    Calls Tryz.prog 178 #[.slice A l.length cc, .func (Fn.func 161) #[] #[.pointer (some ⟨p, 0, none⟩)]] w (VMk (.int .i64 (firstB P l 0)) w) := by
  obtain ⟨h1, h2, h3, h4⟩ := hf
  unfold maxLen at h2
  have hlen : l.length ≤ 9223372036854775807 := by omega
  have HP := Lib.hid hcall
  have H4 := Lib.hid h4
  clear hcall h4 h1 h2 h3
  have hsf := fun (w : World) (a : Addr) (m : Mode) (b : Nat) => run_store Tryz.prog w a (.float .f64 b) m rfl
  go_enter Tryz.func178, Tryz.ntmps178
  go_wp2
  go_loopw [8] (fun i wr => ∃ k : Nat, k ≤ l.length ∧ i = .int .i64 k ∧ firstB P (l.drop k) k = firstB P l 0 ∧ Below w.heap.size w wr) (fun i _ => l.length - (intOf i).toNat)
  case atStart => exact ⟨0, Nat.zero_le _, rfl, rfl, Below.refl _ _⟩
  case round =>
    obtain ⟨k, hk, rfl, hfi, hb⟩ := hrel
    by_cases hlt : k < l.length
    · obtain ⟨ad, rfl, hbl, hpart⟩ := H4.out k hlt
      have hpart2 := hpart.below hb (by rw [block_add]; exact hbl)
      have hmem := List.getElem_mem hlt
      rw [List.drop_eq_getElem_cons hlt, firstB] at hfi
      generalize l[k] = x at *
      obtain ⟨A, c, EA, ec, h0, h1, h2, hk, he, h11, h12, hek⟩ := hpart2
      have q0 : wr.cell? (ad.add (k * 13)) = some (.string x.name) := h0
      have q1 : wr.cell? ⟨(ad.add (k * 13)).block, (ad.add (k * 13)).off + 1, none⟩ = some (.int .i64 x.frm) := h1
      have q2 : wr.cell? ⟨(ad.add (k * 13)).block, (ad.add (k * 13)).off + 2, none⟩ = some (.int .i64 x.too) := h2
      have q3 : wr.cell? ⟨(ad.add (k * 13)).block, (ad.add (k * 13)).off + 3, none⟩ = some (.int .i64 x.guard.op) := hk.1
      have q4 : wr.cell? ⟨(ad.add (k * 13)).block, (ad.add (k * 13)).off + 4, none⟩ = some (.slice A x.guard.kids.length c) := hk.2.1
      have q5 : wr.cell? ⟨(ad.add (k * 13)).block, (ad.add (k * 13)).off + 5, none⟩ = some (.string x.guard.name) := hk.2.2.1
      have q6 : wr.cell? ⟨(ad.add (k * 13)).block, (ad.add (k * 13)).off + 6, none⟩ = some (.int .i64 x.guard.val.k) := hk.2.2.2.1
      have q7 : wr.cell? ⟨(ad.add (k * 13)).block, (ad.add (k * 13)).off + 7, none⟩ = some (.int .i64 x.guard.val.i) := hk.2.2.2.2.1
      have q8 : wr.cell? ⟨(ad.add (k * 13)).block, (ad.add (k * 13)).off + 8, none⟩ = some (.bool x.guard.val.b) := hk.2.2.2.2.2.1
      have q9 : wr.cell? ⟨(ad.add (k * 13)).block, (ad.add (k * 13)).off + 9, none⟩ = some (.string x.guard.val.s) := hk.2.2.2.2.2.2.1
      have q10 : wr.cell? ⟨(ad.add (k * 13)).block, (ad.add (k * 13)).off + 10, none⟩ = some (.float .f64 x.guard.val.n) := hk.2.2.2.2.2.2.2
      have q11 : wr.cell? ⟨(ad.add (k * 13)).block, (ad.add (k * 13)).off + 11, none⟩ = some (.slice EA x.effs.length ec) := h11
      have q12 : wr.cell? ⟨(ad.add (k * 13)).block, (ad.add (k * 13)).off + 12, none⟩ = some (.int .i64 x.org) := h12
      have hc := HP.out x hmem A c EA ec wr hb ⟨he, hek⟩
      clear hpart hmem
      rcases hd : P x with _ | _
      all_goals
        rw [hd] at hc hfi
        have HC := Lib.hid hc
        have HF := Lib.hid hfi
        clear hc hfi hd he hek
        go_wp2_with (go_at_call 161; refine HC.out.mono ?_; rintro e w1 ⟨rfl, hb1⟩)
      · go_roundw
        case rel => exact ⟨k + 1, by omega, by go_num, by have h := HF.out; rwa [if_neg (by decide)] at h, hb.trans (hb1.mono hb.size)⟩
        case measure => simp [intOf]; omega
      · go_ret
        exact ⟨ret_int (by have h := HF.out; simpa using h), hb.trans (hb1.mono hb.size)⟩
    · obtain rfl : k = l.length := by omega
      rw [List.drop_length, firstB] at hfi
      have HF := Lib.hid hfi
      clear hfi
      go_wp2
      go_ret
      exact ⟨ret_int HF.out, hb⟩
theorem cont_MoveS (p : Nat) (A : Option Addr) (n cc : Nat) (r : Int) (w : World) (hi : Calls Tryz.prog 178 #[.slice A n cc, .func (Fn.func 161) #[] #[.pointer (some ⟨p, 0, none⟩)]] w (VMk (.int .i64 r) w)) :
    Calls Tryz.prog 160 #[.slice A n cc, .func (Fn.func 161) #[] #[.pointer (some ⟨p, 0, none⟩)]] w (VMk (.bool (decide (0 ≤ r))) w) := by
  have HI := Lib.hid hi
  clear hi
  by_cases h0 : 0 ≤ r
  · have hd : decide (0 ≤ r) = true := decide_eq_true h0
    rw [hd]
    clear hd
    go_enter Tryz.func160, Tryz.ntmps160
    go_wp2_with (go_at_call 178; refine HI.out.mono ?_; rintro e w1 ⟨rfl, hb1⟩)
    go_ret
    exact ⟨ret_bool (by first | (simp; done) | (simp; omega)), hb1⟩
  · have hd : decide (0 ≤ r) = false := decide_eq_false h0
    rw [hd]
    clear hd
    go_enter Tryz.func160, Tryz.ntmps160
    go_wp2_with (go_at_call 178; refine HI.out.mono ?_; rintro e w1 ⟨rfl, hb1⟩)
    go_ret
    exact ⟨ret_bool (by first | (simp; done) | (simp; omega)), hb1⟩
set_option maxHeartbeats 1000000 in
theorem clo_Shut (p B : Nat) (x : Mv) (A : Option Addr) (c : Nat) (EA : Option Addr) (ec : Nat) (st : Int) (w : World) (hp : w.cell? ⟨p, 0, none⟩ = some (.pointer (some ⟨B, 0, none⟩))) (hs : w.cell? ⟨B, 2, none⟩ = some (.int .i64 st)) :
    Calls Tryz.prog 161 #[agMv x A c EA ec, .pointer (some ⟨p, 0, none⟩)] w (VMk (.bool (x.frm == st)) w) := by
  have hsf := fun (w : World) (a : Addr) (m : Mode) (b : Nat) => run_store Tryz.prog w a (.float .f64 b) m rfl
  have HB := Lib.hid (alloc1 w (.cells #[.string x.name, .int .i64 x.frm, .int .i64 x.too, .int .i64 x.guard.op, .slice A x.guard.kids.length c, .string x.guard.name, .int .i64 x.guard.val.k, .int .i64 x.guard.val.i, .bool x.guard.val.b, .string x.guard.val.s, .float .f64 x.guard.val.n, .slice EA x.effs.length ec, .int .i64 x.org] 80))
  have hbx := heap_alloc_new w (.cells #[.string x.name, .int .i64 x.frm, .int .i64 x.too, .int .i64 x.guard.op, .slice A x.guard.kids.length c, .string x.guard.name, .int .i64 x.guard.val.k, .int .i64 x.guard.val.i, .bool x.guard.val.b, .string x.guard.val.s, .float .f64 x.guard.val.n, .slice EA x.effs.length ec, .int .i64 x.org] 80)
  have hp2 := (HB.out.cell (World.block_lt_of_cell? _ _ hp)).trans hp
  have hs2 := (HB.out.cell (World.block_lt_of_cell? _ _ hs)).trans hs
  clear hp hs
  generalize hb : (x.frm == st) = b
  go_enter Tryz.func161, Tryz.ntmps161
  go_upto_region 1 with fail
  generalize w.alloc (.cells #[.string x.name, .int .i64 x.frm, .int .i64 x.too, .int .i64 x.guard.op, .slice A x.guard.kids.length c, .string x.guard.name, .int .i64 x.guard.val.k, .int .i64 x.guard.val.i, .bool x.guard.val.b, .string x.guard.val.s, .float .f64 x.guard.val.n, .slice EA x.effs.length ec, .int .i64 x.org] 80) = w1 at *
  have m0 := (heap_at hbx 0).trans (rfl : _ = some (Value.string x.name))
  have m1 := (heap_at hbx 1).trans (rfl : _ = some (Value.int .i64 x.frm))
  have m2 := (heap_at hbx 2).trans (rfl : _ = some (Value.int .i64 x.too))
  have m3 := (heap_at hbx 3).trans (rfl : _ = some (Value.int .i64 x.guard.op))
  have m4 := (heap_at hbx 4).trans (rfl : _ = some (Value.slice A x.guard.kids.length c))
  have m5 := (heap_at hbx 5).trans (rfl : _ = some (Value.string x.guard.name))
  have m6 := (heap_at hbx 6).trans (rfl : _ = some (Value.int .i64 x.guard.val.k))
  have m7 := (heap_at hbx 7).trans (rfl : _ = some (Value.int .i64 x.guard.val.i))
  have m8 := (heap_at hbx 8).trans (rfl : _ = some (Value.bool x.guard.val.b))
  have m9 := (heap_at hbx 9).trans (rfl : _ = some (Value.string x.guard.val.s))
  have m10 := (heap_at hbx 10).trans (rfl : _ = some (Value.float .f64 x.guard.val.n))
  have m11 := (heap_at hbx 11).trans (rfl : _ = some (Value.slice EA x.effs.length ec))
  have m12 := (heap_at hbx 12).trans (rfl : _ = some (Value.int .i64 x.org))
  have mf := heap_free hbx
  have ml := heap_ltZ hbx
  clear hbx
  go_quiet (fail)
  go_wp2
  go_ret
  exact ⟨rfl, HB.out.trans (below_drewN (Below.refl _ _) _ |>.mono HB.out.size)⟩
set_option maxHeartbeats 4000000 in
theorem dShut_any (ct : Ctr) (FA : Option Addr) (fc : Nat) (SA : Option Addr) (sc : Nat) (MA : Option Addr) (mc : Nat) (k : Cse) (VA : Option Addr) (vc : Nat) (EA : Option Addr) (ec : Nat) (nm : ByteArray) (v : Vl) (org : Int) (base B : Nat) (w : World) (h : CtK w ct FA fc SA sc MA mc) (hd : DdK w base B k VA vc EA ec) :
    Calls Tryz.prog 99 #[.agg (csD ct FA fc SA sc MA mc nm v org), .pointer (some ⟨B, 0, none⟩)] w (StepP base B (if leadsK ct k.stage = true then (k, 61) else ({ k with shut := true }, 0)) w) := by
  have hb2 : Below w.heap.size w ((w.alloc (.cells #[.string ct.name, .slice FA ct.fs.length fc, .slice SA ct.ss.length sc, .slice MA ct.ms.length mc, .string nm, .int .i64 v.k, .int .i64 v.i, .bool v.b, .string v.s, .float .f64 v.n, .int .i64 org] 95)).alloc (.cells #[.pointer (some ⟨B, 0, none⟩)] 97)) := (alloc1 _ _).trans ((alloc1 _ _).mono (by simp))
  have hbd := belowZ (heap_alloc_new w (.cells #[.string ct.name, .slice FA ct.fs.length fc, .slice SA ct.ss.length sc, .slice MA ct.ms.length mc, .string nm, .int .i64 v.k, .int .i64 v.i, .bool v.b, .string v.s, .float .f64 v.n, .int .i64 org] 95)) (alloc1 (w.alloc (.cells #[.string ct.name, .slice FA ct.fs.length fc, .slice SA ct.ss.length sc, .slice MA ct.ms.length mc, .string nm, .int .i64 v.k, .int .i64 v.i, .bool v.b, .string v.s, .float .f64 v.n, .int .i64 org] 95)) (.cells #[.pointer (some ⟨B, 0, none⟩)] 97))
  have hbp := heap_alloc_new (w.alloc (.cells #[.string ct.name, .slice FA ct.fs.length fc, .slice SA ct.ss.length sc, .slice MA ct.ms.length mc, .string nm, .int .i64 v.k, .int .i64 v.i, .bool v.b, .string v.s, .float .f64 v.n, .int .i64 org] 95)) (.cells #[.pointer (some ⟨B, 0, none⟩)] 97)
  rw [World.size_alloc] at hbp
  have hd2 := hd.below hb2
  have hmk := h.m.below hb2
  have HB := Lib.hid hb2
  have HBZ := Lib.hid hd.bz
  clear h hd hb2
  obtain ⟨id, kc, st, vals, ends, su, sh, sp⟩ := k
  go_enter Tryz.func99, Tryz.ntmps99
  go_upto_region 1 with fail
  generalize (w.alloc (.cells #[.string ct.name, .slice FA ct.fs.length fc, .slice SA ct.ss.length sc, .slice MA ct.ms.length mc, .string nm, .int .i64 v.k, .int .i64 v.i, .bool v.b, .string v.s, .float .f64 v.n, .int .i64 org] 95)).alloc (.cells #[.pointer (some ⟨B, 0, none⟩)] 97) = w1 at *
  have d0 := (heap_at hbd 0).trans (rfl : _ = some (Value.string ct.name))
  have d1 := (heap_at hbd 1).trans (rfl : _ = some (Value.slice FA ct.fs.length fc))
  have d2 := (heap_at hbd 2).trans (rfl : _ = some (Value.slice SA ct.ss.length sc))
  have d3 := (heap_at hbd 3).trans (rfl : _ = some (Value.slice MA ct.ms.length mc))
  have d4 := (heap_at hbd 4).trans (rfl : _ = some (Value.string nm))
  have d5 := (heap_at hbd 5).trans (rfl : _ = some (Value.int .i64 v.k))
  have d6 := (heap_at hbd 6).trans (rfl : _ = some (Value.int .i64 v.i))
  have d7 := (heap_at hbd 7).trans (rfl : _ = some (Value.bool v.b))
  have d8 := (heap_at hbd 8).trans (rfl : _ = some (Value.string v.s))
  have d9 := (heap_at hbd 9).trans (rfl : _ = some (Value.float .f64 v.n))
  have d10 := (heap_at hbd 10).trans (rfl : _ = some (Value.int .i64 org))
  have df := heap_free hbd
  have dl := heap_ltZ hbd
  have p0 := (heap_at hbp 0).trans (rfl : _ = some (Value.pointer (some ⟨B, 0, none⟩)))
  have k2 := (heap_at hd2.b 2).trans (rfl : _ = some (Value.int .i64 st))
  have HI := Lib.hid (cont_MoveS (w.heap.size + 1) MA ct.ms.length mc _ w1 (idx_MoveS (fun x => x.frm == st) (w.heap.size + 1) MA mc ct.ms w1 hmk fun x _ A c EA ec W hW _ => clo_Shut (w.heap.size + 1) B x A c EA ec st W ((hW.cell (World.block_lt_of_cell? _ _ p0)).trans p0) ((hW.cell (World.block_lt_of_cell? _ _ k2)).trans k2)))
  rw [firstB_any] at HI
  have HD := Lib.hid hd2
  have HP := Lib.hid hbp
  have hl : leadsK ct st = ct.ms.any fun x => x.frm == st := rfl
  rw [← hl] at HI
  clear hmk hbd hd2 hbp hl k2
  have HU0 := Lib.hid (show leadsK ct st = false → ((if leadsK ct st = true then (({ id := id, ctr := kc, stage := st, vals := vals, ends := ends, susp := su, shut := sh, steps := sp } : Cse), (61 : Int)) else ({ id := id, ctr := kc, stage := st, vals := vals, ends := ends, susp := su, shut := true, steps := sp }, 0)) = ({ id := id, ctr := kc, stage := st, vals := vals, ends := ends, susp := su, shut := true, steps := sp }, 0)) from fun h => by rw [h]; rfl)
  have HU1 := Lib.hid (show leadsK ct st = true → ((if leadsK ct st = true then (({ id := id, ctr := kc, stage := st, vals := vals, ends := ends, susp := su, shut := sh, steps := sp } : Cse), (61 : Int)) else ({ id := id, ctr := kc, stage := st, vals := vals, ends := ends, susp := su, shut := true, steps := sp }, 0)) = ({ id := id, ctr := kc, stage := st, vals := vals, ends := ends, susp := su, shut := sh, steps := sp }, 61)) from fun h => by rw [h]; rfl)
  generalize (if leadsK ct st = true then (({ id := id, ctr := kc, stage := st, vals := vals, ends := ends, susp := su, shut := sh, steps := sp } : Cse), (61 : Int)) else ({ id := id, ctr := kc, stage := st, vals := vals, ends := ends, susp := su, shut := true, steps := sp }, 0)) = U at *
  rcases hb : leadsK ct st with _ | _
  · have hU := HU0.out hb
    subst hU
    rw [hb] at HI
    clear hb HU0 HU1
    go_wp2_with (go_at_call 160; refine HI.out.mono ?_; rintro e w2 ⟨rfl, hb2⟩; have HD2 := Lib.hid (HD.out.below hb2); have hp2 := belowZ HP.out hb2; have p0 := (heap_at hp2 0).trans (rfl : _ = some (Value.pointer (some ⟨B, 0, none⟩))); have k6 := (heap_at HD2.out.b 6).trans (rfl : _ = some (Value.bool sh)); have kf := heap_free HD2.out.b; have HB2 := Lib.hid (bel2 HB.out hb2); clear hp2 hb2)
    go_ret
    exact ⟨VA, vc, EA, ec, rfl, HD2.out.setc 6 _ rfl rfl rfl, (Frm.of HBZ.out HB2.out).setc 6 _⟩
  · have hU := HU1.out hb
    subst hU
    rw [hb] at HI
    clear hb HU0 HU1
    go_wp2_with (go_at_call 160; refine HI.out.mono ?_; rintro e w2 ⟨rfl, hb2⟩; have HD2 := Lib.hid (HD.out.below hb2); have HB2 := Lib.hid (bel2 HB.out hb2); clear hb2)
    go_ret
    exact ⟨VA, vc, EA, ec, rfl, HD2.out, Frm.of HBZ.out HB2.out⟩

theorem DdK.box {w : World} {base B : Nat} {k : Cse} {VA : Option Addr} {vc : Nat} {EA : Option Addr} {ec : Nat} (h : DdK w base B k VA vc EA ec) {k' : Cse} (e : k = k') : DdK w base B k' VA vc EA ec := e ▸ h
set_option maxHeartbeats 8000000 in
theorem dStep_any (ct : Ctr) (FA : Option Addr) (fc : Nat) (SA : Option Addr) (sc : Nat) (MA : Option Addr) (mc : Nat) (k : Cse) (VA : Option Addr) (vc : Nat) (EA : Option Addr) (ec : Nat) (nm : ByteArray) (v : Vl) (org : Int) (d : Int) (base B : Nat) (w : World) (h : CtK w ct FA fc SA sc MA mc) (hd : DdK w base B k VA vc EA ec) (hr : RtK ct k) (hvs : ∀ v ∈ k.vals, okV v) (hoc : okC ct) (hel : k.ends.length ≤ 1000) (h3 : 3 ≤ d) (h9 : d ≤ 9) :
    Calls Tryz.prog 54 #[.agg (csD ct FA fc SA sc MA mc nm v org), .pointer (some ⟨B, 0, none⟩), .int .i64 d] w (StepN base B (stepK ct k d nm v (evK ct k) org) w) := by
  have HBD := Lib.hid (heap_alloc_new w (.cells #[.string ct.name, .slice FA ct.fs.length fc, .slice SA ct.ss.length sc, .slice MA ct.ms.length mc, .string nm, .int .i64 v.k, .int .i64 v.i, .bool v.b, .string v.s, .float .f64 v.n, .int .i64 org] 95))
  have HB1 := Lib.hid (alloc1 w (.cells #[.string ct.name, .slice FA ct.fs.length fc, .slice SA ct.ss.length sc, .slice MA ct.ms.length mc, .string nm, .int .i64 v.k, .int .i64 v.i, .bool v.b, .string v.s, .float .f64 v.n, .int .i64 org] 95))
  have HBA := Lib.hid (fun W => barred_any k VA vc EA ec d h3 h9 W)
  have HUP := Lib.hid (fun W (hb : Below w.heap.size w W) => (dUpdate_any ct FA fc SA sc MA mc k VA vc EA ec nm v org base B W (h.below hb) (hd.below hb) hr).mono fun _ _ h => h.n)
  have HEN := Lib.hid (fun W (hb : Below w.heap.size w W) => dEndorse_any ct FA fc SA sc MA mc k VA vc EA ec nm v org base B W (h.below hb) (hd.below hb) hr hel)
  have HAD := Lib.hid (fun W (hb : Below w.heap.size w W) => dAdvance_any ct FA fc SA sc MA mc k VA vc EA ec nm v org base B W (h.below hb) (hd.below hb) hr hvs hoc)
  have HRE := Lib.hid (fun W (hb : Below w.heap.size w W) => (resume_any k VA vc EA ec base B W (hd.below hb)).mono fun _ _ h => h.n)
  have HSH := Lib.hid (fun W (hb : Below w.heap.size w W) => (dShut_any ct FA fc SA sc MA mc k VA vc EA ec nm v org base B W (h.below hb) (hd.below hb)).mono fun _ _ h => h.n)
  have HD0 := Lib.hid hd
  have HBW := Lib.hid (show B < w.heap.size by have := hd.lt; have := hd.bz; omega)
  have HS0 := Lib.hid (show barK k d ≠ 0 → stepK ct k d nm v (evK ct k) org = (k, barK k d) from fun h => if_pos h)
  have HS3 := Lib.hid (show barK k d = 0 → d = 3 → stepK ct k d nm v (evK ct k) org = updK ct k nm v org from fun h hd => by unfold stepK; rw [if_neg (fun e => e h), if_pos hd])
  have HS4 := Lib.hid (show barK k d = 0 → d = 4 → stepK ct k d nm v (evK ct k) org = endK ct k org from fun h hd => by unfold stepK; rw [if_neg (fun e => e h), if_neg (by omega), if_pos hd])
  have HS5 := Lib.hid (show barK k d = 0 → d = 5 → stepK ct k d nm v (evK ct k) org = advK ct k nm (evK ct k) org from fun h hd => by unfold stepK; rw [if_neg (fun e => e h), if_neg (by omega), if_neg (by omega), if_pos hd])
  have HS6 := Lib.hid (show barK k d = 0 → d = 6 → stepK ct k d nm v (evK ct k) org = ({ k with susp := true }, 0) from fun h hd => by unfold stepK; rw [if_neg (fun e => e h), if_neg (by omega), if_neg (by omega), if_neg (by omega), if_pos hd])
  have HS7 := Lib.hid (show barK k d = 0 → d = 7 → stepK ct k d nm v (evK ct k) org = (if k.susp = true then ({ k with susp := false }, 0) else (k, 75)) from fun h hd => by unfold stepK; rw [if_neg (fun e => e h), if_neg (by omega), if_neg (by omega), if_neg (by omega), if_neg (by omega), if_pos hd])
  have HS8 := Lib.hid (show barK k d = 0 → d = 8 → stepK ct k d nm v (evK ct k) org = (if leadsK ct k.stage = true then (k, 61) else ({ k with shut := true }, 0)) from fun h hd => by unfold stepK; rw [if_neg (fun e => e h), if_neg (by omega), if_neg (by omega), if_neg (by omega), if_neg (by omega), if_neg (by omega), if_pos hd])
  have HS9 := Lib.hid (show barK k d = 0 → d = 9 → stepK ct k d nm v (evK ct k) org = ({ k with shut := false, stage := 0, ends := [] }, 0) from fun h hd => by unfold stepK; rw [if_neg (fun e => e h), if_neg (by omega), if_neg (by omega), if_neg (by omega), if_neg (by omega), if_neg (by omega), if_neg (by omega)])
  clear h hd hr hvs hoc hel
  generalize stepK ct k d nm v (evK ct k) org = U at *
  generalize updK ct k nm v org = U3 at *
  generalize endK ct k org = U4 at *
  generalize advK ct k nm (evK ct k) org = U5 at *
  generalize (if k.susp = true then (({ k with susp := false } : Cse), (0 : Int)) else (k, 75)) = U7 at *
  generalize (if leadsK ct k.stage = true then ((k : Cse), (61 : Int)) else ({ k with shut := true }, 0)) = U8 at *
  generalize hbk : barK k d = y at *
  clear hbk
  have hcase : d = 3 ∨ d = 4 ∨ d = 5 ∨ d = 6 ∨ d = 7 ∨ d = 8 ∨ d = 9 := by omega
  clear h3 h9
  go_enter Tryz.func54, Tryz.ntmps54
  go_upto_region 1 with fail
  generalize w.alloc (.cells #[.string ct.name, .slice FA ct.fs.length fc, .slice SA ct.ss.length sc, .slice MA ct.ms.length mc, .string nm, .int .i64 v.k, .int .i64 v.i, .bool v.b, .string v.s, .float .f64 v.n, .int .i64 org] 95) = w1 at *
  have HD1 := Lib.hid (HD0.out.below HB1.out)
  have k0 := (heap_at HD1.out.b 0).trans (rfl : _ = some (Value.string k.id))
  have k1 := (heap_at HD1.out.b 1).trans (rfl : _ = some (Value.string k.ctr))
  have k2 := (heap_at HD1.out.b 2).trans (rfl : _ = some (Value.int .i64 k.stage))
  have k3 := (heap_at HD1.out.b 3).trans (rfl : _ = some (Value.slice VA k.vals.length vc))
  have k4 := (heap_at HD1.out.b 4).trans (rfl : _ = some (Value.slice EA k.ends.length ec))
  have k5 := (heap_at HD1.out.b 5).trans (rfl : _ = some (Value.bool k.susp))
  have k6 := (heap_at HD1.out.b 6).trans (rfl : _ = some (Value.bool k.shut))
  have k7 := (heap_at HD1.out.b 7).trans (rfl : _ = some (Value.int .i64 k.steps))
  have kf := heap_free HD1.out.b
  have kl := heap_ltZ HD1.out.b
  go_wp2_with fail
  refine (HBA.out w1).mono ?_
  rintro _ w2 ⟨rfl, hb2⟩
  have HB2 := Lib.hid (bel2 HB1.out hb2)
  have HD2 := Lib.hid (HD0.out.below HB2.out)
  have HBD2 := Lib.hid (belowZ HBD.out hb2)
  clear hb2 k0 k1 k2 k3 k4 k5 k6 k7 kf kl
  by_cases hy : y = 0
  case neg =>
    have hU := HS0.out hy
    have hyb : (y != 0) = true := by simpa using hy
    subst hU
    clear hy
    go_wp2
    go_ret
    exact (StepP.stay HD0.out HB2.out).n
  have hyb : (y != 0) = false := by simp [hy]
  have HY := Lib.hid hy
  clear hy
  have d0 := (heap_at HBD2.out 0).trans (rfl : _ = some (Value.string ct.name))
  have d1 := (heap_at HBD2.out 1).trans (rfl : _ = some (Value.slice FA ct.fs.length fc))
  have d2 := (heap_at HBD2.out 2).trans (rfl : _ = some (Value.slice SA ct.ss.length sc))
  have d3 := (heap_at HBD2.out 3).trans (rfl : _ = some (Value.slice MA ct.ms.length mc))
  have d4 := (heap_at HBD2.out 4).trans (rfl : _ = some (Value.string nm))
  have d5 := (heap_at HBD2.out 5).trans (rfl : _ = some (Value.int .i64 v.k))
  have d6 := (heap_at HBD2.out 6).trans (rfl : _ = some (Value.int .i64 v.i))
  have d7 := (heap_at HBD2.out 7).trans (rfl : _ = some (Value.bool v.b))
  have d8 := (heap_at HBD2.out 8).trans (rfl : _ = some (Value.string v.s))
  have d9 := (heap_at HBD2.out 9).trans (rfl : _ = some (Value.float .f64 v.n))
  have d10 := (heap_at HBD2.out 10).trans (rfl : _ = some (Value.int .i64 org))
  have df := heap_free HBD2.out
  have dl := heap_ltZ HBD2.out
  have k0 := (heap_at HD2.out.b 0).trans (rfl : _ = some (Value.string k.id))
  have k1 := (heap_at HD2.out.b 1).trans (rfl : _ = some (Value.string k.ctr))
  have k2 := (heap_at HD2.out.b 2).trans (rfl : _ = some (Value.int .i64 k.stage))
  have k3 := (heap_at HD2.out.b 3).trans (rfl : _ = some (Value.slice VA k.vals.length vc))
  have k4 := (heap_at HD2.out.b 4).trans (rfl : _ = some (Value.slice EA k.ends.length ec))
  have k5 := (heap_at HD2.out.b 5).trans (rfl : _ = some (Value.bool k.susp))
  have k6 := (heap_at HD2.out.b 6).trans (rfl : _ = some (Value.bool k.shut))
  have k7 := (heap_at HD2.out.b 7).trans (rfl : _ = some (Value.int .i64 k.steps))
  have kf := heap_free HD2.out.b
  have kl := heap_ltZ HD2.out.b
  rcases hcase with rfl | rfl | rfl | rfl | rfl | rfl | rfl
  · have hU := HS3.out HY.out rfl
    subst hU
    go_wp2_with (go_at_call 95; refine (HUP.out w2 HB2.out).mono ?_; rintro e w3 ⟨VA3, vc3, EA3, ec3, rfl, hdn, hb3⟩; have HDN := Lib.hid hdn; have HB3 := Lib.hid hb3; clear hdn hb3)
    go_ret
    exact ⟨VA3, vc3, EA3, ec3, rfl, HDN.out, (Frm.of HD0.out.bz HB2.out).trans HB3.out⟩
  · have hU := HS4.out HY.out rfl
    subst hU
    go_wp2_with (go_at_call 96; refine (HEN.out w2 HB2.out).mono ?_; rintro e w3 ⟨VA3, vc3, EA3, ec3, rfl, hdn, hb3⟩; have HDN := Lib.hid hdn; have HB3 := Lib.hid hb3; clear hdn hb3)
    go_ret
    exact ⟨VA3, vc3, EA3, ec3, rfl, HDN.out, (Frm.of HD0.out.bz HB2.out).trans HB3.out⟩
  · have hU := HS5.out HY.out rfl
    subst hU
    go_wp2_with (go_at_call 97; refine (HAD.out w2 HB2.out).mono ?_; rintro e w3 ⟨VA3, vc3, EA3, ec3, rfl, hdn, hb3⟩; have HDN := Lib.hid hdn; have HB3 := Lib.hid hb3; clear hdn hb3)
    go_ret
    exact ⟨VA3, vc3, EA3, ec3, rfl, HDN.out, (Frm.of HD0.out.bz HB2.out).trans HB3.out⟩
  · have hU := HS6.out HY.out rfl
    subst hU
    go_wp2
    go_ret
    exact ⟨VA, vc, EA, ec, rfl, (DdK.setc (k' := { k with susp := true }) HD2.out 5 (.bool true) rfl rfl rfl).dn, (Frm.of HD0.out.bz HB2.out).setc 5 _⟩
  · have hU := HS7.out HY.out rfl
    subst hU
    go_wp2_with (go_at_call 98; refine (HRE.out w2 HB2.out).mono ?_; rintro e w3 ⟨VA3, vc3, EA3, ec3, rfl, hdn, hb3⟩; have HDN := Lib.hid hdn; have HB3 := Lib.hid hb3; clear hdn hb3)
    go_ret
    exact ⟨VA3, vc3, EA3, ec3, rfl, HDN.out, (Frm.of HD0.out.bz HB2.out).trans HB3.out⟩
  · have hU := HS8.out HY.out rfl
    subst hU
    go_wp2_with (go_at_call 99; refine (HSH.out w2 HB2.out).mono ?_; rintro e w3 ⟨VA3, vc3, EA3, ec3, rfl, hdn, hb3⟩; have HDN := Lib.hid hdn; have HB3 := Lib.hid hb3; clear hdn hb3)
    go_ret
    exact ⟨VA3, vc3, EA3, ec3, rfl, HDN.out, (Frm.of HD0.out.bz HB2.out).trans HB3.out⟩
  · have hU := HS9.out HY.out rfl
    subst hU
    have HS := Lib.hid (DdK.setn (k' := { k with shut := false, stage := 0, ends := [] }) ((HD2.out.setc (k' := { k with shut := false }) 6 (.bool false) rfl rfl rfl).setc (k' := { k with shut := false, stage := 0 }) 2 (.int .i64 0) rfl rfl rfl) rfl rfl rfl)
    go_wp2
    go_ret
    exact ⟨VA, vc, none, 0, rfl, HS.out.dn, (((Frm.of HD0.out.bz HB2.out).setc 6 _).setc 2 _).setc 4 _⟩

theorem Frm.bel {base B N : Nat} {w w1 w' : World} (h : Frm base B w1 w') (h1 : Below N w w1) (hN : N ≤ B) (hB : B < base) : Below N w w' := ⟨h.os.trans h1.os, h.tape.trans h1.tape, h.output.trans h1.output, Nat.le_trans h1.size h.size, fun m hm => (h.block m (by omega) (by omega)).trans (h1.block m hm)⟩
theorem DdK.cl {w1 wa wb : World} {N : Nat} {k : Cse} {VA : Option Addr} {vc : Nat} {EA : Option Addr} {ec : Nat} {VA1 : Option Addr} {vc1 : Nat} {EA1 : Option Addr} {ec1 : Nat} (hz : w1.heap.size = N + 4) (hbk : w1.heap[N + 1]? = some (.cells (csK k VA vc EA ec) 45 (0, 0)))
    (h1 : wa.ownsRow w1.heap.size 55 5 (.slice VA1 k.vals.length vc1) k.vals.length (k.vals.flatMap vCells)) (hba : Below w1.heap.size w1 wa) (h2 : wb.ownsRow wa.heap.size 3 1 (.slice EA1 k.ends.length ec1) k.ends.length (k.ends.map (Value.int .i64))) (hbb : Below wa.heap.size wa wb) :
    DdK ((wb.setCell ⟨N + 1, 3, none⟩ (.slice VA1 k.vals.length vc1)).setCell ⟨N + 1, 4, none⟩ (.slice EA1 k.ends.length ec1)) (N + 4) (N + 1) k VA1 vc1 EA1 ec1 ∧ Frm (N + 4) (N + 1) w1 ((wb.setCell ⟨N + 1, 3, none⟩ (.slice VA1 k.vals.length vc1)).setCell ⟨N + 1, 4, none⟩ (.slice EA1 k.ends.length ec1)) := by
  have hbw := bel2 hba hbb
  have hs1 := hba.size
  have hs2 := hbb.size
  have hb := setZ (setZ (belowZ hbk hbw) 3 (.slice VA1 k.vals.length vc1)) 4 (.slice EA1 k.ends.length ec1)
  have hzz : ((wb.setCell ⟨N + 1, 3, none⟩ (.slice VA1 k.vals.length vc1)).setCell ⟨N + 1, 4, none⟩ (.slice EA1 k.ends.length ec1)).heap.size = wb.heap.size := by simp [World.setCell]
  rw [hz] at h1
  refine ⟨⟨by omega, by omega, hb, ?_, ?_⟩, ((Frm.of (by omega) hbw).setc 3 _).setc 4 _⟩
  · exact ownsRow_setCell_below (ownsRow_setCell_below (own_belowX h1 hbb) (a := ⟨N + 1, 3, none⟩) (by show N + 1 < N + 4; omega) _) (a := ⟨N + 1, 4, none⟩) (by show N + 1 < N + 4; omega) _
  · exact ownsRow_setCell_below (ownsRow_setCell_below (own_monoK h2 (by omega)) (a := ⟨N + 1, 3, none⟩) (by show N + 1 < N + 4; omega) _) (a := ⟨N + 1, 4, none⟩) (by show N + 1 < N + 4; omega) _
theorem csn_step {N : Nat} {w : World} {k : Cse} {VA : Option Addr} {vc : Nat} {EA : Option Addr} {ec : Nat} (h : DdN w (N + 4) (N + 1) k VA vc EA ec) (u : Value) (st : Int) : CsN (fun b => N + 3 < b) (w.setCell ⟨N + 1, 7, none⟩ u) { k with steps := st } VA vc EA ec := by
  have h2 := h.n.move (T := fun b => N + 3 < b) (w' := w.setCell ⟨N + 1, 7, none⟩ u) (fun b hb _ => ⟨Below.heap_setCell w _ u b (show b ≠ N + 1 by omega), by omega⟩) (by simp [World.setCell])
  exact ⟨h2.v, h2.e⟩
theorem csn_more {base rb : Nat} {w : World} {k : Cse} {VA : Option Addr} {vc : Nat} {EA : Option Addr} {ec : Nat} (h : CsN (fun b => base ≤ b) w k VA vc EA ec) (hb : rb < base) : CsN (fun b => rb < b) w k VA vc EA ec := h.move (fun b hb2 _ => ⟨rfl, by omega⟩) (Nat.le_refl _)
set_option maxHeartbeats 8000000 in
theorem kDo_any (ct : Ctr) (FA : Option Addr) (fc : Nat) (SA : Option Addr) (sc : Nat) (MA : Option Addr) (mc : Nat) (k : Cse) (VA : Option Addr) (vc : Nat) (EA : Option Addr) (ec : Nat) (d : Int) (nm : ByteArray) (v : Vl) (org : Int) (w : World) (h : CtK w ct FA fc SA sc MA mc) (hk : CsK w k VA vc EA ec) (hoc : okC ct) (hok : okK k) (hl : k.vals.length ≤ 1000) (hel : k.ends.length ≤ 1000) :
    Calls Tryz.prog 28 #[agC ct.name FA ct.fs.length fc SA ct.ss.length sc MA ct.ms.length mc, .agg (csK k VA vc EA ec), .int .i64 d, .string nm, agV v, .int .i64 org] w (GivesK (doK ct k d nm v org) w) := by
  have hsf := fun (w : World) (a : Addr) (m : Mode) (b : Nat) => run_store Tryz.prog w a (.float .f64 b) m rfl
  have hB4 : Below w.heap.size w ((((w.alloc (.cells #[.string ct.name, .slice FA ct.fs.length fc, .slice SA ct.ss.length sc, .slice MA ct.ms.length mc] 33)).alloc (.cells #[.string k.id, .string k.ctr, .int .i64 k.stage, .slice VA k.vals.length vc, .slice EA k.ends.length ec, .bool k.susp, .bool k.shut, .int .i64 k.steps] 45)).alloc (.cells #[.int .i64 v.k, .int .i64 v.i, .bool v.b, .string v.s, .float .f64 v.n] 55)).alloc (.cells #[.string ⟨#[]⟩, .string ⟨#[]⟩, .int .i64 0, .slice none 0 0, .slice none 0 0, .bool false, .bool false, .int .i64 0] 45)) := (((alloc1 _ _).trans ((alloc1 _ _).mono (by simp))).trans ((alloc1 _ _).mono (by simp; omega))).trans ((alloc1 _ _).mono (by simp; omega))
  have hz4 : ((((w.alloc (.cells #[.string ct.name, .slice FA ct.fs.length fc, .slice SA ct.ss.length sc, .slice MA ct.ms.length mc] 33)).alloc (.cells #[.string k.id, .string k.ctr, .int .i64 k.stage, .slice VA k.vals.length vc, .slice EA k.ends.length ec, .bool k.susp, .bool k.shut, .int .i64 k.steps] 45)).alloc (.cells #[.int .i64 v.k, .int .i64 v.i, .bool v.b, .string v.s, .float .f64 v.n] 55)).alloc (.cells #[.string ⟨#[]⟩, .string ⟨#[]⟩, .int .i64 0, .slice none 0 0, .slice none 0 0, .bool false, .bool false, .int .i64 0] 45)).heap.size = w.heap.size + 4 := by simp
  have hbc := belowZ (belowZ (belowZ (heap_alloc_new w (.cells #[.string ct.name, .slice FA ct.fs.length fc, .slice SA ct.ss.length sc, .slice MA ct.ms.length mc] 33)) (alloc1 _ (.cells #[.string k.id, .string k.ctr, .int .i64 k.stage, .slice VA k.vals.length vc, .slice EA k.ends.length ec, .bool k.susp, .bool k.shut, .int .i64 k.steps] 45))) (alloc1 _ (.cells #[.int .i64 v.k, .int .i64 v.i, .bool v.b, .string v.s, .float .f64 v.n] 55))) (alloc1 _ (.cells #[.string ⟨#[]⟩, .string ⟨#[]⟩, .int .i64 0, .slice none 0 0, .slice none 0 0, .bool false, .bool false, .int .i64 0] 45))
  have hbk := belowZ (belowZ (heap_alloc_new (w.alloc (.cells #[.string ct.name, .slice FA ct.fs.length fc, .slice SA ct.ss.length sc, .slice MA ct.ms.length mc] 33)) (.cells #[.string k.id, .string k.ctr, .int .i64 k.stage, .slice VA k.vals.length vc, .slice EA k.ends.length ec, .bool k.susp, .bool k.shut, .int .i64 k.steps] 45)) (alloc1 _ (.cells #[.int .i64 v.k, .int .i64 v.i, .bool v.b, .string v.s, .float .f64 v.n] 55))) (alloc1 _ (.cells #[.string ⟨#[]⟩, .string ⟨#[]⟩, .int .i64 0, .slice none 0 0, .slice none 0 0, .bool false, .bool false, .int .i64 0] 45))
  have hbv := belowZ (heap_alloc_new ((w.alloc (.cells #[.string ct.name, .slice FA ct.fs.length fc, .slice SA ct.ss.length sc, .slice MA ct.ms.length mc] 33)).alloc (.cells #[.string k.id, .string k.ctr, .int .i64 k.stage, .slice VA k.vals.length vc, .slice EA k.ends.length ec, .bool k.susp, .bool k.shut, .int .i64 k.steps] 45)) (.cells #[.int .i64 v.k, .int .i64 v.i, .bool v.b, .string v.s, .float .f64 v.n] 55)) (alloc1 _ (.cells #[.string ⟨#[]⟩, .string ⟨#[]⟩, .int .i64 0, .slice none 0 0, .slice none 0 0, .bool false, .bool false, .int .i64 0] 45))
  have hbz := heap_alloc_new (((w.alloc (.cells #[.string ct.name, .slice FA ct.fs.length fc, .slice SA ct.ss.length sc, .slice MA ct.ms.length mc] 33)).alloc (.cells #[.string k.id, .string k.ctr, .int .i64 k.stage, .slice VA k.vals.length vc, .slice EA k.ends.length ec, .bool k.susp, .bool k.shut, .int .i64 k.steps] 45)).alloc (.cells #[.int .i64 v.k, .int .i64 v.i, .bool v.b, .string v.s, .float .f64 v.n] 55)) (.cells #[.string ⟨#[]⟩, .string ⟨#[]⟩, .int .i64 0, .slice none 0 0, .slice none 0 0, .bool false, .bool false, .int .i64 0] 45)
  simp only [World.size_alloc] at hbk hbv hbz
  have HCV := Lib.hid (fun W (hb : Below w.heap.size w W) => cloneVl_any VA vc k.vals W (hk.v.below hb (Nat.le_refl _)) hl)
  have HCI := Lib.hid (fun W (hb : Below w.heap.size w W) => cloneIn_any EA ec k.ends W (Rd.below hk.e hb (Nat.le_refl _)) hel)
  have HRT := Lib.hid (fun VA2 vc2 EA2 ec2 W (hb : Below w.heap.size w W) (hk2 : CsK W k VA2 vc2 EA2 ec2) => kRight_any ct FA fc SA sc MA mc k VA2 vc2 EA2 ec2 W (h.below hb) hk2)
  have HST := Lib.hid (fun VA2 vc2 EA2 ec2 W (hb : Below w.heap.size w W) (hd : DdK W (w.heap.size + 4) (w.heap.size + 1) k VA2 vc2 EA2 ec2) (hr : RtK ct k) (h3 : 3 ≤ d) (h9 : d ≤ 9) => dStep_any ct FA fc SA sc MA mc k VA2 vc2 EA2 ec2 nm v org d (w.heap.size + 4) (w.heap.size + 1) W (h.below hb) hd hr hok.v hoc hel h3 h9)
  have HE1 := Lib.hid (show (rightK ct k = false ∨ d < 3 ∨ 9 < d ∨ org < 0 ∨ 4 ≤ org) → doK ct k d nm v org = (k, 1) from fun h => if_pos h)
  have HE2 := Lib.hid (show ¬ (rightK ct k = false ∨ d < 3 ∨ 9 < d ∨ org < 0 ∨ 4 ≤ org) → k.steps = 1099511627776 → doK ct k d nm v org = (k, 3) from fun h h2 => by unfold doK; rw [if_neg h, if_pos h2])
  have HE3 := Lib.hid (show ¬ (rightK ct k = false ∨ d < 3 ∨ 9 < d ∨ org < 0 ∨ 4 ≤ org) → k.steps ≠ 1099511627776 → doK ct k d nm v org = countK (stepK ct k d nm v (evK ct k) org) k from fun h h2 => by unfold doK; rw [if_neg h, if_neg h2])
  have HER := Lib.hid (fun h => stepK_err (c := ct) (k := k) (d := d) (nm := nm) (v := v) (ev := evK ct k) (org := org) h)
  have HSP := Lib.hid (show RtK ct k → 3 ≤ d → d ≤ 9 → 0 ≤ org → (stepK ct k d nm v (evK ct k) org).2 = 0 → (stepK ct k d nm v (evK ct k) org).1.steps = k.steps from fun hr h3 h9 h0 hs => (did_right hr h0 (did_step h3 h9 hs)).2)
  have HRK := Lib.hid (show rightK ct k = true → RtK ct k from (rightK_iff ct k).1)
  clear h hk hoc hok hl hel
  generalize doK ct k d nm v org = U at *
  generalize stepK ct k d nm v (evK ct k) org = R at *
  obtain ⟨r, rn⟩ := R
  go_enter Tryz.func28, Tryz.ntmps28
  go_upto_region 1 with fail
  generalize ((((w.alloc (.cells #[.string ct.name, .slice FA ct.fs.length fc, .slice SA ct.ss.length sc, .slice MA ct.ms.length mc] 33)).alloc (.cells #[.string k.id, .string k.ctr, .int .i64 k.stage, .slice VA k.vals.length vc, .slice EA k.ends.length ec, .bool k.susp, .bool k.shut, .int .i64 k.steps] 45)).alloc (.cells #[.int .i64 v.k, .int .i64 v.i, .bool v.b, .string v.s, .float .f64 v.n] 55)).alloc (.cells #[.string ⟨#[]⟩, .string ⟨#[]⟩, .int .i64 0, .slice none 0 0, .slice none 0 0, .bool false, .bool false, .int .i64 0] 45)) = w1 at *
  have HB1 := Lib.hid hB4
  have HZ1 := Lib.hid hz4
  have HBC := Lib.hid hbc
  have HBK := Lib.hid hbk
  have HBV := Lib.hid hbv
  have HBZ := Lib.hid hbz
  have k3 : w1.drew.cell? ⟨w.heap.size + 1, 3, none⟩ = some (.slice VA k.vals.length vc) := (heap_at hbk 3).trans (rfl : _ = some (Value.slice VA k.vals.length vc))
  have k4 : w1.drew.cell? ⟨w.heap.size + 1, 4, none⟩ = some (.slice EA k.ends.length ec) := (heap_at hbk 4).trans (rfl : _ = some (Value.slice EA k.ends.length ec))
  clear hB4 hz4 hbc hbk hbv hbz
  go_cut [7] from 15 to 22 (fun s7 wx => s7 = .pointer (some ⟨w.heap.size + 1, 0, none⟩) ∧ ∃ VA2 vc2 EA2 ec2, DdK wx (w.heap.size + 4) (w.heap.size + 1) k VA2 vc2 EA2 ec2 ∧ Frm (w.heap.size + 4) (w.heap.size + 1) w1 wx)
  case first =>
    refine wp_region_held_drew (S := (fun _ => True)) (by kernel_rfl) (trivial) (fun hHeld => ?_)
    refine tk 0 ?_
    (try simp only [Act.put, sA, sB, sC])
    refine tk 3 ?_
    (try simp only [Act.put, sA, sB, sC])
    refine wpAnyH_ready (rs := [1, 4]) (by kernel_rfl) (by simp) ?_
    refine AllReadyH.cons (o := ?o436) ?g436 (fun K hK => ?j436) (AllReadyH.cons (o := ?o437) ?g437 (fun K hK => ?j437) AllReadyH.nil)
    case g436 => (simp only [gA, gB, gC]; rfl)
    case g437 => (simp only [gA, gB, gC]; rfl)
    ·
     go_simp
     refine hK.out _ _ ?_ (fun hHeld => ?_)
     · (try dsimp only); skip
     clear hK K
     (try simp only [Act.put, sA, sB, sC])
     refine wpAnyH_ready (rs := [2, 4]) (by kernel_rfl) (by simp) ?_
     refine AllReadyH.cons (o := ?o438) ?g438 (fun K hK => ?j438) (AllReadyH.cons (o := ?o439) ?g439 (fun K hK => ?j439) AllReadyH.nil)
     case g438 => (simp only [gA, gB, gC]; rfl)
     case g439 => (simp only [gA, gB, gC]; rfl)
     ·
      go_simp
      refine (HCV.out w1.drew HB1.out.drew).mono ?_
      rintro e wa ⟨v1, rfl, hown1, hba⟩
      obtain ⟨VA1, vc1, rfl⟩ := own_sliceX hown1
      have HOW1 := Lib.hid (show wa.ownsRow w1.heap.size _ _ _ _ _ from hown1)
      have HBA := Lib.hid (bel2 (Below.refl w1.heap.size w1).drew hba)
      have k4a : wa.cell? ⟨w.heap.size + 1, 4, none⟩ = some (.slice EA k.ends.length ec) := (hba.cell (World.block_lt_of_cell? _ _ k4)).trans k4
      clear hown1 hba
      refine hK.out _ _ ?_ (fun hHeld => ?_)
      · (try dsimp only); skip
      clear hK K
      (try simp only [Act.put, sA, sB, sC])
      refine wpAnyH_ready (rs := [4]) (by kernel_rfl) (by simp) ?_
      refine AllReadyH.cons (o := ?o440) ?g440 (fun K hK => ?j440) AllReadyH.nil
      case g440 => (simp only [gA, gB, gC]; rfl)
      go_simp
      refine hK.out _ _ ?_ (fun hHeld => ?_)
      · (try dsimp only); skip
      clear hK K
      (try simp only [Act.put, sA, sB, sC])
      refine wpAnyH_ready (rs := [5]) (by kernel_rfl) (by simp) ?_
      refine AllReadyH.cons (o := ?o441) ?g441 (fun K hK => ?j441) AllReadyH.nil
      case g441 => (simp only [gA, gB, gC]; rfl)
      go_simp
      refine (HCI.out wa (bel2 HB1.out HBA.out)).mono ?_
      rintro e wb ⟨v2, rfl, hown2, hbb⟩
      obtain ⟨EA1, ec1, rfl⟩ := own_sliceX hown2
      have HFIN := Lib.hid (DdK.cl HZ1.out HBK.out HOW1.out HBA.out hown2 hbb)
      have hkb := belowZ HBK.out (show Below w1.heap.size w1 wb from bel2 HBA.out hbb)
      have kb3 := (heap_at hkb 3).trans (rfl : _ = some (Value.slice VA k.vals.length vc))
      have kb4 := (heap_at hkb 4).trans (rfl : _ = some (Value.slice EA k.ends.length ec))
      have kbf := heap_free hkb
      clear hown2 hbb hkb
      refine hK.out _ _ ?_ (fun hHeld => ?_)
      · (try dsimp only); skip
      clear hK K
      (try simp only [Act.put, sA, sB, sC])
      refine tk 6 ?_
      (try simp only [Act.put, sA, sB, sC])
      refine wpAnyH_ready (rs := [7]) (by kernel_rfl) (by simp) ?_
      refine AllReadyH.cons (o := ?o443) ?g443 (fun K hK => ?j443) AllReadyH.nil
      case g443 => (simp only [gA, gB, gC]; rfl)
      go_simp
      refine hK.out _ _ ?_ (fun hHeld => ?_)
      · (try dsimp only); skip
      clear hK K
      (try simp only [Act.put, sA, sB, sC])
      refine tk 8 ?_
      (try simp only [Act.put, sA, sB, sC])
      refine wpAnyH_ready (rs := [9]) (by kernel_rfl) (by simp) ?_
      refine AllReadyH.cons (o := ?o445) ?g445 (fun K hK => ?j445) AllReadyH.nil
      case g445 => (simp only [gA, gB, gC]; rfl)
      go_simp
      refine hK.out _ _ ?_ (fun hHeld => ?_)
      · (try dsimp only); skip
      clear hK K
      (try simp only [Act.put, sA, sB, sC])
      refine wpAnyH_done (by kernel_rfl) ?_ _
      go_wp2_with fail
      go_meet
      exact ⟨rfl, VA1, vc1, EA1, ec1, HFIN.out.1, HFIN.out.2⟩
     ·
      go_simp
      refine hK.out _ _ ?_ (fun hHeld => ?_)
      · (try dsimp only); skip
      clear hK K
      (try simp only [Act.put, sA, sB, sC])
      refine wpAnyH_ready (rs := [2]) (by kernel_rfl) (by simp) ?_
      refine AllReadyH.cons (o := ?o446) ?g446 (fun K hK => ?j446) AllReadyH.nil
      case g446 => (simp only [gA, gB, gC]; rfl)
      go_simp
      refine (HCV.out w1.drew HB1.out.drew).mono ?_
      rintro e wa ⟨v1, rfl, hown1, hba⟩
      obtain ⟨VA1, vc1, rfl⟩ := own_sliceX hown1
      have HOW1 := Lib.hid (show wa.ownsRow w1.heap.size _ _ _ _ _ from hown1)
      have HBA := Lib.hid (bel2 (Below.refl w1.heap.size w1).drew hba)
      have k4a : wa.cell? ⟨w.heap.size + 1, 4, none⟩ = some (.slice EA k.ends.length ec) := (hba.cell (World.block_lt_of_cell? _ _ k4)).trans k4
      clear hown1 hba
      refine hK.out _ _ ?_ (fun hHeld => ?_)
      · (try dsimp only); skip
      clear hK K
      (try simp only [Act.put, sA, sB, sC])
      refine wpAnyH_ready (rs := [5]) (by kernel_rfl) (by simp) ?_
      refine AllReadyH.cons (o := ?o447) ?g447 (fun K hK => ?j447) AllReadyH.nil
      case g447 => (simp only [gA, gB, gC]; rfl)
      go_simp
      refine (HCI.out wa (bel2 HB1.out HBA.out)).mono ?_
      rintro e wb ⟨v2, rfl, hown2, hbb⟩
      obtain ⟨EA1, ec1, rfl⟩ := own_sliceX hown2
      have HFIN := Lib.hid (DdK.cl HZ1.out HBK.out HOW1.out HBA.out hown2 hbb)
      have hkb := belowZ HBK.out (show Below w1.heap.size w1 wb from bel2 HBA.out hbb)
      have kb3 := (heap_at hkb 3).trans (rfl : _ = some (Value.slice VA k.vals.length vc))
      have kb4 := (heap_at hkb 4).trans (rfl : _ = some (Value.slice EA k.ends.length ec))
      have kbf := heap_free hkb
      clear hown2 hbb hkb
      refine hK.out _ _ ?_ (fun hHeld => ?_)
      · (try dsimp only); skip
      clear hK K
      (try simp only [Act.put, sA, sB, sC])
      refine tk 6 ?_
      (try simp only [Act.put, sA, sB, sC])
      refine wpAnyH_ready (rs := [7]) (by kernel_rfl) (by simp) ?_
      refine AllReadyH.cons (o := ?o449) ?g449 (fun K hK => ?j449) AllReadyH.nil
      case g449 => (simp only [gA, gB, gC]; rfl)
      go_simp
      refine hK.out _ _ ?_ (fun hHeld => ?_)
      · (try dsimp only); skip
      clear hK K
      (try simp only [Act.put, sA, sB, sC])
      refine tk 8 ?_
      (try simp only [Act.put, sA, sB, sC])
      refine wpAnyH_ready (rs := [9]) (by kernel_rfl) (by simp) ?_
      refine AllReadyH.cons (o := ?o451) ?g451 (fun K hK => ?j451) AllReadyH.nil
      case g451 => (simp only [gA, gB, gC]; rfl)
      go_simp
      refine hK.out _ _ ?_ (fun hHeld => ?_)
      · (try dsimp only); skip
      clear hK K
      (try simp only [Act.put, sA, sB, sC])
      refine wpAnyH_done (by kernel_rfl) ?_ _
      go_wp2_with fail
      go_meet
      exact ⟨rfl, VA1, vc1, EA1, ec1, HFIN.out.1, HFIN.out.2⟩
    ·
     go_simp
     refine hK.out _ _ ?_ (fun hHeld => ?_)
     · (try dsimp only); skip
     clear hK K
     (try simp only [Act.put, sA, sB, sC])
     refine wpAnyH_ready (rs := [1]) (by kernel_rfl) (by simp) ?_
     refine AllReadyH.cons (o := ?o452) ?g452 (fun K hK => ?j452) AllReadyH.nil
     case g452 => (simp only [gA, gB, gC]; rfl)
     go_simp
     refine hK.out _ _ ?_ (fun hHeld => ?_)
     · (try dsimp only); skip
     clear hK K
     (try simp only [Act.put, sA, sB, sC])
     refine wpAnyH_ready (rs := [2]) (by kernel_rfl) (by simp) ?_
     refine AllReadyH.cons (o := ?o453) ?g453 (fun K hK => ?j453) AllReadyH.nil
     case g453 => (simp only [gA, gB, gC]; rfl)
     go_simp
     refine (HCV.out w1.drew HB1.out.drew).mono ?_
     rintro e wa ⟨v1, rfl, hown1, hba⟩
     obtain ⟨VA1, vc1, rfl⟩ := own_sliceX hown1
     have HOW1 := Lib.hid (show wa.ownsRow w1.heap.size _ _ _ _ _ from hown1)
     have HBA := Lib.hid (bel2 (Below.refl w1.heap.size w1).drew hba)
     have k4a : wa.cell? ⟨w.heap.size + 1, 4, none⟩ = some (.slice EA k.ends.length ec) := (hba.cell (World.block_lt_of_cell? _ _ k4)).trans k4
     clear hown1 hba
     refine hK.out _ _ ?_ (fun hHeld => ?_)
     · (try dsimp only); skip
     clear hK K
     (try simp only [Act.put, sA, sB, sC])
     refine wpAnyH_ready (rs := [5]) (by kernel_rfl) (by simp) ?_
     refine AllReadyH.cons (o := ?o454) ?g454 (fun K hK => ?j454) AllReadyH.nil
     case g454 => (simp only [gA, gB, gC]; rfl)
     go_simp
     refine (HCI.out wa (bel2 HB1.out HBA.out)).mono ?_
     rintro e wb ⟨v2, rfl, hown2, hbb⟩
     obtain ⟨EA1, ec1, rfl⟩ := own_sliceX hown2
     have HFIN := Lib.hid (DdK.cl HZ1.out HBK.out HOW1.out HBA.out hown2 hbb)
     have hkb := belowZ HBK.out (show Below w1.heap.size w1 wb from bel2 HBA.out hbb)
     have kb3 := (heap_at hkb 3).trans (rfl : _ = some (Value.slice VA k.vals.length vc))
     have kb4 := (heap_at hkb 4).trans (rfl : _ = some (Value.slice EA k.ends.length ec))
     have kbf := heap_free hkb
     clear hown2 hbb hkb
     refine hK.out _ _ ?_ (fun hHeld => ?_)
     · (try dsimp only); skip
     clear hK K
     (try simp only [Act.put, sA, sB, sC])
     refine tk 6 ?_
     (try simp only [Act.put, sA, sB, sC])
     refine wpAnyH_ready (rs := [7]) (by kernel_rfl) (by simp) ?_
     refine AllReadyH.cons (o := ?o456) ?g456 (fun K hK => ?j456) AllReadyH.nil
     case g456 => (simp only [gA, gB, gC]; rfl)
     go_simp
     refine hK.out _ _ ?_ (fun hHeld => ?_)
     · (try dsimp only); skip
     clear hK K
     (try simp only [Act.put, sA, sB, sC])
     refine tk 8 ?_
     (try simp only [Act.put, sA, sB, sC])
     refine wpAnyH_ready (rs := [9]) (by kernel_rfl) (by simp) ?_
     refine AllReadyH.cons (o := ?o458) ?g458 (fun K hK => ?j458) AllReadyH.nil
     case g458 => (simp only [gA, gB, gC]; rfl)
     go_simp
     refine hK.out _ _ ?_ (fun hHeld => ?_)
     · (try dsimp only); skip
     clear hK K
     (try simp only [Act.put, sA, sB, sC])
     refine wpAnyH_done (by kernel_rfl) ?_ _
     go_wp2_with fail
     go_meet
     exact ⟨rfl, VA1, vc1, EA1, ec1, HFIN.out.1, HFIN.out.2⟩
  case rest =>
    obtain ⟨rfl, VA2, vc2, EA2, ec2, hdk, hfr⟩ := hcut
    have HDK := Lib.hid hdk
    have HB2 := Lib.hid (hfr.bel HB1.out (Nat.le_succ _) (by omega))
    have hbc2 := (hfr.block w.heap.size (by omega) (by omega)).trans HBC.out
    have hbv2 := (hfr.block (w.heap.size + 2) (by omega) (by omega)).trans HBV.out
    have hbz2 := (hfr.block (w.heap.size + 3) (by omega) (by omega)).trans HBZ.out
    have hbk2 := hdk.b
    clear hdk hfr k3 k4
    have c0 := (heap_at hbc2 0).trans (rfl : _ = some (Value.string ct.name))
    have c1 := (heap_at hbc2 1).trans (rfl : _ = some (Value.slice FA ct.fs.length fc))
    have c2 := (heap_at hbc2 2).trans (rfl : _ = some (Value.slice SA ct.ss.length sc))
    have c3 := (heap_at hbc2 3).trans (rfl : _ = some (Value.slice MA ct.ms.length mc))
    have cf := heap_free hbc2
    have cl := heap_ltZ hbc2
    have k0 := (heap_at hbk2 0).trans (rfl : _ = some (Value.string k.id))
    have k1 := (heap_at hbk2 1).trans (rfl : _ = some (Value.string k.ctr))
    have k2 := (heap_at hbk2 2).trans (rfl : _ = some (Value.int .i64 k.stage))
    have k3 := (heap_at hbk2 3).trans (rfl : _ = some (Value.slice VA2 k.vals.length vc2))
    have k4 := (heap_at hbk2 4).trans (rfl : _ = some (Value.slice EA2 k.ends.length ec2))
    have k5 := (heap_at hbk2 5).trans (rfl : _ = some (Value.bool k.susp))
    have k6 := (heap_at hbk2 6).trans (rfl : _ = some (Value.bool k.shut))
    have k7 := (heap_at hbk2 7).trans (rfl : _ = some (Value.int .i64 k.steps))
    have kf := heap_free hbk2
    have kl := heap_ltZ hbk2
    go_wp2_with fail
    refine (HRT.out VA2 vc2 EA2 ec2 _ HB2.out HDK.out.csn.k).mono ?_
    rintro _ w3 ⟨rfl, hb3⟩
    have HDK3 := Lib.hid (HDK.out.below hb3)
    have HB3 := Lib.hid (bel2 HB2.out hb3)
    have hbc3 := belowZ hbc2 hb3
    have hbv3 := belowZ hbv2 hb3
    have hbz3 := belowZ hbz2 hb3
    have hbk3 := HDK3.out.b
    have HBZ3 := Lib.hid hbz3
    clear hb3 hbc2 hbv2 hbz2 hbk2 c0 c1 c2 c3 cf cl k0 k1 k2 k3 k4 k5 k6 k7 kf kl
    have c0 := (heap_at hbc3 0).trans (rfl : _ = some (Value.string ct.name))
    have c1 := (heap_at hbc3 1).trans (rfl : _ = some (Value.slice FA ct.fs.length fc))
    have c2 := (heap_at hbc3 2).trans (rfl : _ = some (Value.slice SA ct.ss.length sc))
    have c3 := (heap_at hbc3 3).trans (rfl : _ = some (Value.slice MA ct.ms.length mc))
    have cf := heap_free hbc3
    have cl := heap_ltZ hbc3
    have v0 := (heap_at hbv3 0).trans (rfl : _ = some (Value.int .i64 v.k))
    have v1 := (heap_at hbv3 1).trans (rfl : _ = some (Value.int .i64 v.i))
    have v2 := (heap_at hbv3 2).trans (rfl : _ = some (Value.bool v.b))
    have v3 := (heap_at hbv3 3).trans (rfl : _ = some (Value.string v.s))
    have v4 := (heap_at hbv3 4).trans (rfl : _ = some (Value.float .f64 v.n))
    have vf := heap_free hbv3
    have vl := heap_ltZ hbv3
    have z0 := (heap_at hbz3 0).trans (rfl : _ = some (Value.string ⟨#[]⟩))
    have z1 := (heap_at hbz3 1).trans (rfl : _ = some (Value.string ⟨#[]⟩))
    have z2 := (heap_at hbz3 2).trans (rfl : _ = some (Value.int .i64 0))
    have z3 := (heap_at hbz3 3).trans (rfl : _ = some (Value.slice none 0 0))
    have z4 := (heap_at hbz3 4).trans (rfl : _ = some (Value.slice none 0 0))
    have z5 := (heap_at hbz3 5).trans (rfl : _ = some (Value.bool false))
    have z6 := (heap_at hbz3 6).trans (rfl : _ = some (Value.bool false))
    have z7 := (heap_at hbz3 7).trans (rfl : _ = some (Value.int .i64 0))
    have zf := heap_free hbz3
    have zl := heap_ltZ hbz3
    have k0 := (heap_at hbk3 0).trans (rfl : _ = some (Value.string k.id))
    have k1 := (heap_at hbk3 1).trans (rfl : _ = some (Value.string k.ctr))
    have k2 := (heap_at hbk3 2).trans (rfl : _ = some (Value.int .i64 k.stage))
    have k3 := (heap_at hbk3 3).trans (rfl : _ = some (Value.slice VA2 k.vals.length vc2))
    have k4 := (heap_at hbk3 4).trans (rfl : _ = some (Value.slice EA2 k.ends.length ec2))
    have k5 := (heap_at hbk3 5).trans (rfl : _ = some (Value.bool k.susp))
    have k6 := (heap_at hbk3 6).trans (rfl : _ = some (Value.bool k.shut))
    have k7 := (heap_at hbk3 7).trans (rfl : _ = some (Value.int .i64 k.steps))
    have kf := heap_free hbk3
    have kl := heap_ltZ hbk3
    clear hbc3 hbv3 hbz3 hbk3
    rcases hrk : rightK ct k with _ | _
    · have hU := HE1.out (.inl hrk)
      subst hU
      clear hrk
      go_wp2
      exact bodyPost_ret (v := .tuple #[.agg (csK k VA2 vc2 EA2 ec2), .int .i64 1]) (by simp [results, Tryz.results28, go_sem, z0, z1, z2, z3, z4, z5, z6, z7, zl]) rfl (GivesK.mk (r := (k, 1)) (rb := w.heap.size + 3) (by omega) (csn_more HDK3.out.csn (by omega)) HB3.out _ _ _ _ _ _ _ _)
    have HRTK := Lib.hid (HRK.out hrk)
    have HRK1 := Lib.hid hrk
    by_cases h3 : d < 3
    · have hU := HE1.out (.inr (.inl h3))
      subst hU
      clear hrk
      go_wp2
      exact bodyPost_ret (v := .tuple #[.agg (csK k VA2 vc2 EA2 ec2), .int .i64 1]) (by simp [results, Tryz.results28, go_sem, z0, z1, z2, z3, z4, z5, z6, z7, zl]) rfl (GivesK.mk (r := (k, 1)) (rb := w.heap.size + 3) (by omega) (csn_more HDK3.out.csn (by omega)) HB3.out _ _ _ _ _ _ _ _)
    by_cases h9 : 9 < d
    · have hU := HE1.out (.inr (.inr (.inl h9)))
      subst hU
      clear hrk
      go_wp2
      exact bodyPost_ret (v := .tuple #[.agg (csK k VA2 vc2 EA2 ec2), .int .i64 1]) (by simp [results, Tryz.results28, go_sem, z0, z1, z2, z3, z4, z5, z6, z7, zl]) rfl (GivesK.mk (r := (k, 1)) (rb := w.heap.size + 3) (by omega) (csn_more HDK3.out.csn (by omega)) HB3.out _ _ _ _ _ _ _ _)
    by_cases h0 : org < 0
    · have hU := HE1.out (.inr (.inr (.inr (.inl h0))))
      subst hU
      clear hrk
      go_wp2
      exact bodyPost_ret (v := .tuple #[.agg (csK k VA2 vc2 EA2 ec2), .int .i64 1]) (by simp [results, Tryz.results28, go_sem, z0, z1, z2, z3, z4, z5, z6, z7, zl]) rfl (GivesK.mk (r := (k, 1)) (rb := w.heap.size + 3) (by omega) (csn_more HDK3.out.csn (by omega)) HB3.out _ _ _ _ _ _ _ _)
    by_cases h4 : 4 ≤ org
    · have hU := HE1.out (.inr (.inr (.inr (.inr h4))))
      subst hU
      clear hrk
      go_wp2
      exact bodyPost_ret (v := .tuple #[.agg (csK k VA2 vc2 EA2 ec2), .int .i64 1]) (by simp [results, Tryz.results28, go_sem, z0, z1, z2, z3, z4, z5, z6, z7, zl]) rfl (GivesK.mk (r := (k, 1)) (rb := w.heap.size + 3) (by omega) (csn_more HDK3.out.csn (by omega)) HB3.out _ _ _ _ _ _ _ _)
    have HNB := Lib.hid (show ¬ (rightK ct k = false ∨ d < 3 ∨ 9 < d ∨ org < 0 ∨ 4 ≤ org) by rintro (h | h | h | h | h) <;> first | omega | (rw [hrk] at h; cases h))
    clear hrk
    by_cases hst : k.steps = 1099511627776
    · have hU := HE2.out HNB.out hst
      have hsb : (k.steps == 1099511627776) = true := by simp [hst]
      subst hU
      clear hst
      go_wp2
      exact bodyPost_ret (v := .tuple #[.agg (csK k VA2 vc2 EA2 ec2), .int .i64 3]) (by simp [results, Tryz.results28, go_sem, z0, z1, z2, z3, z4, z5, z6, z7, zl]) rfl (GivesK.mk (r := (k, 3)) (rb := w.heap.size + 3) (by omega) (csn_more HDK3.out.csn (by omega)) HB3.out _ _ _ _ _ _ _ _)
    have hU := HE3.out HNB.out hst
    have hsb : (k.steps == 1099511627776) = false := by simpa using hst
    have HST1 := Lib.hid hst
    clear hst
    have HCALL := Lib.hid (HST.out VA2 vc2 EA2 ec2 w3 HB3.out HDK3.out HRTK.out (by omega) (by omega))
    by_cases hz : rn = 0
    · have hsp : r.steps = k.steps := HSP.out HRTK.out (by omega) (by omega) (by omega) hz
      have hcn : countK (r, rn) k = ({ r with steps := r.steps + 1 }, 0) := if_pos hz
      rw [hcn] at hU
      subst hU
      have hb1 : 0 ≤ r.steps := by rw [hsp]; exact HRTK.out.t0
      have hb2 : r.steps ≤ 1099511627776 := by rw [hsp]; exact HRTK.out.t1
      rw [hz] at HCALL
      have hzb : ((0 : Int) == 0) = true := rfl
      clear hz hsp hcn HER HSP
      go_wp2_with (go_at_call 54; refine HCALL.out.mono ?_; rintro e w4 ⟨VA4, vc4, EA4, ec4, rfl, hdn, hfr4⟩; have HDN := Lib.hid hdn; have HB4 := Lib.hid (hfr4.bel HB3.out (Nat.le_succ _) (by omega)); have HFR4 := Lib.hid hfr4; have hbz4 := (hfr4.block (w.heap.size + 3) (by omega) (by omega)).trans HBZ3.out; have hbk4 := hdn.b;
                        have zz0 := (heap_at hbz4 0).trans (rfl : _ = some (Value.string ⟨#[]⟩));
                        have zz1 := (heap_at hbz4 1).trans (rfl : _ = some (Value.string ⟨#[]⟩));
                        have zz2 := (heap_at hbz4 2).trans (rfl : _ = some (Value.int .i64 0));
                        have zz3 := (heap_at hbz4 3).trans (rfl : _ = some (Value.slice none 0 0));
                        have zz4 := (heap_at hbz4 4).trans (rfl : _ = some (Value.slice none 0 0));
                        have zz5 := (heap_at hbz4 5).trans (rfl : _ = some (Value.bool false));
                        have zz6 := (heap_at hbz4 6).trans (rfl : _ = some (Value.bool false));
                        have zz7 := (heap_at hbz4 7).trans (rfl : _ = some (Value.int .i64 0));
                        have zzf := heap_free hbz4; have zzl := heap_ltZ hbz4;
                        have kk0 := (heap_at hbk4 0).trans (rfl : _ = some (Value.string r.id));
                        have kk1 := (heap_at hbk4 1).trans (rfl : _ = some (Value.string r.ctr));
                        have kk2 := (heap_at hbk4 2).trans (rfl : _ = some (Value.int .i64 r.stage));
                        have kk3 := (heap_at hbk4 3).trans (rfl : _ = some (Value.slice VA4 r.vals.length vc4));
                        have kk4 := (heap_at hbk4 4).trans (rfl : _ = some (Value.slice EA4 r.ends.length ec4));
                        have kk5 := (heap_at hbk4 5).trans (rfl : _ = some (Value.bool r.susp));
                        have kk6 := (heap_at hbk4 6).trans (rfl : _ = some (Value.bool r.shut));
                        have kk7 := (heap_at hbk4 7).trans (rfl : _ = some (Value.int .i64 r.steps));
                        have kkf := heap_free hbk4; have kkl := heap_ltZ hbk4;
                        clear hdn hfr4 hbz4 hbk4)
      exact bodyPost_ret (v := .tuple #[.agg (csK { r with steps := r.steps + 1 } VA4 vc4 EA4 ec4), .int .i64 0]) (by simp [results, Tryz.results28, go_sem, zz0, zz1, zz2, zz3, zz4, zz5, zz6, zz7, zzl]) rfl (GivesK.mk (r := ({ r with steps := r.steps + 1 }, 0)) (rb := w.heap.size + 3) (by omega) (csn_step HDN.out _ _) ((HFR4.out.setc 7 _).bel HB3.out (Nat.le_succ _) (by omega)) _ _ _ _ _ _ _ _)
    · have hrk1 : r = k := HER.out hz
      have hcn : countK (r, rn) k = (k, rn) := if_neg hz
      rw [hcn] at hU
      subst hU
      have hzb : (rn == 0) = false := by simpa using hz
      rw [hrk1] at HCALL
      clear hz hcn hrk1 HER HSP
      go_wp2_with (go_at_call 54; refine HCALL.out.mono ?_; rintro e w4 ⟨VA4, vc4, EA4, ec4, rfl, hdn, hfr4⟩; have HDN := Lib.hid hdn; have HB4 := Lib.hid (hfr4.bel HB3.out (Nat.le_succ _) (by omega)); have HFR4 := Lib.hid hfr4; have hbz4 := (hfr4.block (w.heap.size + 3) (by omega) (by omega)).trans HBZ3.out; have hbk4 := hdn.b;
                        have zz0 := (heap_at hbz4 0).trans (rfl : _ = some (Value.string ⟨#[]⟩));
                        have zz1 := (heap_at hbz4 1).trans (rfl : _ = some (Value.string ⟨#[]⟩));
                        have zz2 := (heap_at hbz4 2).trans (rfl : _ = some (Value.int .i64 0));
                        have zz3 := (heap_at hbz4 3).trans (rfl : _ = some (Value.slice none 0 0));
                        have zz4 := (heap_at hbz4 4).trans (rfl : _ = some (Value.slice none 0 0));
                        have zz5 := (heap_at hbz4 5).trans (rfl : _ = some (Value.bool false));
                        have zz6 := (heap_at hbz4 6).trans (rfl : _ = some (Value.bool false));
                        have zz7 := (heap_at hbz4 7).trans (rfl : _ = some (Value.int .i64 0));
                        have zzf := heap_free hbz4; have zzl := heap_ltZ hbz4;
                        have kk0 := (heap_at hbk4 0).trans (rfl : _ = some (Value.string k.id));
                        have kk1 := (heap_at hbk4 1).trans (rfl : _ = some (Value.string k.ctr));
                        have kk2 := (heap_at hbk4 2).trans (rfl : _ = some (Value.int .i64 k.stage));
                        have kk3 := (heap_at hbk4 3).trans (rfl : _ = some (Value.slice VA4 k.vals.length vc4));
                        have kk4 := (heap_at hbk4 4).trans (rfl : _ = some (Value.slice EA4 k.ends.length ec4));
                        have kk5 := (heap_at hbk4 5).trans (rfl : _ = some (Value.bool k.susp));
                        have kk6 := (heap_at hbk4 6).trans (rfl : _ = some (Value.bool k.shut));
                        have kk7 := (heap_at hbk4 7).trans (rfl : _ = some (Value.int .i64 k.steps));
                        have kkf := heap_free hbk4; have kkl := heap_ltZ hbk4;
                        clear hdn hfr4 hbz4 hbk4)
      exact bodyPost_ret (v := .tuple #[.agg (csK k VA4 vc4 EA4 ec4), .int .i64 rn]) (by simp [results, Tryz.results28, go_sem, zz0, zz1, zz2, zz3, zz4, zz5, zz6, zz7, zzl]) rfl (GivesK.mk (r := (k, rn)) (rb := w.heap.size + 3) (by omega) (csn_more HDN.out.n (by omega)) HB4.out _ _ _ _ _ _ _ _)

theorem GivesK.as {r r2 : Cse × Int} {w : World} {e : Ending} {w' : World} (h : GivesK r w e w') (he : r = r2) : GivesK r2 w e w' := he ▸ h
set_option maxHeartbeats 8000000 in
theorem awake7_any (w : World) : Calls Tryz.prog 25 #[] w (VMk (.bool true) w) := by
  have hsf := fun (w : World) (a : Addr) (m : Mode) (b : Nat) => run_store Tryz.prog w a (.float .f64 b) m rfl
  have hO := One_any w
  have n0 := fun FA fc SA sc MA mc W (h : CtK W ctOne FA fc SA sc MA mc) => (kNew_any ctOne FA fc SA sc MA mc ⟨#[]⟩ W h).mono fun e w' h => h.as new_bad
  have n1 := fun FA fc SA sc MA mc W (h : CtK W ctOne FA fc SA sc MA mc) => (kNew_any ctOne FA fc SA sc MA mc ⟨#[107]⟩ W h).mono fun e w' h => h.as new_one
  have d1 := fun FA fc SA sc MA mc VA vc EA ec W (h : CtK W ctOne FA fc SA sc MA mc) (hk : CsK W kOne0 VA vc EA ec) => (kDo_any ctOne FA fc SA sc MA mc kOne0 VA vc EA ec 5 ⟨#[109]⟩ vZero 0 W h hk one_ok okK_one0 (by decide) (by decide)).mono fun e w' h => h.as (do_1 vZero)
  have d2 := fun FA fc SA sc MA mc VA vc EA ec W (h : CtK W ctOne FA fc SA sc MA mc) (hk : CsK W kOne1 VA vc EA ec) => (kDo_any ctOne FA fc SA sc MA mc kOne1 VA vc EA ec 4 ⟨#[]⟩ vZero 2 W h hk one_ok okK_one1 (by decide) (by decide)).mono fun e w' h => h.as (do_2 ⟨#[]⟩ vZero)
  have d3 := fun FA fc SA sc MA mc VA vc EA ec W (h : CtK W ctOne FA fc SA sc MA mc) (hk : CsK W kOne2 VA vc EA ec) => (kDo_any ctOne FA fc SA sc MA mc kOne2 VA vc EA ec 4 ⟨#[]⟩ vZero 2 W h hk one_ok okK_one2 (by decide) (by decide)).mono fun e w' h => h.as (do_3 ⟨#[]⟩ vZero)
  have hs1 : (kOne1.stage == 1) = true := rfl
  have hs2 : (kOne1.steps == 1) = true := rfl
  have hs3 : ((kOne2.ends.length : Int) == 1) = true := rfl
  have HO := Lib.hid hO
  have N0 := Lib.hid n0
  have N1 := Lib.hid n1
  have D1 := Lib.hid d1
  have D2 := Lib.hid d2
  have D3 := Lib.hid d3
  clear hO n0 n1 d1 d2 d3
  generalize ctOne = ct at *
  generalize kOne0 = k0 at *
  generalize kOne1 = k1 at *
  generalize kOne2 = k2 at *
  generalize zK = kz at *
  go_enter Tryz.func25, Tryz.ntmps25
  go_wp2_with fail
  refine HO.out.mono ?_
  rintro _ wa ⟨FA, fc, SA, sc, MA, mc, rfl, hct, hb⟩
  go_upto_region 2 with fail
  have hbx2 := heap_alloc_new wa (.cells #[.string ct.name, .slice FA ct.fs.length fc, .slice SA ct.ss.length sc, .slice MA ct.ms.length mc] 33)
  have HC2 := Lib.hid (hct.below (alloc1 wa (.cells #[.string ct.name, .slice FA ct.fs.length fc, .slice SA ct.ss.length sc, .slice MA ct.ms.length mc] 33)))
  have HB2 := Lib.hid (bel2 hb (alloc1 wa (.cells #[.string ct.name, .slice FA ct.fs.length fc, .slice SA ct.ss.length sc, .slice MA ct.ms.length mc] 33)))
  clear hct hb HO
  generalize wa.alloc (.cells #[.string ct.name, .slice FA ct.fs.length fc, .slice SA ct.ss.length sc, .slice MA ct.ms.length mc] 33) = w2 at *
  have c0 := (heap_at hbx2 0).trans (rfl : _ = some (Value.string ct.name))
  have c1 := (heap_at hbx2 1).trans (rfl : _ = some (Value.slice FA ct.fs.length fc))
  have c2 := (heap_at hbx2 2).trans (rfl : _ = some (Value.slice SA ct.ss.length sc))
  have c3 := (heap_at hbx2 3).trans (rfl : _ = some (Value.slice MA ct.ms.length mc))
  have cf := heap_free hbx2
  have cl := heap_ltZ hbx2
  go_wp2_with fail
  refine (N0.out FA fc SA sc MA mc w2 HC2.out).mono ?_
  rintro _ wa ⟨VA3, vc3, EA3, ec3, rfl, hcs, hb⟩
  clear c0 c1 c2 c3 cf cl
  go_upto_region 3 with fail
  have hbe := bel2 hb (alloc1 wa (.cells #[.string kz.id, .string kz.ctr, .int .i64 kz.stage, .slice VA3 kz.vals.length vc3, .slice EA3 kz.ends.length ec3, .bool kz.susp, .bool kz.shut, .int .i64 kz.steps] 45))
  have hq3_3 := heap_alloc_new wa (.cells #[.string kz.id, .string kz.ctr, .int .i64 kz.stage, .slice VA3 kz.vals.length vc3, .slice EA3 kz.ends.length ec3, .bool kz.susp, .bool kz.shut, .int .i64 kz.steps] 45)
  have HS3_3 := Lib.hid (hcs.k.below (alloc1 wa (.cells #[.string kz.id, .string kz.ctr, .int .i64 kz.stage, .slice VA3 kz.vals.length vc3, .slice EA3 kz.ends.length ec3, .bool kz.susp, .bool kz.shut, .int .i64 kz.steps] 45)))
  have hbx3 := belowZ hbx2 hbe
  have HC3 := Lib.hid (HC2.out.below hbe)
  have HB3 := Lib.hid (bel2 HB2.out hbe)
  clear hb hcs hbe hbx2 HC2 HB2 N0
  generalize wa.alloc (.cells #[.string kz.id, .string kz.ctr, .int .i64 kz.stage, .slice VA3 kz.vals.length vc3, .slice EA3 kz.ends.length ec3, .bool kz.susp, .bool kz.shut, .int .i64 kz.steps] 45) = w3 at *
  generalize wa.heap.size = b3 at *
  have c0 := (heap_at hbx3 0).trans (rfl : _ = some (Value.string ct.name))
  have c1 := (heap_at hbx3 1).trans (rfl : _ = some (Value.slice FA ct.fs.length fc))
  have c2 := (heap_at hbx3 2).trans (rfl : _ = some (Value.slice SA ct.ss.length sc))
  have c3 := (heap_at hbx3 3).trans (rfl : _ = some (Value.slice MA ct.ms.length mc))
  have cf := heap_free hbx3
  have cl := heap_ltZ hbx3
  go_wp2_with fail
  refine (N1.out FA fc SA sc MA mc w3 HC3.out).mono ?_
  rintro _ wa ⟨VA4, vc4, EA4, ec4, rfl, hcs, hb⟩
  clear c0 c1 c2 c3 cf cl
  go_upto_region 4 with fail
  have hbe := bel2 hb (alloc1 wa (.cells #[.string k0.id, .string k0.ctr, .int .i64 k0.stage, .slice VA4 k0.vals.length vc4, .slice EA4 k0.ends.length ec4, .bool k0.susp, .bool k0.shut, .int .i64 k0.steps] 45))
  have hq4_4 := heap_alloc_new wa (.cells #[.string k0.id, .string k0.ctr, .int .i64 k0.stage, .slice VA4 k0.vals.length vc4, .slice EA4 k0.ends.length ec4, .bool k0.susp, .bool k0.shut, .int .i64 k0.steps] 45)
  have HS4_4 := Lib.hid (hcs.k.below (alloc1 wa (.cells #[.string k0.id, .string k0.ctr, .int .i64 k0.stage, .slice VA4 k0.vals.length vc4, .slice EA4 k0.ends.length ec4, .bool k0.susp, .bool k0.shut, .int .i64 k0.steps] 45)))
  have hbx4 := belowZ hbx3 hbe
  have HC4 := Lib.hid (HC3.out.below hbe)
  have HB4 := Lib.hid (bel2 HB3.out hbe)
  have hq3_4 := belowZ hq3_3 hbe
  have HS3_4 := Lib.hid (HS3_3.out.below hbe)
  clear hq3_3 HS3_3
  clear hb hcs hbe hbx3 HC3 HB3 N1
  generalize wa.alloc (.cells #[.string k0.id, .string k0.ctr, .int .i64 k0.stage, .slice VA4 k0.vals.length vc4, .slice EA4 k0.ends.length ec4, .bool k0.susp, .bool k0.shut, .int .i64 k0.steps] 45) = w4 at *
  generalize wa.heap.size = b4 at *
  have c0 := (heap_at hbx4 0).trans (rfl : _ = some (Value.string ct.name))
  have c1 := (heap_at hbx4 1).trans (rfl : _ = some (Value.slice FA ct.fs.length fc))
  have c2 := (heap_at hbx4 2).trans (rfl : _ = some (Value.slice SA ct.ss.length sc))
  have c3 := (heap_at hbx4 3).trans (rfl : _ = some (Value.slice MA ct.ms.length mc))
  have cf := heap_free hbx4
  have cl := heap_ltZ hbx4
  have q0 := (heap_at hq4_4 0).trans (rfl : _ = some (Value.string k0.id))
  have q1 := (heap_at hq4_4 1).trans (rfl : _ = some (Value.string k0.ctr))
  have q2 := (heap_at hq4_4 2).trans (rfl : _ = some (Value.int .i64 k0.stage))
  have q3 := (heap_at hq4_4 3).trans (rfl : _ = some (Value.slice VA4 k0.vals.length vc4))
  have q4 := (heap_at hq4_4 4).trans (rfl : _ = some (Value.slice EA4 k0.ends.length ec4))
  have q5 := (heap_at hq4_4 5).trans (rfl : _ = some (Value.bool k0.susp))
  have q6 := (heap_at hq4_4 6).trans (rfl : _ = some (Value.bool k0.shut))
  have q7 := (heap_at hq4_4 7).trans (rfl : _ = some (Value.int .i64 k0.steps))
  have qf := heap_free hq4_4
  have ql := heap_ltZ hq4_4
  go_wp2_with fail
  refine (D1.out FA fc SA sc MA mc _ _ _ _ w4 HC4.out HS4_4.out).mono ?_
  rintro _ wa ⟨VA5, vc5, EA5, ec5, rfl, hcs, hb⟩
  clear c0 c1 c2 c3 cf cl q0 q1 q2 q3 q4 q5 q6 q7 qf ql
  go_upto_region 5 with fail
  have hbe := bel2 hb (alloc1 wa (.cells #[.string k1.id, .string k1.ctr, .int .i64 k1.stage, .slice VA5 k1.vals.length vc5, .slice EA5 k1.ends.length ec5, .bool k1.susp, .bool k1.shut, .int .i64 k1.steps] 45))
  have hq5_5 := heap_alloc_new wa (.cells #[.string k1.id, .string k1.ctr, .int .i64 k1.stage, .slice VA5 k1.vals.length vc5, .slice EA5 k1.ends.length ec5, .bool k1.susp, .bool k1.shut, .int .i64 k1.steps] 45)
  have HS5_5 := Lib.hid (hcs.k.below (alloc1 wa (.cells #[.string k1.id, .string k1.ctr, .int .i64 k1.stage, .slice VA5 k1.vals.length vc5, .slice EA5 k1.ends.length ec5, .bool k1.susp, .bool k1.shut, .int .i64 k1.steps] 45)))
  have hbx5 := belowZ hbx4 hbe
  have HC5 := Lib.hid (HC4.out.below hbe)
  have HB5 := Lib.hid (bel2 HB4.out hbe)
  have hq3_5 := belowZ hq3_4 hbe
  have HS3_5 := Lib.hid (HS3_4.out.below hbe)
  clear hq3_4 HS3_4
  have hq4_5 := belowZ hq4_4 hbe
  have HS4_5 := Lib.hid (HS4_4.out.below hbe)
  clear hq4_4 HS4_4
  clear hb hcs hbe hbx4 HC4 HB4 D1
  generalize wa.alloc (.cells #[.string k1.id, .string k1.ctr, .int .i64 k1.stage, .slice VA5 k1.vals.length vc5, .slice EA5 k1.ends.length ec5, .bool k1.susp, .bool k1.shut, .int .i64 k1.steps] 45) = w5 at *
  generalize wa.heap.size = b5 at *
  have c0 := (heap_at hbx5 0).trans (rfl : _ = some (Value.string ct.name))
  have c1 := (heap_at hbx5 1).trans (rfl : _ = some (Value.slice FA ct.fs.length fc))
  have c2 := (heap_at hbx5 2).trans (rfl : _ = some (Value.slice SA ct.ss.length sc))
  have c3 := (heap_at hbx5 3).trans (rfl : _ = some (Value.slice MA ct.ms.length mc))
  have cf := heap_free hbx5
  have cl := heap_ltZ hbx5
  have q0 := (heap_at hq5_5 0).trans (rfl : _ = some (Value.string k1.id))
  have q1 := (heap_at hq5_5 1).trans (rfl : _ = some (Value.string k1.ctr))
  have q2 := (heap_at hq5_5 2).trans (rfl : _ = some (Value.int .i64 k1.stage))
  have q3 := (heap_at hq5_5 3).trans (rfl : _ = some (Value.slice VA5 k1.vals.length vc5))
  have q4 := (heap_at hq5_5 4).trans (rfl : _ = some (Value.slice EA5 k1.ends.length ec5))
  have q5 := (heap_at hq5_5 5).trans (rfl : _ = some (Value.bool k1.susp))
  have q6 := (heap_at hq5_5 6).trans (rfl : _ = some (Value.bool k1.shut))
  have q7 := (heap_at hq5_5 7).trans (rfl : _ = some (Value.int .i64 k1.steps))
  have qf := heap_free hq5_5
  have ql := heap_ltZ hq5_5
  go_wp2_with fail
  refine (D2.out FA fc SA sc MA mc _ _ _ _ w5 HC5.out HS5_5.out).mono ?_
  rintro _ wa ⟨VA6, vc6, EA6, ec6, rfl, hcs, hb⟩
  clear c0 c1 c2 c3 cf cl q0 q1 q2 q3 q4 q5 q6 q7 qf ql
  go_upto_region 6 with fail
  have hbe := bel2 hb (alloc1 wa (.cells #[.string k2.id, .string k2.ctr, .int .i64 k2.stage, .slice VA6 k2.vals.length vc6, .slice EA6 k2.ends.length ec6, .bool k2.susp, .bool k2.shut, .int .i64 k2.steps] 45))
  have hq6_6 := heap_alloc_new wa (.cells #[.string k2.id, .string k2.ctr, .int .i64 k2.stage, .slice VA6 k2.vals.length vc6, .slice EA6 k2.ends.length ec6, .bool k2.susp, .bool k2.shut, .int .i64 k2.steps] 45)
  have HS6_6 := Lib.hid (hcs.k.below (alloc1 wa (.cells #[.string k2.id, .string k2.ctr, .int .i64 k2.stage, .slice VA6 k2.vals.length vc6, .slice EA6 k2.ends.length ec6, .bool k2.susp, .bool k2.shut, .int .i64 k2.steps] 45)))
  have hbx6 := belowZ hbx5 hbe
  have HC6 := Lib.hid (HC5.out.below hbe)
  have HB6 := Lib.hid (bel2 HB5.out hbe)
  have hq3_6 := belowZ hq3_5 hbe
  have HS3_6 := Lib.hid (HS3_5.out.below hbe)
  clear hq3_5 HS3_5
  have hq4_6 := belowZ hq4_5 hbe
  have HS4_6 := Lib.hid (HS4_5.out.below hbe)
  clear hq4_5 HS4_5
  have hq5_6 := belowZ hq5_5 hbe
  have HS5_6 := Lib.hid (HS5_5.out.below hbe)
  clear hq5_5 HS5_5
  clear hb hcs hbe hbx5 HC5 HB5 D2
  generalize wa.alloc (.cells #[.string k2.id, .string k2.ctr, .int .i64 k2.stage, .slice VA6 k2.vals.length vc6, .slice EA6 k2.ends.length ec6, .bool k2.susp, .bool k2.shut, .int .i64 k2.steps] 45) = w6 at *
  generalize wa.heap.size = b6 at *
  have c0 := (heap_at hbx6 0).trans (rfl : _ = some (Value.string ct.name))
  have c1 := (heap_at hbx6 1).trans (rfl : _ = some (Value.slice FA ct.fs.length fc))
  have c2 := (heap_at hbx6 2).trans (rfl : _ = some (Value.slice SA ct.ss.length sc))
  have c3 := (heap_at hbx6 3).trans (rfl : _ = some (Value.slice MA ct.ms.length mc))
  have cf := heap_free hbx6
  have cl := heap_ltZ hbx6
  have q0 := (heap_at hq6_6 0).trans (rfl : _ = some (Value.string k2.id))
  have q1 := (heap_at hq6_6 1).trans (rfl : _ = some (Value.string k2.ctr))
  have q2 := (heap_at hq6_6 2).trans (rfl : _ = some (Value.int .i64 k2.stage))
  have q3 := (heap_at hq6_6 3).trans (rfl : _ = some (Value.slice VA6 k2.vals.length vc6))
  have q4 := (heap_at hq6_6 4).trans (rfl : _ = some (Value.slice EA6 k2.ends.length ec6))
  have q5 := (heap_at hq6_6 5).trans (rfl : _ = some (Value.bool k2.susp))
  have q6 := (heap_at hq6_6 6).trans (rfl : _ = some (Value.bool k2.shut))
  have q7 := (heap_at hq6_6 7).trans (rfl : _ = some (Value.int .i64 k2.steps))
  have qf := heap_free hq6_6
  have ql := heap_ltZ hq6_6
  go_wp2_with fail
  refine (D3.out FA fc SA sc MA mc _ _ _ _ w6 HC6.out HS6_6.out).mono ?_
  rintro _ wa ⟨VA7, vc7, EA7, ec7, rfl, hcs, hb⟩
  clear c0 c1 c2 c3 cf cl q0 q1 q2 q3 q4 q5 q6 q7 qf ql
  go_upto_region 7 with fail
  have hbe := bel2 hb (alloc1 wa (.cells #[.string k2.id, .string k2.ctr, .int .i64 k2.stage, .slice VA7 k2.vals.length vc7, .slice EA7 k2.ends.length ec7, .bool k2.susp, .bool k2.shut, .int .i64 k2.steps] 45))
  have hq7_7 := heap_alloc_new wa (.cells #[.string k2.id, .string k2.ctr, .int .i64 k2.stage, .slice VA7 k2.vals.length vc7, .slice EA7 k2.ends.length ec7, .bool k2.susp, .bool k2.shut, .int .i64 k2.steps] 45)
  have HS7_7 := Lib.hid (hcs.k.below (alloc1 wa (.cells #[.string k2.id, .string k2.ctr, .int .i64 k2.stage, .slice VA7 k2.vals.length vc7, .slice EA7 k2.ends.length ec7, .bool k2.susp, .bool k2.shut, .int .i64 k2.steps] 45)))
  have hbx7 := belowZ hbx6 hbe
  have HC7 := Lib.hid (HC6.out.below hbe)
  have HB7 := Lib.hid (bel2 HB6.out hbe)
  have hq3_7 := belowZ hq3_6 hbe
  have HS3_7 := Lib.hid (HS3_6.out.below hbe)
  clear hq3_6 HS3_6
  have hq4_7 := belowZ hq4_6 hbe
  have HS4_7 := Lib.hid (HS4_6.out.below hbe)
  clear hq4_6 HS4_6
  have hq5_7 := belowZ hq5_6 hbe
  have HS5_7 := Lib.hid (HS5_6.out.below hbe)
  clear hq5_6 HS5_6
  have hq6_7 := belowZ hq6_6 hbe
  have HS6_7 := Lib.hid (HS6_6.out.below hbe)
  clear hq6_6 HS6_6
  clear hb hcs hbe hbx6 HC6 HB6 D3
  generalize wa.alloc (.cells #[.string k2.id, .string k2.ctr, .int .i64 k2.stage, .slice VA7 k2.vals.length vc7, .slice EA7 k2.ends.length ec7, .bool k2.susp, .bool k2.shut, .int .i64 k2.steps] 45) = w7 at *
  generalize wa.heap.size = b7 at *
  have q0 := (heap_at hq5_7 0).trans (rfl : _ = some (Value.string k1.id))
  have q1 := (heap_at hq5_7 1).trans (rfl : _ = some (Value.string k1.ctr))
  have q2 := (heap_at hq5_7 2).trans (rfl : _ = some (Value.int .i64 k1.stage))
  have q3 := (heap_at hq5_7 3).trans (rfl : _ = some (Value.slice VA5 k1.vals.length vc5))
  have q4 := (heap_at hq5_7 4).trans (rfl : _ = some (Value.slice EA5 k1.ends.length ec5))
  have q5 := (heap_at hq5_7 5).trans (rfl : _ = some (Value.bool k1.susp))
  have q6 := (heap_at hq5_7 6).trans (rfl : _ = some (Value.bool k1.shut))
  have q7 := (heap_at hq5_7 7).trans (rfl : _ = some (Value.int .i64 k1.steps))
  have qf := heap_free hq5_7
  have ql := heap_ltZ hq5_7
  have r0 := (heap_at hq6_7 0).trans (rfl : _ = some (Value.string k2.id))
  have r1 := (heap_at hq6_7 1).trans (rfl : _ = some (Value.string k2.ctr))
  have r2 := (heap_at hq6_7 2).trans (rfl : _ = some (Value.int .i64 k2.stage))
  have r3 := (heap_at hq6_7 3).trans (rfl : _ = some (Value.slice VA6 k2.vals.length vc6))
  have r4 := (heap_at hq6_7 4).trans (rfl : _ = some (Value.slice EA6 k2.ends.length ec6))
  have r5 := (heap_at hq6_7 5).trans (rfl : _ = some (Value.bool k2.susp))
  have r6 := (heap_at hq6_7 6).trans (rfl : _ = some (Value.bool k2.shut))
  have r7 := (heap_at hq6_7 7).trans (rfl : _ = some (Value.int .i64 k2.steps))
  have rf := heap_free hq6_7
  have rl := heap_ltZ hq6_7
  go_wp2
  go_ret
  exact ⟨rfl, HB7.out⟩

set_option maxHeartbeats 8000000 in
theorem CaseRight_any (ct : Ctr) (FA : Option Addr) (fc : Nat) (SA : Option Addr) (sc : Nat) (MA : Option Addr) (mc : Nat) (k : Cse) (VA : Option Addr) (vc : Nat) (EA : Option Addr) (ec : Nat) (id : ByteArray) (w : World) (h : CtK w ct FA fc SA sc MA mc) (hk : CsK w k VA vc EA ec) :
    Calls Tryz.prog 4 #[agC ct.name FA ct.fs.length fc SA ct.ss.length sc MA ct.ms.length mc, .agg (csK k VA vc EA ec), .string id] w (VMk (.bool true) w) := by
  have hsf := fun (w : World) (a : Addr) (m : Mode) (b : Nat) => run_store Tryz.prog w a (.float .f64 b) m rfl
  have hb2 : Below w.heap.size w ((w.alloc (.cells #[.string ct.name, .slice FA ct.fs.length fc, .slice SA ct.ss.length sc, .slice MA ct.ms.length mc] 33)).alloc (.cells #[.string k.id, .string k.ctr, .int .i64 k.stage, .slice VA k.vals.length vc, .slice EA k.ends.length ec, .bool k.susp, .bool k.shut, .int .i64 k.steps] 45)) := (alloc1 _ _).trans ((alloc1 _ _).mono (by simp))
  have hbc2 := belowZ (heap_alloc_new w (.cells #[.string ct.name, .slice FA ct.fs.length fc, .slice SA ct.ss.length sc, .slice MA ct.ms.length mc] 33)) (alloc1 (w.alloc (.cells #[.string ct.name, .slice FA ct.fs.length fc, .slice SA ct.ss.length sc, .slice MA ct.ms.length mc] 33)) (.cells #[.string k.id, .string k.ctr, .int .i64 k.stage, .slice VA k.vals.length vc, .slice EA k.ends.length ec, .bool k.susp, .bool k.shut, .int .i64 k.steps] 45))
  have hbk2 := heap_alloc_new (w.alloc (.cells #[.string ct.name, .slice FA ct.fs.length fc, .slice SA ct.ss.length sc, .slice MA ct.ms.length mc] 33)) (.cells #[.string k.id, .string k.ctr, .int .i64 k.stage, .slice VA k.vals.length vc, .slice EA k.ends.length ec, .bool k.susp, .bool k.shut, .int .i64 k.steps] 45)
  rw [World.size_alloc] at hbk2
  have HFEW := Lib.hid (fun W (hb : Below w.heap.size w W) => few6_any ct FA fc SA sc MA mc W (h.below hb))
  have HFK := Lib.hid (fun W (hb : Below w.heap.size w W) => few7_any k VA vc EA ec W (hk.below hb))
  have hnew := fun W (hb : Below w.heap.size w W) => kNew_any ct FA fc SA sc MA mc id W (h.below hb)
  have hrnw := fun W (hb : Below w.heap.size w W) => rNew7_any ct FA fc SA sc MA mc id W (h.below hb)
  have hrt := fun W (hb : Below w.heap.size w W) => kRight_any ct FA fc SA sc MA mc k VA vc EA ec W (h.below hb) (hk.below hb)
  have hrr := fun W (hb : Below w.heap.size w W) => rRight7_any ct FA fc SA sc MA mc k VA vc EA ec W (h.below hb) (hk.below hb)
  rcases hnk : newK ct id with ⟨n, x⟩
  rw [hnk] at hnew hrnw
  generalize rightK ct k = R at *
  have HNEW := Lib.hid hnew
  have HRNW := Lib.hid hrnw
  have HRT := Lib.hid hrt
  have HRR := Lib.hid hrr
  have HAWK := Lib.hid (fun W => awake7_any W)
  have HB2 := Lib.hid hb2
  clear h hk hb2 hnew hrnw hrt hrr hnk
  go_enter Tryz.func4, Tryz.ntmps4
  go_upto_region 1 with fail
  generalize (w.alloc (.cells #[.string ct.name, .slice FA ct.fs.length fc, .slice SA ct.ss.length sc, .slice MA ct.ms.length mc] 33)).alloc (.cells #[.string k.id, .string k.ctr, .int .i64 k.stage, .slice VA k.vals.length vc, .slice EA k.ends.length ec, .bool k.susp, .bool k.shut, .int .i64 k.steps] 45) = w2 at *
  have c0 := (heap_at hbc2 0).trans (rfl : _ = some (Value.string ct.name))
  have c1 := (heap_at hbc2 1).trans (rfl : _ = some (Value.slice FA ct.fs.length fc))
  have c2 := (heap_at hbc2 2).trans (rfl : _ = some (Value.slice SA ct.ss.length sc))
  have c3 := (heap_at hbc2 3).trans (rfl : _ = some (Value.slice MA ct.ms.length mc))
  have cf := heap_free hbc2
  have cl := heap_ltZ hbc2
  go_wp2_with fail
  refine (HFEW.out w2 HB2.out).mono ?_
  rintro _ wa ⟨b, rfl, hb⟩
  have HBA := Lib.hid (bel2 HB2.out hb)
  have hbca := belowZ hbc2 hb
  have hbka := belowZ hbk2 hb
  clear hb hbc2 hbk2 c0 c1 c2 c3 cf cl
  rcases b with _ | _
  · go_wp2
    go_ret
    exact ⟨rfl, HBA.out⟩
  have q0 := (heap_at hbka 0).trans (rfl : _ = some (Value.string k.id))
  have q1 := (heap_at hbka 1).trans (rfl : _ = some (Value.string k.ctr))
  have q2 := (heap_at hbka 2).trans (rfl : _ = some (Value.int .i64 k.stage))
  have q3 := (heap_at hbka 3).trans (rfl : _ = some (Value.slice VA k.vals.length vc))
  have q4 := (heap_at hbka 4).trans (rfl : _ = some (Value.slice EA k.ends.length ec))
  have q5 := (heap_at hbka 5).trans (rfl : _ = some (Value.bool k.susp))
  have q6 := (heap_at hbka 6).trans (rfl : _ = some (Value.bool k.shut))
  have q7 := (heap_at hbka 7).trans (rfl : _ = some (Value.int .i64 k.steps))
  have qf := heap_free hbka
  have ql := heap_ltZ hbka
  go_wp2_with fail
  refine (HFK.out wa HBA.out).mono ?_
  rintro _ wb ⟨b, rfl, hb⟩
  have HBB := Lib.hid (bel2 HBA.out hb)
  have hbcb := belowZ hbca hb
  have hbkb := belowZ hbka hb
  clear hb hbca hbka q0 q1 q2 q3 q4 q5 q6 q7 qf ql
  rcases b with _ | _
  · go_wp2
    go_ret
    exact ⟨rfl, HBB.out⟩
  by_cases hid : (200 : Int) < (id.size : Int)
  · go_wp2
    go_ret
    exact ⟨rfl, HBB.out⟩
  have c0 := (heap_at hbcb 0).trans (rfl : _ = some (Value.string ct.name))
  have c1 := (heap_at hbcb 1).trans (rfl : _ = some (Value.slice FA ct.fs.length fc))
  have c2 := (heap_at hbcb 2).trans (rfl : _ = some (Value.slice SA ct.ss.length sc))
  have c3 := (heap_at hbcb 3).trans (rfl : _ = some (Value.slice MA ct.ms.length mc))
  have cf := heap_free hbcb
  have cl := heap_ltZ hbcb
  go_wp2_with fail
  refine (HNEW.out wb HBB.out).mono ?_
  rintro _ wd ⟨VA0, vc0, EA0, ec0, rfl, hcs, hb⟩
  clear c0 c1 c2 c3 cf cl
  have hbcd := belowZ hbcb hb
  have hbkd := belowZ hbkb hb
  have HBD := Lib.hid (bel2 HBB.out hb)
  clear hbcb hbkb hb hid
  have c0 := (heap_at hbcd 0).trans (rfl : _ = some (Value.string ct.name))
  have c1 := (heap_at hbcd 1).trans (rfl : _ = some (Value.slice FA ct.fs.length fc))
  have c2 := (heap_at hbcd 2).trans (rfl : _ = some (Value.slice SA ct.ss.length sc))
  have c3 := (heap_at hbcd 3).trans (rfl : _ = some (Value.slice MA ct.ms.length mc))
  have cf := heap_free hbcd
  have cl := heap_ltZ hbcd
  go_upto_region 4 with fail
  have hn7 := heap_alloc_new wd (.cells #[.string n.id, .string n.ctr, .int .i64 n.stage, .slice VA0 n.vals.length vc0, .slice EA0 n.ends.length ec0, .bool n.susp, .bool n.shut, .int .i64 n.steps] 45)
  have hb7 := alloc1 wd (.cells #[.string n.id, .string n.ctr, .int .i64 n.stage, .slice VA0 n.vals.length vc0, .slice EA0 n.ends.length ec0, .bool n.susp, .bool n.shut, .int .i64 n.steps] 45)
  have hbc7 := belowZ hbcd hb7
  have hbk7 := belowZ hbkd hb7
  have HB7 := Lib.hid (bel2 HBD.out hb7)
  have HN7 := Lib.hid (hcs.move (T := fun _ => True) (fun b hb hl => ⟨hb7.block b hl, trivial⟩) hb7.size)
  clear hbcd hbkd hcs hb7 c0 c1 c2 c3 cf cl
  generalize wd.alloc (.cells #[.string n.id, .string n.ctr, .int .i64 n.stage, .slice VA0 n.vals.length vc0, .slice EA0 n.ends.length ec0, .bool n.susp, .bool n.shut, .int .i64 n.steps] 45) = w7 at *
  generalize wd.heap.size = b7 at *
  have c0 := (heap_at hbc7 0).trans (rfl : _ = some (Value.string ct.name))
  have c1 := (heap_at hbc7 1).trans (rfl : _ = some (Value.slice FA ct.fs.length fc))
  have c2 := (heap_at hbc7 2).trans (rfl : _ = some (Value.slice SA ct.ss.length sc))
  have c3 := (heap_at hbc7 3).trans (rfl : _ = some (Value.slice MA ct.ms.length mc))
  have cf := heap_free hbc7
  have cl := heap_ltZ hbc7
  go_wp2_with fail
  refine (HRNW.out w7 HB7.out).mono ?_
  rintro _ we ⟨VA1, vc1, EA1, ec1, rfl, hcs1, hb⟩
  clear c0 c1 c2 c3 cf cl
  have hbce := belowZ hbc7 hb
  have hbke := belowZ hbk7 hb
  have hne := belowZ hn7 hb
  have HBE := Lib.hid (bel2 HB7.out hb)
  have HNE := Lib.hid (HN7.out.move (T := fun _ => True) (fun b _ hl => ⟨hb.block b hl, trivial⟩) hb.size)
  clear hbc7 hbk7 hn7 hb
  go_upto_region 5 with fail
  have hn9 := heap_alloc_new we (.cells #[.string n.id, .string n.ctr, .int .i64 n.stage, .slice VA1 n.vals.length vc1, .slice EA1 n.ends.length ec1, .bool n.susp, .bool n.shut, .int .i64 n.steps] 45)
  have hb9 := alloc1 we (.cells #[.string n.id, .string n.ctr, .int .i64 n.stage, .slice VA1 n.vals.length vc1, .slice EA1 n.ends.length ec1, .bool n.susp, .bool n.shut, .int .i64 n.steps] 45)
  have hbc8 := belowZ hbce hb9
  have hbk8 := belowZ hbke hb9
  have hn8 := belowZ hne hb9
  have HB8 := Lib.hid (bel2 HBE.out hb9)
  have HN0 := Lib.hid (HNE.out.move (T := fun _ => True) (fun b _ hl => ⟨hb9.block b hl, trivial⟩) hb9.size)
  have HN1 := Lib.hid (hcs1.move (T := fun _ => True) (fun b _ hl => ⟨hb9.block b hl, trivial⟩) hb9.size)
  clear hbce hbke hne hcs1 hb9
  generalize we.alloc (.cells #[.string n.id, .string n.ctr, .int .i64 n.stage, .slice VA1 n.vals.length vc1, .slice EA1 n.ends.length ec1, .bool n.susp, .bool n.shut, .int .i64 n.steps] 45) = w8 at *
  generalize we.heap.size = b9 at *
  have HC8 := Lib.hid hbc8
  have HK8 := Lib.hid hbk8
  have HX8 := Lib.hid hn8
  have HY8 := Lib.hid hn9
  clear hbc8 hbk8 hn8 hn9
  have HS := Lib.hid (show ∀ W, Below w8.heap.size w8 W → (fun W => W.cell? ⟨w.heap.size, 0, none⟩ = some (.string ct.name) ∧ W.cell? ⟨w.heap.size, 1, none⟩ = some (.slice FA ct.fs.length fc) ∧ W.cell? ⟨w.heap.size, 2, none⟩ = some (.slice SA ct.ss.length sc) ∧ W.cell? ⟨w.heap.size, 3, none⟩ = some (.slice MA ct.ms.length mc) ∧ W.cell? ⟨w.heap.size + 1, 0, none⟩ = some (.string k.id) ∧ W.cell? ⟨w.heap.size + 1, 1, none⟩ = some (.string k.ctr) ∧ W.cell? ⟨w.heap.size + 1, 2, none⟩ = some (.int .i64 k.stage) ∧ W.cell? ⟨w.heap.size + 1, 3, none⟩ = some (.slice VA k.vals.length vc) ∧ W.cell? ⟨w.heap.size + 1, 4, none⟩ = some (.slice EA k.ends.length ec) ∧ W.cell? ⟨w.heap.size + 1, 5, none⟩ = some (.bool k.susp) ∧ W.cell? ⟨w.heap.size + 1, 6, none⟩ = some (.bool k.shut) ∧ W.cell? ⟨w.heap.size + 1, 7, none⟩ = some (.int .i64 k.steps) ∧ W.cell? ⟨b7, 0, none⟩ = some (.string n.id) ∧ W.cell? ⟨b7, 1, none⟩ = some (.string n.ctr) ∧ W.cell? ⟨b7, 2, none⟩ = some (.int .i64 n.stage) ∧ W.cell? ⟨b7, 3, none⟩ = some (.slice VA0 n.vals.length vc0) ∧ W.cell? ⟨b7, 4, none⟩ = some (.slice EA0 n.ends.length ec0) ∧ W.cell? ⟨b7, 5, none⟩ = some (.bool n.susp) ∧ W.cell? ⟨b7, 6, none⟩ = some (.bool n.shut) ∧ W.cell? ⟨b7, 7, none⟩ = some (.int .i64 n.steps) ∧ W.cell? ⟨b9, 0, none⟩ = some (.string n.id) ∧ W.cell? ⟨b9, 1, none⟩ = some (.string n.ctr) ∧ W.cell? ⟨b9, 2, none⟩ = some (.int .i64 n.stage) ∧ W.cell? ⟨b9, 3, none⟩ = some (.slice VA1 n.vals.length vc1) ∧ W.cell? ⟨b9, 4, none⟩ = some (.slice EA1 n.ends.length ec1) ∧ W.cell? ⟨b9, 5, none⟩ = some (.bool n.susp) ∧ W.cell? ⟨b9, 6, none⟩ = some (.bool n.shut) ∧ W.cell? ⟨b9, 7, none⟩ = some (.int .i64 n.steps)) W from fun W hb => by
    have hC := belowZ HC8.out hb
    have hK := belowZ HK8.out hb
    have hX := belowZ HX8.out hb
    have hY := belowZ HY8.out hb
    exact ⟨(heap_at hC 0).trans rfl, (heap_at hC 1).trans rfl, (heap_at hC 2).trans rfl, (heap_at hC 3).trans rfl, (heap_at hK 0).trans rfl, (heap_at hK 1).trans rfl, (heap_at hK 2).trans rfl, (heap_at hK 3).trans rfl, (heap_at hK 4).trans rfl, (heap_at hK 5).trans rfl, (heap_at hK 6).trans rfl, (heap_at hK 7).trans rfl, (heap_at hX 0).trans rfl, (heap_at hX 1).trans rfl, (heap_at hX 2).trans rfl, (heap_at hX 3).trans rfl, (heap_at hX 4).trans rfl, (heap_at hX 5).trans rfl, (heap_at hX 6).trans rfl, (heap_at hX 7).trans rfl, (heap_at hY 0).trans rfl, (heap_at hY 1).trans rfl, (heap_at hY 2).trans rfl, (heap_at hY 3).trans rfl, (heap_at hY 4).trans rfl, (heap_at hY 5).trans rfl, (heap_at hY 6).trans rfl, (heap_at hY 7).trans rfl⟩)
  have HS0 := Lib.hid (HS.out w8.drew (Below.refl w8.heap.size w8).drew)
  refine wp_region_held_drew (S := (fun W => W.cell? ⟨w.heap.size, 0, none⟩ = some (.string ct.name) ∧ W.cell? ⟨w.heap.size, 1, none⟩ = some (.slice FA ct.fs.length fc) ∧ W.cell? ⟨w.heap.size, 2, none⟩ = some (.slice SA ct.ss.length sc) ∧ W.cell? ⟨w.heap.size, 3, none⟩ = some (.slice MA ct.ms.length mc) ∧ W.cell? ⟨w.heap.size + 1, 0, none⟩ = some (.string k.id) ∧ W.cell? ⟨w.heap.size + 1, 1, none⟩ = some (.string k.ctr) ∧ W.cell? ⟨w.heap.size + 1, 2, none⟩ = some (.int .i64 k.stage) ∧ W.cell? ⟨w.heap.size + 1, 3, none⟩ = some (.slice VA k.vals.length vc) ∧ W.cell? ⟨w.heap.size + 1, 4, none⟩ = some (.slice EA k.ends.length ec) ∧ W.cell? ⟨w.heap.size + 1, 5, none⟩ = some (.bool k.susp) ∧ W.cell? ⟨w.heap.size + 1, 6, none⟩ = some (.bool k.shut) ∧ W.cell? ⟨w.heap.size + 1, 7, none⟩ = some (.int .i64 k.steps) ∧ W.cell? ⟨b7, 0, none⟩ = some (.string n.id) ∧ W.cell? ⟨b7, 1, none⟩ = some (.string n.ctr) ∧ W.cell? ⟨b7, 2, none⟩ = some (.int .i64 n.stage) ∧ W.cell? ⟨b7, 3, none⟩ = some (.slice VA0 n.vals.length vc0) ∧ W.cell? ⟨b7, 4, none⟩ = some (.slice EA0 n.ends.length ec0) ∧ W.cell? ⟨b7, 5, none⟩ = some (.bool n.susp) ∧ W.cell? ⟨b7, 6, none⟩ = some (.bool n.shut) ∧ W.cell? ⟨b7, 7, none⟩ = some (.int .i64 n.steps) ∧ W.cell? ⟨b9, 0, none⟩ = some (.string n.id) ∧ W.cell? ⟨b9, 1, none⟩ = some (.string n.ctr) ∧ W.cell? ⟨b9, 2, none⟩ = some (.int .i64 n.stage) ∧ W.cell? ⟨b9, 3, none⟩ = some (.slice VA1 n.vals.length vc1) ∧ W.cell? ⟨b9, 4, none⟩ = some (.slice EA1 n.ends.length ec1) ∧ W.cell? ⟨b9, 5, none⟩ = some (.bool n.susp) ∧ W.cell? ⟨b9, 6, none⟩ = some (.bool n.shut) ∧ W.cell? ⟨b9, 7, none⟩ = some (.int .i64 n.steps))) (by kernel_rfl) (HS0.out) (fun hHeld => ?_)
  refine tk 0 ?_
  (try simp only [Act.put, sA, sB, sC])
  refine tk 1 ?_
  (try simp only [Act.put, sA, sB, sC])
  refine tk 3 ?_
  (try simp only [Act.put, sA, sB, sC])
  refine tk 4 ?_
  (try simp only [Act.put, sA, sB, sC])
  refine wpAnyH_ready (rs := [2]) (by kernel_rfl) (by simp) ?_
  refine AllReadyH.cons (o := ?o400) ?g400 (fun K hK => ?j400) AllReadyH.nil
  case g400 => (simp only [gA, gB, gC]; rfl)
  go_simp
  refine (HRT.out w8.drew (bel2 HB8.out (Below.refl w8.heap.size w8).drew)).mono ?_
  rintro _ wr0 ⟨rfl, hbr⟩
  have HR0 := Lib.hid (show Below w8.heap.size w8 wr0 from (Below.refl w8.heap.size w8).drew.trans hbr)
  clear hbr
  refine hK.out _ _ ?_ (fun hHeld => ?_)
  · (try dsimp only); exact HS.out wr0 HR0.out
  clear hK K
  (try simp only [Act.put, sA, sB, sC])
  refine wpAnyH_ready (rs := [5]) (by kernel_rfl) (by simp) ?_
  refine AllReadyH.cons (o := ?o401) ?g401 (fun K hK => ?j401) AllReadyH.nil
  case g401 => (simp only [gA, gB, gC]; rfl)
  go_simp
  refine (HRR.out wr0 (bel2 HB8.out HR0.out)).mono ?_
  rintro _ wr1 ⟨rfl, hbr⟩
  have HR1 := Lib.hid (show Below w8.heap.size w8 wr1 from bel2 HR0.out hbr)
  clear hbr
  refine hK.out _ _ ?_ (fun hHeld => ?_)
  · (try dsimp only); exact HS.out wr1 HR1.out
  clear hK K
  (try simp only [Act.put, sA, sB, sC])
  refine tk 6 ?_
  (try simp only [Act.put, sA, sB, sC])
  refine tk 7 ?_
  (try simp only [Act.put, sA, sB, sC])
  refine tk 8 ?_
  (try simp only [Act.put, sA, sB, sC])
  refine tk 9 ?_
  (try simp only [Act.put, sA, sB, sC])
  refine wpAnyH_ready (rs := [10]) (by kernel_rfl) (by simp) ?_
  refine AllReadyH.cons (o := ?o406) ?g406 (fun K hK => ?j406) AllReadyH.nil
  case g406 => (simp only [gA, gB, gC]; rfl)
  go_simp
  refine (show Calls Tryz.prog 24 #[.agg (csK n VA0 vc0 EA0 ec0), .agg (csK n VA1 vc1 EA1 ec1)] wr1 (VMk (.bool true) wr1) from rSame7_true n n.vals VA0 VA1 EA0 EA1 vc0 vc1 ec0 ec1 wr1 (HN0.out.k.below HR1.out) (HN1.out.k.below HR1.out) rfl (fun j _ _ => sameV_rf _)).mono ?_
  rintro _ wr2 ⟨rfl, hbr⟩
  have HR2 := Lib.hid (show Below w8.heap.size w8 wr2 from bel2 HR1.out hbr)
  clear hbr
  refine hK.out _ _ ?_ (fun hHeld => ?_)
  · (try dsimp only); exact HS.out wr2 HR2.out
  clear hK K
  (try simp only [Act.put, sA, sB, sC])
  refine tk 11 ?_
  (try simp only [Act.put, sA, sB, sC])
  refine tk 12 ?_
  (try simp only [Act.put, sA, sB, sC])
  refine tk 13 ?_
  (try simp only [Act.put, sA, sB, sC])
  refine tk 14 ?_
  (try simp only [Act.put, sA, sB, sC])
  refine tk 15 ?_
  (try simp only [Act.put, sA, sB, sC])
  refine tk 16 ?_
  (try simp only [Act.put, sA, sB, sC])
  refine tk 17 ?_
  (try simp only [Act.put, sA, sB, sC])
  refine wpAnyH_ready (rs := [18]) (by kernel_rfl) (by simp) ?_
  refine AllReadyH.cons (o := ?o414) ?g414 (fun K hK => ?j414) AllReadyH.nil
  case g414 => (simp only [gA, gB, gC]; rfl)
  go_simp
  refine (HAWK.out wr2).mono ?_
  rintro _ wr3 ⟨rfl, hbr⟩
  have HR3 := Lib.hid (show Below w8.heap.size w8 wr3 from bel2 HR2.out hbr)
  clear hbr
  refine hK.out _ _ ?_ (fun hHeld => ?_)
  · (try dsimp only); exact HS.out wr3 HR3.out
  clear hK K
  (try simp only [Act.put, sA, sB, sC])
  refine tk 19 ?_
  (try simp only [Act.put, sA, sB, sC])
  refine tk 20 ?_
  (try simp only [Act.put, sA, sB, sC])
  refine wpAnyH_done (by kernel_rfl) ?_ _
  go_wp2
  go_ret
  exact ⟨rfl, bel2 HB8.out HR3.out⟩

end Go.Proofs.YtachhcabgggimaaGreat
