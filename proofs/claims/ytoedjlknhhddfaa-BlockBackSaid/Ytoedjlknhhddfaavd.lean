/- vd: BGet4 BPut2 BSame BPrv BAw BBack (made by shake.py). -/
import Derived.Test.Ytoedjlknhhddfaavc
namespace Go.Proofs.Ytoedjlknhhddfaa
open Go.RowKit
set_option linter.unusedVariables false
set_option linter.unusedSimpArgs false
set_option maxRecDepth 20000

theorem count_le (r : List UInt8) (e : Int) : (stepF 4 (alCount 4) r e).1 ≤ 4 := by
  by_cases h : (stepF 4 (alCount 4) r e).2.2 = 0
  · obtain ⟨-, -, h3, h4⟩ := stepF8_ok h
    rw [h4]
    simp only
    unfold alCount ceilE at h3
    by_cases h5 : max (4 : Int) 0 < (wordN (r.take 4) : Int)
    · rw [if_pos h5] at h3; exact absurd h3 (by decide)
    · omega
  · unfold stepF at h ⊢
    by_cases h1 : e ≠ 0
    · rw [if_pos h1]; exact Nat.zero_le _
    rw [if_neg h1] at h ⊢
    by_cases h2 : r.length < 4
    · rw [if_pos h2]; exact Nat.zero_le _
    rw [if_neg h2] at h ⊢
    by_cases h3 : alCount 4 (wordN (r.take 4)) ≠ 0
    · rw [if_pos h3]; exact Nat.zero_le _
    · rw [if_neg h3] at h
      exact absurd rfl h
theorem itemL_len (rest : List UInt8) (e : Int) : (itemL rest e).2.1.length ≤ rest.length := by
  unfold itemL
  simp only
  exact Nat.le_trans (int8F_lenG _ _) (Nat.le_trans (int8F_lenG _ _) (Nat.le_trans (bytesL_lenG _ _) (int8F_lenG _ _)))
theorem itemsL_more (m : Nat) (rest : List UInt8) (e : Int) : itemsL (m + 1) rest e = ((itemL rest e).1 :: (itemsL m (itemL rest e).2.1 (itemL rest e).2.2).1, (itemsL m (itemL rest e).2.1 (itemL rest e).2.2).2) := rfl
theorem zip_snoc {α β : Type} (l : List α) (m : List β) (a : α) (b : β) (h : l.length = m.length) : (l ++ [a]).zip (m ++ [b]) = l.zip m ++ [(a, b)] := by
  rw [List.zip_append h]; rfl
structure StI (n : Nat) (r0 : List UInt8) (e0 : Int) (k : Nat) (E : List EnvB) (R : List (Int × Int)) (rest : List UInt8) (err : Int) : Prop where
  kn : k ≤ n
  e : E.length = k
  r : R.length = k
  i : itemsL n r0 e0 = ((E.map (·.1)).zip R ++ (itemsL (n - k) rest err).1, (itemsL (n - k) rest err).2)
  l : rest.length ≤ 1000000
theorem StI.next {n : Nat} {r0 : List UInt8} {e0 : Int} {k : Nat} {E : List EnvB} {R : List (Int × Int)} {rest : List UInt8} {err : Int} (h : StI n r0 e0 k E R rest err) (hk : k < n) (bv : Value) : StI n r0 e0 (k + 1) (E ++ [((itemL rest err).1.1, bv)]) (R ++ [(itemL rest err).1.2]) (itemL rest err).2.1 (itemL rest err).2.2 := by
  refine ⟨hk, by simp [h.e], by simp [h.r], ?_, Nat.le_trans (itemL_len _ _) h.l⟩
  obtain ⟨m, hm⟩ : ∃ m, n - k = m + 1 := ⟨n - k - 1, by omega⟩
  have hi := h.i
  rw [hm, itemsL_more] at hi
  rw [hi, show n - (k + 1) = m by omega, List.map_append, List.map_cons, List.map_nil, zip_snoc _ _ _ _ (by rw [List.length_map, h.e, h.r])]
  simp
theorem StI.end {n : Nat} {r0 : List UInt8} {e0 : Int} {E : List EnvB} {R : List (Int × Int)} {rest : List UInt8} {err : Int} (h : StI n r0 e0 n E R rest err) : (itemsL n r0 e0).1.map (·.1) = E.map (·.1) ∧ (itemsL n r0 e0).1.map (·.2) = R ∧ (itemsL n r0 e0).2 = (rest, err) := by
  have hi := h.i
  rw [Nat.sub_self] at hi
  have h0 : itemsL 0 rest err = ([], rest, err) := rfl
  rw [hi, h0]
  simp only [List.append_nil]
  exact ⟨List.map_fst_zip (by rw [List.length_map, h.e, h.r]; exact Nat.le_refl _), List.map_snd_zip (by rw [List.length_map, h.e, h.r]; exact Nat.le_refl _), trivial⟩
theorem getBL_eq {x : List UInt8} {b : Blk} {r : List UInt8} {e : Int} (h : readL x 0 = (b, r, e)) : (getBL x = if e = 0 ∧ checkB b = 0 then b else zeroB) ∧ (getBLE x = if e = 0 ∧ checkB b = 0 then 0 else 12) := by
  have hi : gotL x ↔ (e = 0 ∧ checkB b = 0) := by unfold gotL; rw [h]
  unfold getBL getBLE
  by_cases hg : gotL x
  · rw [if_pos hg, if_pos hg, if_pos (hi.1 hg), if_pos (hi.1 hg), h]
    exact ⟨rfl, rfl⟩
  · rw [if_neg hg, if_neg hg, if_neg (fun e => hg (hi.2 e)), if_neg (fun e => hg (hi.2 e))]
    exact ⟨rfl, rfl⟩
def GtP (b : Blk) (x : Int) (w : World) (e : Ending) (w' : World) : Prop := ∃ A c D d, e = .returned (.tuple #[agB b A c D d, .int .i64 x]) ∧ BlkK w' b A c D d ∧ Below w.heap.size w w'
set_option maxHeartbeats 8000000 in
theorem bGet_any (v : Value) (x : List UInt8) (w : World) (hv : Bs w v x) (hx : x.length ≤ 100000) : Calls Try.prog 26 #[v] w (GtP (getBL x) (getBLE x) w) := by
  obtain ⟨i0, hi0, hz0, hz1, hz2⟩ := info_parts envinfoB
  obtain ⟨j0, hj0, hy0, hy1, hy2⟩ := info_parts resinfoB
  have x1 := heap_alloc_new w (.cells zB 26)
  have x3 := alloc1B w (.cells zB 26)
  have HNW := Lib.hid (fun W (h : Below w.heap.size w W) => New_any v x W (hv.below h (Nat.le_refl _)) (by omega))
  have l1 := int8F_lenG x 0
  have l2 := bytesL_lenG (int8F x 0).2.1 (int8F x 0).2.2
  have l3 := stepF_lenG 4 (alCount 4) (bytesL (int8F x 0).2.1 (int8F x 0).2.2).2.1 (bytesL (int8F x 0).2.1 (int8F x 0).2.2).2.2
  have l4 := count_le (bytesL (int8F x 0).2.1 (int8F x 0).2.2).2.1 (bytesL (int8F x 0).2.1 (int8F x 0).2.2).2.2
  have HI1 := Lib.hid (fun g W h => bGetInt_any g x 0 W h)
  have HBY := Lib.hid (fun g W h => bytesL_new g (int8F x 0).2.1 (int8F x 0).2.2 W h (by omega))
  have HLF := Lib.hid (fun g W h => Left_any g (int8F x 0).2.1 (int8F x 0).2.2 W h)
  have HCT := Lib.hid (fun g W h => Count_any g (bytesL (int8F x 0).2.1 (int8F x 0).2.2).2.1 (bytesL (int8F x 0).2.1 (int8F x 0).2.2).2.2 4 (by omega) (by omega) W h)
  have hrd : readL x 0 = (⟨(int8F x 0).1, (bytesL (int8F x 0).2.1 (int8F x 0).2.2).1, (itemsL (stepF 4 (alCount 4) (bytesL (int8F x 0).2.1 (int8F x 0).2.2).2.1 (bytesL (int8F x 0).2.1 (int8F x 0).2.2).2.2).1 (stepF 4 (alCount 4) (bytesL (int8F x 0).2.1 (int8F x 0).2.2).2.1 (bytesL (int8F x 0).2.1 (int8F x 0).2.2).2.2).2.1 (stepF 4 (alCount 4) (bytesL (int8F x 0).2.1 (int8F x 0).2.2).2.1 (bytesL (int8F x 0).2.1 (int8F x 0).2.2).2.2).2.2).1.map (·.1), (itemsL (stepF 4 (alCount 4) (bytesL (int8F x 0).2.1 (int8F x 0).2.2).2.1 (bytesL (int8F x 0).2.1 (int8F x 0).2.2).2.2).1 (stepF 4 (alCount 4) (bytesL (int8F x 0).2.1 (int8F x 0).2.2).2.1 (bytesL (int8F x 0).2.1 (int8F x 0).2.2).2.2).2.1 (stepF 4 (alCount 4) (bytesL (int8F x 0).2.1 (int8F x 0).2.2).2.1 (bytesL (int8F x 0).2.1 (int8F x 0).2.2).2.2).2.2).1.map (·.2)⟩, (itemsL (stepF 4 (alCount 4) (bytesL (int8F x 0).2.1 (int8F x 0).2.2).2.1 (bytesL (int8F x 0).2.1 (int8F x 0).2.2).2.2).1 (stepF 4 (alCount 4) (bytesL (int8F x 0).2.1 (int8F x 0).2.2).2.1 (bytesL (int8F x 0).2.1 (int8F x 0).2.2).2.2).2.1 (stepF 4 (alCount 4) (bytesL (int8F x 0).2.1 (int8F x 0).2.2).2.1 (bytesL (int8F x 0).2.1 (int8F x 0).2.2).2.2).2.2).2.1, endE (itemsL (stepF 4 (alCount 4) (bytesL (int8F x 0).2.1 (int8F x 0).2.2).2.1 (bytesL (int8F x 0).2.1 (int8F x 0).2.2).2.2).1 (stepF 4 (alCount 4) (bytesL (int8F x 0).2.1 (int8F x 0).2.2).2.1 (bytesL (int8F x 0).2.1 (int8F x 0).2.2).2.2).2.1 (stepF 4 (alCount 4) (bytesL (int8F x 0).2.1 (int8F x 0).2.2).2.1 (bytesL (int8F x 0).2.1 (int8F x 0).2.2).2.2).2.2).2.1 (itemsL (stepF 4 (alCount 4) (bytesL (int8F x 0).2.1 (int8F x 0).2.2).2.1 (bytesL (int8F x 0).2.1 (int8F x 0).2.2).2.2).1 (stepF 4 (alCount 4) (bytesL (int8F x 0).2.1 (int8F x 0).2.2).2.1 (bytesL (int8F x 0).2.1 (int8F x 0).2.2).2.2).2.1 (stepF 4 (alCount 4) (bytesL (int8F x 0).2.1 (int8F x 0).2.2).2.1 (bytesL (int8F x 0).2.1 (int8F x 0).2.2).2.2).2.2).2.2) := rfl
  generalize int8F x 0 = a1 at *
  obtain ⟨h, r1, e1⟩ := a1
  simp only at *
  generalize bytesL r1 e1 = a2 at *
  obtain ⟨pv, r2, e2⟩ := a2
  simp only at *
  generalize stepF 4 (alCount 4) r2 e2 = a3 at *
  obtain ⟨n, r3, e3⟩ := a3
  simp only at *
  have hwn : wrap64 (n : Int) = (n : Int) := by unfold wrap64; omega
  rw [hwn] at HCT
  have hst0 : StI n r3 e3 0 [] [] r3 e3 := ⟨Nat.zero_le _, rfl, rfl, by simp, by omega⟩
  have hres : ∀ E R rest err, StI n r3 e3 n E R rest err → (getBL x = if endE rest err = 0 ∧ checkB ⟨h, pv, E.map (·.1), R⟩ = 0 then ⟨h, pv, E.map (·.1), R⟩ else zeroB) ∧ (getBLE x = if endE rest err = 0 ∧ checkB ⟨h, pv, E.map (·.1), R⟩ = 0 then 0 else 12) := fun E R rest err hs => by
    obtain ⟨h1, h2, h3⟩ := hs.end
    rw [h1, h2, h3] at hrd
    exact getBL_eq hrd
  have HRES := Lib.hid hres
  have HST0 := Lib.hid hst0
  have HX1 := Lib.hid x1
  have HB0 := Lib.hid x3
  have hmost : (r1.length : Int) ≤ 9223372036854775807 := by omega
  have hn63 : (n : Int) ≤ 9223372036854775807 := by omega
  obtain ⟨VA, vc, rfl, -⟩ := hv.open
  clear hres hst0 x1 x3 hrd hv
  generalize getBL x = gb at *
  generalize getBLE x = ge at *
  go_enter Try.func26, Try.ntmps26
  go_upto_region 1 with fail
  generalize hw0 : w.alloc (.cells #[.int .i64 0, .string ⟨#[]⟩, .slice none 0 0, .slice none 0 0] 26) = w0 at *
  have HS0 := Lib.hid (show w0.heap.size = w.heap.size + 1 from by rw [← hw0]; simp)
  clear hw0
  go_upto_region 3 with (first
    | (go_at_call 43; refine (HNW.out _ HB0.out).mono ?_; rintro e w1 ⟨g, rfl, hg1, hr1, hb1⟩; have HG1 := Lib.hid hg1; have HR1 := Lib.hid hr1; have HB1 := Lib.hid hb1; clear hg1 hr1 hb1)
    | (go_at_call 44; refine (HI1.out _ _ HR1.out).mono ?_; rintro e w2 ⟨rfl, hr2, ho2⟩; have HR2 := Lib.hid hr2; have HO2 := Lib.hid ho2; clear hr2 ho2)
    | (go_at_call 46; refine (HLF.out _ _ HR2.out).mono ?_; rintro e wl ⟨rfl, rfl⟩)
    | (go_at_call 45; refine (HBY.out _ _ HR2.out).mono ?_; rintro e w3 ⟨v3, rfl, hv3, hr3, ho3, hn3⟩; have hcs := run_strD hv3; obtain ⟨A3, c3, rfl, -⟩ := hv3.open; have HR3 := Lib.hid hr3; have HO3 := Lib.hid ho3; clear hv3 hr3 ho3 hn3))
  clear hcs
  have HX4 := Lib.hid (heap_alloc_new w3 (.cells #[.int .i64 h, .string (strB pv), .slice none 0 0, .slice none 0 0] 26))
  have HB4 := Lib.hid (alloc1B w3 (.cells #[.int .i64 h, .string (strB pv), .slice none 0 0, .slice none 0 0] 26))
  have HS4 := Lib.hid (show (w3.alloc (.cells #[.int .i64 h, .string (strB pv), .slice none 0 0, .slice none 0 0] 26)).heap.size = w3.heap.size + 1 from by simp)
  have HR4 := Lib.hid (HR3.out.below HB4.out)
  generalize w3.alloc (.cells #[.int .i64 h, .string (strB pv), .slice none 0 0, .slice none 0 0] 26) = w4 at *
  go_upto_region 4 with (first
    | (go_at_call 47; refine (HCT.out _ _ HR4.out).mono ?_; rintro e w5 ⟨rfl, hr5, ho5⟩; have HR5 := Lib.hid hr5; have HO5 := Lib.hid ho5; clear hr5 ho5))
  have HI0 := Lib.hid (show GtI w w5 g w3.heap.size w4.heap.size h pv [] [] (.slice none 0 0) (.slice none 0 0) r3 e3 from by
    have t0 := HS0.out
    have t1 := HG1.out
    have t2 := HO2.out.size
    have t3 := HO3.out.size
    have t4 := HS4.out
    have t5 := HO5.out.size
    have t6 := HR1.out.lt
    have t7 := HB1.out.size
    have bl1 : Below w.heap.size w w1 := bel2M HB0.out HB1.out
    have bl3 := onlyBelow (onlyBelow bl1 HO2.out (by omega) (Nat.le_refl _)) HO3.out (by omega) (Nat.le_refl _)
    exact ⟨HR5.out, onlyHeap HO5.out HX4.out (by omega), onlyHeap HO5.out (heapB (onlyHeap HO3.out (onlyHeap HO2.out (heapB HX1.out HB1.out) (by omega)) (by omega)) HB4.out) (by omega), World.ownsRow_nil _ _ _ _, World.ownsRow_nil _ _ _ _, fun q hq => (by cases hq), onlyBelow (bel2M bl3 HB4.out) HO5.out (by omega) (Nat.le_refl _), ⟨by omega, by omega, by omega, by omega, by omega, by omega, by omega, by omega⟩⟩)
  clear HX1 HB0 HS0 HG1 HR1 HB1 HR2 HO2 HR3 HO3 HX4 HB4 HR4 HR5 HO5 HNW HI1 HBY HLF HCT hmost
  generalize w3.heap.size = kb at *
  generalize w4.heap.size = B at *
  clear HS4
  go_loopw [20] (fun i wr => ∃ (k : Nat) (E : List EnvB) (R : List (Int × Int)) (rq rr : Value) (rest : List UInt8) (err : Int), i = .int .i64 k ∧ GtI w wr g kb B h pv E R rq rr rest err ∧ StI n r3 e3 k E R rest err) (fun i _ => n - (intOf i).toNat)
  case atStart => exact ⟨0, [], [], _, _, _, _, rfl, HI0.out, HST0.out⟩
  case round =>
    obtain ⟨k, E, R, rq, rr, rest, err, rfl, hgt, hst⟩ := hrel
    have HG := Lib.hid hgt
    have HST := Lib.hid hst
    have hkn := hst.kn
    have hrl := hst.l
    have hE4 : E.length ≤ 4 := by have := hst.e; omega
    have hR4 : R.length ≤ 4 := by have := hst.r; omega
    clear hgt hst HI0 HST0
    by_cases hlt : k < n
    · have hltI : (k : Int) < (n : Int) := by omega
      have HLF := Lib.hid (fun W hr => getLeaf_any g rest err W hr hrl)
      have HNX := Lib.hid (HST.out.next hlt)
      generalize itemL rest err = it at *
      obtain ⟨⟨⟨s, l⟩, rc, rs⟩, rest2, err2⟩ := it
      simp only at HNX
      go_upto_region 6 with (first
        | (go_at_call 48; refine (HLF.out _ HG.out.rd).mono ?_; rintro e w6 ⟨A6, c6, rfl, hb6, hn6, hr6, ho6⟩; have HB6 := Lib.hid hb6; have HN6 := Lib.hid hn6; have HG6 := Lib.hid (HG.out.only ho6 hr6); have HSZ := Lib.hid ho6.size; clear hb6 hn6 hr6 ho6))
      try simp only at HB6 HN6 HG6
      have HOFF := Lib.hid (show l ≠ [] → ∀ j, (Value.slice A6 l.length c6).ownBlock = some j → B ≤ j ∧ rq.ownBlock ≠ some j ∧ rr.ownBlock ≠ some j from fun _ j hj => by
        have h1 := HN6.out j hj
        have h2 := HG.out.sz.2.2.2.1
        exact ⟨by omega, fun e => by have := (HG.out.eq.lt j e).2; omega, fun e => by have := (HG.out.er.lt j e).2; omega⟩)
      obtain ⟨y1, y2, y3⟩ := box2B w6 #[.int .i64 s, .slice A6 l.length c6] #[.int .i64 rc, .int .i64 rs] 32 35
      have HG7 := Lib.hid (HG6.out.below y3)
      have HV7 := Lib.hid (HB6.out.below y3 (Nat.le_refl _))
      have HY2 := Lib.hid y2
      have g1 := rowCell y1 0 _ rfl
      have g2 := rowCell y1 1 _ rfl
      generalize (w6.alloc (.cells #[.int .i64 s, .slice A6 l.length c6] 32)).alloc (.cells #[.int .i64 rc, .int .i64 rs] 35) = w7 at *
      clear y1 y2 y3
      obtain ⟨QA, qc, hqs⟩ := own_slice HG7.out.eq
      obtain ⟨RA, rc0, hrs⟩ := own_slice HG7.out.er
      have g3 := rowCell HG7.out.bx 2 _ rfl
      rw [hqs] at g3
      have HB8 := Lib.hid (alloc1B w7 (.cells #[.int .i64 s, .slice A6 l.length c6] 32))
      have HG8 := Lib.hid (HG7.out.below HB8.out)
      have HV8 := Lib.hid (HV7.out.below HB8.out (Nat.le_refl _))
      have HO8 := Lib.hid (show (w7.alloc (.cells #[.int .i64 s, .slice A6 l.length c6] 32)).ownsRow B 32 2 (.slice QA E.length qc) E.length (E.flatMap envC) from hqs ▸ HG8.out.eq)
      have HRQ := Lib.hid hqs
      have HRR := Lib.hid hrs
      clear hqs hrs
      go_upto_region 7 with (first
        | (at_builtin; refine wpList_append_rowsM rfl _ _ 23 rfl B 32 i0 _ 2 32 Try.underlying23 hi0 hz0 hz1 hz2 rfl (by decide) _ E.length (E.flatMap envC) rfl HO8.out _ 1 [.int .i64 s, .slice A6 l.length c6] rfl (rowMs_new w7 #[.int .i64 s, .slice A6 l.length c6] 32 1 2 rfl 1 (by decide)) (by intro u hu; simp at hu; rcases hu with rfl | rfl <;> rfl) (by unfold maxLen; omega) (by omega) HG8.out.sz.2.2.2.1 ?_; intro v8 w8 hown8 hgr8 hob8; obtain ⟨VA8, vc8, hv8⟩ := own_slice hown8; subst hv8; have hgr := HRQ.out ▸ hgr8; have HGR := Lib.hid hgr; have hp8 := gt_push HG8.out HG8.out.eq (by decide) (by decide) hgr; have g4 := rowCell hp8.2.1 2 _ rfl; have g5 : w8.frozen? ⟨kb, 2, none⟩ = false := (by simp [World.frozen?, hp8.2.1]); have HOWN8 := Lib.hid hown8; have HOB8 := Lib.hid hob8; clear hown8 hgr8 hob8 hp8 hgr))
      have HG9 := Lib.hid (HG8.out.pushE (rq2 := .slice VA8 (E.length + 1) vc8) HOWN8.out rfl HGR.out (HRQ.out ▸ HOB8.out) HV8.out HOFF.out)
      have HY9 := Lib.hid (show (w8.setCell ⟨kb, 2, none⟩ (.slice VA8 (E.length + 1) vc8)).heap[w6.heap.size + 1]? = some (.cells #[.int .i64 rc, .int .i64 rs] 35 (0, 0)) from by
        have hkb := HG.out.sz.2.1
        have hB := HG.out.sz.2.2.2.1
        have hz := HSZ.out
        rw [Go.Deep.blk_setCell_other _ _ _ _ (show w6.heap.size + 1 ≠ kb by omega)]
        exact (HGR.out.block _ (Nat.lt_of_lt_of_le (Array.getElem?_eq_some_iff.1 HY2.out).1 HB8.out.size) (fun e => by have := (HG.out.eq.lt _ e.symm).2; omega)).trans (heapB HY2.out HB8.out))
      generalize w8.setCell ⟨kb, 2, none⟩ (.slice VA8 (E.length + 1) vc8) = w9 at *
      clear g1 g2 g3 g4 g5
      have g1 := rowCell HY9.out 0 _ rfl
      have g2 := rowCell HY9.out 1 _ rfl
      have g3 := rowCell HG9.out.bx 3 _ rfl
      rw [HRR.out] at g3
      have HB10 := Lib.hid (alloc1B w9 (.cells #[.int .i64 rc, .int .i64 rs] 35))
      have HG10 := Lib.hid (HG9.out.below HB10.out)
      have HO10 := Lib.hid (show (w9.alloc (.cells #[.int .i64 rc, .int .i64 rs] 35)).ownsRow B 35 2 (.slice RA R.length rc0) R.length (R.flatMap resC) from HRR.out ▸ HG10.out.er)
      go_upto_region 8 with (first
        | (at_builtin; refine wpList_append_rowsM rfl _ _ 24 rfl B 35 j0 _ 2 16 Try.underlying24 hj0 hy0 hy1 hy2 rfl (by decide) _ R.length (R.flatMap resC) rfl HO10.out _ 1 [.int .i64 rc, .int .i64 rs] rfl (rowMs_new w9 #[.int .i64 rc, .int .i64 rs] 35 1 2 rfl 1 (by decide)) (by intro u hu; simp at hu; rcases hu with rfl | rfl <;> rfl) (by unfold maxLen; omega) (by omega) HG10.out.sz.2.2.2.1 ?_; intro v11 w11 hown11 hgr11 hob11; obtain ⟨VB8, vd8, hv11⟩ := own_slice hown11; subst hv11; have hgr := HRR.out ▸ hgr11; have HGR2 := Lib.hid hgr; have hp8 := gt_push HG10.out HG10.out.er (by decide) (by decide) hgr; have g4 := rowCell hp8.2.1 3 _ rfl; have g5 : w11.frozen? ⟨kb, 3, none⟩ = false := (by simp [World.frozen?, hp8.2.1]); have HOWN11 := Lib.hid hown11; have HOB11 := Lib.hid hob11; clear hown11 hgr11 hob11 hp8 hgr))
      have HG12 := Lib.hid (HG10.out.pushR (rr2 := .slice VB8 (R.length + 1) vd8) (r := (rc, rs)) HOWN11.out rfl HGR2.out (HRR.out ▸ HOB11.out))
      clear g1 g2 g3 g4 g5
      generalize w11.setCell ⟨kb, 3, none⟩ (.slice VB8 (R.length + 1) vd8) = w12 at *
      go_wp2
      go_roundw
      case rel => exact ⟨k + 1, _, _, _, _, _, _, by go_num, HG12.out, HNX.out _⟩
      case measure => simp [intOf]; omega
    · obtain rfl : k = n := by omega
      have hltI : ¬ ((k : Nat) : Int) < (k : Int) := by omega
      obtain ⟨hb1, hb2⟩ := HRES.out E R rest err HST.out
      have HEND := Lib.hid (fun W hr => End_any g rest err W hr)
      have HERR := Lib.hid (fun W hr => Err_any g rest (endE rest err) W hr)
      have hcl : E.length ≤ maxLen ∧ R.length ≤ maxLen := by unfold maxLen; omega
      have hel := HST.out.e
      have HBX := Lib.hid (fun W (H : GtI w W g kb B h pv E R rq rr rest (endE rest err)) => (⟨rowCell H.bx 0 _ rfl, rowCell H.bx 1 _ rfl, rowCell H.bx 2 _ rfl, rowCell H.bx 3 _ rfl⟩ : W.cell? ⟨kb, 0, none⟩ = some (.int .i64 h) ∧ W.cell? ⟨kb, 1, none⟩ = some (.string (strB pv)) ∧ W.cell? ⟨kb, 2, none⟩ = some rq ∧ W.cell? ⟨kb, 3, none⟩ = some rr))
      obtain ⟨QA, qc, hqs⟩ := own_slice HG.out.eq
      obtain ⟨RA, rc0, hrs⟩ := own_slice HG.out.er
      have hck0 := fun W => bCheck_any ⟨h, pv, E.map (·.1), R⟩ QA qc RA rc0 W (by simpa using hcl.1) hcl.2
      simp only [agB, List.length_map] at hck0
      have HCK := Lib.hid hck0
      by_cases he : endE rest err = 0
      case neg =>
        have hen : (endE rest err != 0) = true := by simpa using he
        rw [if_neg (fun h => he h.1)] at hb1 hb2
        clear he hck0 hcl hel
        generalize endE rest err = ee at *
        go_upto_region 11 with (first
          | (go_at_call 49; refine (HEND.out _ HG.out.rd).mono ?_; rintro e w6 ⟨rfl, hr6, ho6⟩; have HG6 := Lib.hid (HG.out.only ho6 hr6); clear hr6 ho6)
          | (go_at_call 50; refine (HERR.out _ HG6.out.rd).mono ?_; rintro e wq ⟨rfl, rfl⟩))
        have r0 := rowCell HG6.out.rs 0 _ rfl
        have r1 := rowCell HG6.out.rs 1 _ rfl
        have r2 := rowCell HG6.out.rs 2 _ rfl
        have r3 := rowCell HG6.out.rs 3 _ rfl
        have rf : ∀ j, w6.frozen? ⟨w.heap.size, j, none⟩ = false := fun j => by simp [World.frozen?, HG6.out.rs]
        have rl : w.heap.size < w6.heap.size := (Array.getElem?_eq_some_iff.1 HG6.out.rs).1
        go_wp2
        have hf := HG6.out.fin (W2 := _) ((((Only.refl w.heap.size w6).set 0 (.int .i64 0)).set 1 (.string ⟨#[]⟩)).set 2 (.slice none 0 0) |>.set 3 (.slice none 0 0))
        exact bodyPost_ret (v := .tuple #[.agg #[.int .i64 0, .string ⟨#[]⟩, .slice none 0 0, .slice none 0 0], .int .i64 12]) (by simp [results, Try.results26, go_sem, r0, r1, r2, r3, rl]) rfl (by rw [hb1, hb2]; exact ⟨none, 0, none, 0, rfl, ⟨RowM.none _ _ _, RowM.none _ _ _⟩, hf.2⟩)
      have hen : (endE rest err != 0) = false := by simpa using he
      by_cases hc : checkB ⟨h, pv, E.map (·.1), R⟩ = 0
      case neg =>
        have hcn : (checkB ⟨h, pv, E.map (·.1), R⟩ != 0) = true := by simpa using hc
        rw [if_neg (fun h => hc h.2)] at hb1 hb2
        clear he hc hck0 hcl hel
        generalize endE rest err = ee at *
        generalize checkB ⟨h, pv, E.map (·.1), R⟩ = ck at *
        go_upto_region 10 with (go_at_call 49; refine (HEND.out _ HG.out.rd).mono ?_; rintro e w6 ⟨rfl, hr6, ho6⟩; have HG6 := Lib.hid (HG.out.only ho6 hr6); clear hr6 ho6)
        obtain ⟨k0, k1, k2, k3⟩ := HBX.out _ HG6.out
        rw [hqs] at k2
        rw [hrs] at k3
        go_upto_region 11 with (first
          | (go_at_call 50; refine (HERR.out _ HG6.out.rd).mono ?_; rintro e wq ⟨rfl, rfl⟩)
          | (go_at_call 14; refine (HCK.out _).mono ?_; rintro e w8 ⟨rfl, hb8⟩; have HG8 := Lib.hid (HG6.out.below hb8); clear hb8))
        have r0 := rowCell HG8.out.rs 0 _ rfl
        have r1 := rowCell HG8.out.rs 1 _ rfl
        have r2 := rowCell HG8.out.rs 2 _ rfl
        have r3 := rowCell HG8.out.rs 3 _ rfl
        have rf : ∀ j, w8.frozen? ⟨w.heap.size, j, none⟩ = false := fun j => by simp [World.frozen?, HG8.out.rs]
        have rl : w.heap.size < w8.heap.size := (Array.getElem?_eq_some_iff.1 HG8.out.rs).1
        go_wp2
        have hf := HG8.out.fin (W2 := _) ((((Only.refl w.heap.size w8).set 0 (.int .i64 0)).set 1 (.string ⟨#[]⟩)).set 2 (.slice none 0 0) |>.set 3 (.slice none 0 0))
        exact bodyPost_ret (v := .tuple #[.agg #[.int .i64 0, .string ⟨#[]⟩, .slice none 0 0, .slice none 0 0], .int .i64 12]) (by simp [results, Try.results26, go_sem, r0, r1, r2, r3, rl]) rfl (by rw [hb1, hb2]; exact ⟨none, 0, none, 0, rfl, ⟨RowM.none _ _ _, RowM.none _ _ _⟩, hf.2⟩)
      rw [if_pos ⟨he, hc⟩] at hb1 hb2
      rw [hc] at HCK
      clear he hc hck0 hcl hel
      generalize endE rest err = ee at *
      go_upto_region 10 with (go_at_call 49; refine (HEND.out _ HG.out.rd).mono ?_; rintro e w6 ⟨rfl, hr6, ho6⟩; have HG6 := Lib.hid (HG.out.only ho6 hr6); clear hr6 ho6)
      obtain ⟨k0, k1, k2, k3⟩ := HBX.out _ HG6.out
      rw [hqs] at k2
      rw [hrs] at k3
      go_upto_region 12 with (first
        | (go_at_call 50; refine (HERR.out _ HG6.out.rd).mono ?_; rintro e wq ⟨rfl, rfl⟩)
        | (go_at_call 14; refine (HCK.out _).mono ?_; rintro e w8 ⟨rfl, hb8⟩; have HG8 := Lib.hid (HG6.out.below hb8); clear hb8))
      clear k0 k1 k2 k3
      obtain ⟨k0, k1, k2, k3⟩ := HBX.out _ HG8.out
      rw [hqs] at k2
      rw [hrs] at k3
      have r0 := rowCell HG8.out.rs 0 _ rfl
      have r1 := rowCell HG8.out.rs 1 _ rfl
      have r2 := rowCell HG8.out.rs 2 _ rfl
      have r3 := rowCell HG8.out.rs 3 _ rfl
      have rf : ∀ j, w8.frozen? ⟨w.heap.size, j, none⟩ = false := fun j => by simp [World.frozen?, HG8.out.rs]
      have rl : w.heap.size < w8.heap.size := (Array.getElem?_eq_some_iff.1 HG8.out.rs).1
      go_wp2
      obtain ⟨⟨A9, c9, D9, d9, hq9, hr9, hk9⟩, hbl9⟩ := HG8.out.fin (W2 := _) ((((Only.refl w.heap.size w8).set 0 (.int .i64 h)).set 1 (.string (strB pv))).set 2 (.slice QA E.length qc) |>.set 3 (.slice RA R.length rc0))
      rw [hqs] at hq9
      rw [hrs] at hr9
      injection hq9 with q1 q2 q3
      injection hr9 with q4 q5 q6
      subst q1 q3 q4 q6
      exact bodyPost_ret (v := .tuple #[.agg #[.int .i64 h, .string (strB pv), .slice QA E.length qc, .slice RA R.length rc0], .int .i64 0]) (by simp [results, Try.results26, go_sem, r0, r1, r2, r3, rl]) rfl (by rw [hb1, hb2]; exact ⟨QA, qc, RA, rc0, by simp only [agB, List.length_map], hk9, hbl9⟩)

structure MidB (b : Blk) : Prop where
  q : b.reqs.length ≤ 20
  r : b.ress.length ≤ 20
  p : b.prev.length ≤ 20000
  d : ∀ e ∈ b.reqs, e.2.length ≤ 20000
theorem MidB.sum {b : Blk} (h : MidB b) : (leavesB b).length ≤ 20 ∧ sumT (leavesB b) ≤ 500000 := by
  have h1 := leavesB_length b
  have h2 := h.q
  have h3 := sumT_le 20028 (leavesB b) (fun l hl => by
    obtain ⟨i, hi, rfl⟩ := List.getElem_of_mem hl
    obtain ⟨k1, k2, e⟩ := leavesB_at b i hi
    rw [e, leafB_length]
    have := h.d _ (List.getElem_mem k1)
    omega)
  have h4 : (20028 + 22) * (leavesB b).length ≤ 20050 * 20 := Nat.mul_le_mul_left _ (by omega)
  exact ⟨by omega, by omega⟩
theorem putB_len {b : Blk} (h : checkB b = 0) : (putB b).length = 16 + b.prev.length + (leavesB b).flatten.length := by
  unfold putB
  rw [if_pos h]
  simp [i8B_length, partB_length, be_length]
  omega
theorem mem_flat {ls : List (List UInt8)} {l : List UInt8} (h : l ∈ ls) : l.length ≤ ls.flatten.length := by
  induction ls with
  | nil => cases h
  | cons a t ih =>
    rw [List.flatten_cons, List.length_append]
    rcases List.mem_cons.1 h with rfl | h
    · omega
    · have := ih h; omega
theorem got_mid {x : List UInt8} (h : getBLE x = 0) (hx : x.length ≤ 10000) : MidB (getBL x) := by
  have hg : gotL x := by
    by_cases hg : gotL x
    · exact hg
    · unfold getBLE at h
      rw [if_neg hg] at h
      exact absurd h (by decide)
  have hp := getBL_ok h
  have hc : checkB (getBL x) = 0 := by
    unfold getBL
    rw [if_pos hg]
    exact hg.2
  obtain ⟨-, -, h3, h4⟩ := checkB_zero hc
  have hl := putB_len hc
  rw [hp] at hl
  refine ⟨by omega, by omega, by omega, fun e he => ?_⟩
  obtain ⟨i, hi, rfl⟩ := List.getElem_of_mem he
  have hi2 : i < (leavesB (getBL x)).length := by rw [leavesB_length]; omega
  obtain ⟨k1, k2, e⟩ := leavesB_at (getBL x) i hi2
  have := mem_flat (List.getElem_mem hi2)
  rw [e, leafB_length] at this
  omega
theorem few_put {b : Blk} (h : FewB b) : (putB b).length ≤ 20000 := by
  by_cases hc : checkB b = 0
  · have := putB_len hc
    have h1 := sum_flat (leavesB b)
    have h2 := h.sum.2
    have h3 := h.p
    omega
  · unfold putB
    rw [if_neg hc]
    exact Nat.zero_le _
set_option maxHeartbeats 2000000 in
theorem bLeaves2_any (b : Blk) (A : Option Addr) (c : Nat) (D : Option Addr) (d : Nat) (w : World) (h : BlkK w b A c D d) (hf : MidB b) : Calls Try.prog 32 #[agB b A c D d] w (BssP (leavesB b) w) := by
  have hq := h.q.2.2.2
  have hr := h.r.2.2.2
  have hs := hf.sum.1
  have hmin : min (b.reqs.length : Int) (b.ress.length : Int) = ((leavesB b).length : Int) := by rw [leavesB_length]; omega
  have hll : (leavesB b).length ≤ b.reqs.length ∧ (leavesB b).length ≤ b.ress.length := by rw [leavesB_length]; omega
  have hat := leavesB_at b
  have HQ := Lib.hid hq
  have HR := Lib.hid hr
  have HD := Lib.hid hf.d
  have HAT := Lib.hid hat
  have HB0 := Lib.hid (alloc1B w (.cells #[.int .i64 b.h, .string (strB b.prev), .slice A b.reqs.length c, .slice D b.ress.length d] 26))
  have HX0 := Lib.hid (heap_alloc_new w (.cells #[.int .i64 b.h, .string (strB b.prev), .slice A b.reqs.length c, .slice D b.ress.length d] 26))
  have hmk := fun (W : World) => run_make_row' (P := Try.prog) 60 29 (.slice none 0 0) 24 Try.underlying60 rowinfo rfl .i64 .i64 (leavesB b).length (by omega) (by omega) W
  have hn63 : (leavesB b).length ≤ 9223372036854775807 := by omega
  clear hq hr hat h hf
  generalize leavesB b = ls at *
  go_enter Try.func32, Try.ntmps32
  go_wp2
  have hm0 := World.rowIs_made (w.alloc (.cells #[.int .i64 b.h, .string (strB b.prev), .slice A b.reqs.length c, .slice D b.ress.length d] 26)) (.slice none 0 0) ls.length 29
  rw [show (w.alloc (.cells #[.int .i64 b.h, .string (strB b.prev), .slice A b.reqs.length c, .slice D b.ress.length d] 26)).heap.size = w.heap.size + 1 by simp] at hm0
  have HM0 := Lib.hid hm0
  clear hm0
  go_loopw [15] (fun i wr => ∃ (k : Nat) (xs : Nat → Value), k ≤ ls.length ∧ i = .int .i64 k ∧ wr.rowIs (w.heap.size + 1) 29 ls.length xs ∧ (∀ j (hj : j < ls.length), j < k → Bs wr (xs j) ls[j] ∧ (∀ g, (xs j).ownBlock = some g → g ≠ w.heap.size + 1)) ∧ Below w.heap.size w wr ∧ wr.heap[w.heap.size]? = some (.cells #[.int .i64 b.h, .string (strB b.prev), .slice A b.reqs.length c, .slice D b.ress.length d] 26 (0, 0))) (fun i _ => ls.length - (intOf i).toNat)
  case atStart => exact ⟨0, _, Nat.zero_le _, rfl, HM0.out, fun j hj h => absurd h (Nat.not_lt_zero _), bel2M HB0.out (alloc1B _ _), ((alloc1B _ _).block _ (by simp)).trans HX0.out⟩
  case round =>
    obtain ⟨k, xs, hk, rfl, hrow, hxs, hbel, hbox⟩ := hrel
    have HROW := Lib.hid hrow
    have HXS := Lib.hid hxs
    have HBEL := Lib.hid hbel
    have HBOX := Lib.hid hbox
    clear hrow hxs hbel hbox
    by_cases hlt : k < ls.length
    · have hltI : (k : Int) < (ls.length : Int) := by omega
      have hk1 : k < b.reqs.length := by omega
      have hk2 : k < b.ress.length := by omega
      have hk1I : (k : Int) < (b.reqs.length : Int) := by omega
      have hk2I : (k : Int) < (b.ress.length : Int) := by omega
      obtain ⟨ad, rfl, hbl, hq0⟩ := HQ.out k hk1
      obtain ⟨ae, rfl, hbe, hr0⟩ := HR.out k hk2
      have hq1 := hq0.below HBEL.out (by rw [block_add]; exact hbl)
      obtain ⟨c1, bv, c2, hbv⟩ := hq1
      have c3 := cellM HBEL.out (p := ae.add (k * 2)) (by rw [block_add]; exact hbe) hr0.1
      have c4 := cellM HBEL.out (p := ⟨(ae.add (k * 2)).block, (ae.add (k * 2)).off + 1, none⟩) (by rw [block_add]; exact hbe) hr0.2
      obtain ⟨_, _, hle⟩ := HAT.out k hlt
      have hlen := HD.out _ (List.getElem_mem hk1)
      generalize hreq : b.reqs[k] = rq at *
      generalize hres : b.ress[k] = rs at *
      obtain ⟨rq1, rq2⟩ := rq
      obtain ⟨rs1, rs2⟩ := rs
      have HLE := Lib.hid hle
      have HLEAF := Lib.hid (fun W (hb : Below wr.heap.size wr W) => bLeaf_any (rq1, rq2) (rs1, rs2) bv W (hbv.below hb (Nat.le_refl _)) (by have := hlen; simp only at this ⊢; omega))
      have HS := Lib.hid (show SRw ⟨w.heap.size, 2, none⟩ ⟨w.heap.size, 3, none⟩ (ad.add (k * 2)) ⟨(ad.add (k * 2)).block, (ad.add (k * 2)).off + 1, none⟩ (ae.add (k * 2)) ⟨(ae.add (k * 2)).block, (ae.add (k * 2)).off + 1, none⟩ (.slice (some ad) b.reqs.length c) (.slice (some ae) b.ress.length d) (.int .i64 rq1) bv (.int .i64 rs1) (.int .i64 rs2) wr from ⟨rowCell HBOX.out 2 _ rfl, rowCell HBOX.out 3 _ rfl, c1, c2, c3, c4⟩)
      have hbb : (ad.add (k * 2)).block < w.heap.size := by rw [block_add]; exact hbl
      have hbb2 : (ae.add (k * 2)).block < w.heap.size := by rw [block_add]; exact hbe
      have HNB := Lib.hid (And.intro hbb hbb2)
      clear hq0 hr0 c1 c2 c3 c4 hbv hle hlen hreq hres hbb hbb2
      simp only at HLEAF
      generalize leafB (rq1, rq2) (rs1, rs2) = lf at *
      have HDR := Lib.hid (show Below wr.heap.size wr wr.drew from (Below.refl _ _).drew)
      go_upto_region 5 with fail
      go_region_held3 (SRw ⟨w.heap.size, 2, none⟩ ⟨w.heap.size, 3, none⟩ (ad.add (k * 2)) ⟨(ad.add (k * 2)).block, (ad.add (k * 2)).off + 1, none⟩ (ae.add (k * 2)) ⟨(ae.add (k * 2)).block, (ae.add (k * 2)).off + 1, none⟩ (.slice (some ad) b.reqs.length c) (.slice (some ae) b.ress.length d) (.int .i64 rq1) bv (.int .i64 rs1) (.int .i64 rs2)) (first | exact HS.out.below HDR.out | exact HS.out.below HB2.out | exact (HS.out.below HB2.out).set (Nat.ne_of_lt (Nat.lt_succ_self _)) (Nat.ne_of_lt (Nat.lt_succ_self _)) (Nat.ne_of_lt (Nat.lt_succ_of_lt HNB.out.1)) (Nat.ne_of_lt (Nat.lt_succ_of_lt HNB.out.1)) (Nat.ne_of_lt (Nat.lt_succ_of_lt HNB.out.2)) (Nat.ne_of_lt (Nat.lt_succ_of_lt HNB.out.2))) (first
        | (go_at_call 10; refine (HLEAF.out _ HDR.out).mono ?_; rintro e w2 ⟨v2, rfl, ho2, hb2⟩; have HO2 := Lib.hid ho2; have HB2 := Lib.hid (bel2M HDR.out hb2); obtain ⟨A2, cc2, he2, -⟩ := (own_bs ho2).open; subst he2; have hrow2 := HROW.out.of_block (HB2.out.block _ HROW.out.lt); have hc2 := hrow2.cell hlt; have hf2 := hrow2.frozen k; have HROW2 := Lib.hid hrow2; clear ho2 hb2 hrow2))
      go_wp2
      go_roundw
      case rel =>
        have hz := HB2.out.size
        have hz2 := HBEL.out.size
        have hz3 := HROW.out.lt
        refine ⟨k + 1, fun j => if j = k then _ else xs j, by omega, by go_num, HROW2.out.set k _, fun j hj hjk => ?_, (bel2M HBEL.out HB2.out).setCell (by simp) _, ?_⟩
        · have hoff : ∀ g, (Value.slice A2 lf.length cc2).ownBlock = some g → g ≠ w.heap.size + 1 := fun g hg => by
            have h0 : wr.heap.size ≤ g := (HO2.out.lt g hg).1
            omega
          by_cases h : j = k
          · subst h
            simp only [if_pos]
            refine ⟨?_, hoff⟩
            rw [HLE.out]
            exact keepB (own_bs HO2.out) (by simp) (fun g hg => Go.Deep.blk_setCell_other _ _ _ _ (hoff g hg))
          · have h2 := HXS.out j hj (by omega)
            simp only [if_neg h]
            refine ⟨keepB (h2.1.below HB2.out (Nat.le_refl _)) (by simp) (fun g hg => Go.Deep.blk_setCell_other _ _ _ _ (h2.2 g hg)), h2.2⟩
        · rw [Go.Deep.blk_setCell_other _ _ _ _ (show w.heap.size ≠ w.heap.size + 1 by omega), HB2.out.block _ (by omega)]
          exact HBOX.out
      case measure => simp [intOf]; omega
    · obtain rfl : k = ls.length := by omega
      have hltI : ¬ (ls.length : Int) < (ls.length : Int) := by omega
      have hbs := bss_rowIs HROW.out (fun j hj => (HXS.out j hj hj).1) (by omega)
      go_wp2
      go_ret
      exact ⟨_, rfl, hbs, HBEL.out⟩
set_option maxHeartbeats 4000000 in
theorem bPut2_any (b : Blk) (A : Option Addr) (c : Nat) (D : Option Addr) (d : Nat) (w : World) (h : BlkK w b A c D d) (hf : MidB b) : Calls Try.prog 27 #[agB b A c D d] w (Puts w (putB b)) := by
  obtain ⟨i0, hi, hz0, hz1, hz2⟩ := info_parts u8info
  have x1 := heap_alloc_new w (.cells #[.int .i64 b.h, .string (strB b.prev), .slice A b.reqs.length c, .slice D b.ress.length d] 26)
  have HB0 := Lib.hid (alloc1B w (.cells #[.int .i64 b.h, .string (strB b.prev), .slice A b.reqs.length c, .slice D b.ress.length d] 26))
  have HX := Lib.hid x1
  have HC := Lib.hid (fun W => bCheck_any b A c D d W (by have := hf.q; unfold maxLen; omega) (by have := hf.r; unfold maxLen; omega))
  have HL := Lib.hid (fun W (hb : Below w.heap.size w W) => bLeaves2_any b A c D d W (h.below hb) hf)
  have hs := hf.sum
  have hfl := sum_flat (leavesB b)
  have HCC := Lib.hid (fun u W (hu : Bss W u (leavesB b)) => Concat_any u (leavesB b) W hu (by omega))
  have hp := hf.p
  have HC1 := Lib.hid (show b.prev.length ≤ maxLen by unfold maxLen; omega)
  by_cases hc : checkB b = 0
  case neg =>
    have hn : (checkB b != 0) = true := by simpa using hc
    have hpn : putB b = [] := if_neg hc
    rw [hpn]
    generalize checkB b = x at *
    clear hc h hf hs hfl hpn x1
    go_enter Try.func27, Try.ntmps27
    go_wp2_with (first
      | (go_at_call 14; refine (HC.out _).mono ?_; rintro e w1 ⟨rfl, hb1⟩; have HB1 := Lib.hid (bel2M HB0.out hb1); clear hb1))
    go_ret
    exact ⟨_, rfl, World.ownsRow_nil _ _ _ _, HB1.out⟩
  have hq4 := (checkB_zero hc).2.2.2
  rw [hc] at HC
  have hput : putB b = ((i8B b.h ++ partB b.prev) ++ be 4 b.reqs.length) ++ (leavesB b).flatten := by unfold putB; rw [if_pos hc]; simp only [List.append_assoc]
  have HP := Lib.hid (fun W k hk => putInt1_any b.h W 3 k hk)
  have HPB := Lib.hid (fun u v W (hu : Bs W u (i8B b.h)) (hv : Bs W v b.prev) => show Calls Try.prog 28 #[u, v] W (Puts W (i8B b.h ++ partB b.prev)) from by
    have := PutBytes_any u v (i8B b.h) b.prev W hu hv (by rw [i8B_length]; omega) (by omega)
    simpa [partB] using this)
  have HPC := Lib.hid (fun u W (hu : Bs W u (i8B b.h ++ partB b.prev)) => show Calls Try.prog 51 #[u, .int .i64 b.reqs.length] W (Puts W ((i8B b.h ++ partB b.prev) ++ be 4 b.reqs.length)) from by
    have h := PutCount_any u _ b.reqs.length W hu (by simp [i8B_length, partB_length]; omega) (by omega) (by omega)
    rwa [show (capC (b.reqs.length : Int)).toNat = b.reqs.length by unfold capC; omega] at h)
  have hle : ((i8B b.h ++ partB b.prev) ++ be 4 b.reqs.length).length + ((leavesB b).flatten.map bc).length ≤ maxLen ∧ (((i8B b.h ++ partB b.prev) ++ be 4 b.reqs.length).length + ((leavesB b).flatten.map bc).length) * 1 ≤ 140737488355328 := by
    simp only [List.length_append, i8B_length, partB_length, be_length, List.length_map]
    unfold maxLen
    omega
  have HLE := Lib.hid hle
  have HEND := Lib.hid hput
  clear hc h hf hs hfl hq4 hle hp x1
  generalize putB b = res at *
  clear hput
  generalize leavesB b = ls at *
  generalize ls.flatten = fl at *
  generalize i8B b.h ++ partB b.prev ++ be 4 b.reqs.length = l3 at *
  generalize i8B b.h ++ partB b.prev = l2 at *
  generalize i8B b.h = l1 at *
  go_enter Try.func27, Try.ntmps27
  go_wp2_with (first
    | (go_at_call 14; refine (HC.out _).mono ?_; rintro e w1 ⟨rfl, hb1⟩; have HB1 := Lib.hid (bel2M HB0.out hb1); have HX1 := Lib.hid (heapB HX.out hb1); clear hb1))
  have HK := Lib.hid (show ∀ W, Below w1.heap.size w1 W → (fun W => W.cell? ⟨w.heap.size, 0, none⟩ = some (.int .i64 b.h) ∧ W.cell? ⟨w.heap.size, 1, none⟩ = some (.string (strB b.prev))) W from fun W h => ⟨cellB (rowCell HX1.out 0 _ rfl) h, cellB (rowCell HX1.out 1 _ rfl) h⟩)
  have HBC := Lib.hid (show Below w1.heap.size w1 w1.drew from (Below.refl _ _).drew)
  refine wp_region_held_drew (S := (fun W => W.cell? ⟨w.heap.size, 0, none⟩ = some (.int .i64 b.h) ∧ W.cell? ⟨w.heap.size, 1, none⟩ = some (.string (strB b.prev)))) (by kernel_rfl) (HK.out _ HBC.out) (fun hHeld => ?_)
  refine tk 0 ?_
  (try simp only [Act.put, sA, sB, sC])
  refine tk 1 ?_
  (try simp only [Act.put, sA, sB, sC])
  refine tk 4 ?_
  (try simp only [Act.put, sA, sB, sC])
  refine tk 5 ?_
  (try simp only [Act.put, sA, sB, sC])
  refine wpAnyH_norm (fuel' := 5) (listed' := #[true, true, false, false, true, true, false, false, false]) (by kernel_rfl) (by kernel_rfl) ?_
  refine wpAnyH_name (fun G hG => ?_)
  clear hHeld
  have st_2_3_6_7 : ∀ (g1 : Nat) (A1 : Option Addr) (c1 : Nat) (C1A : Option Addr) (C1c : Nat) (A2 : Option Addr) (c2 : Nat) (W : World) (HBC : Hid (Below w1.heap.size w1 W)) (G1 : Hid (W.heap[g1]? = some (.cells #[.int .i64 b.h] 3 (0, 0)))) (F1 : Hid (Bs W (.slice A1 l1.length c1) l1)) (C1 : Hid (Bs W (.slice C1A b.prev.length C1c) b.prev)) (F2 : Hid (W.ownsRow w.heap.size 5 1 (.slice A2 l2.length c2) l2.length (l2.map bc))), G 1 #[true, true, true, true, true, true, true, true, false] ⟨#[agB b A c D d, .pointer (some ⟨w.heap.size, 0, none⟩), .slice none 0 0, undef, agB b A c D d, .int .i64 0, .bool false, .pointer (some ⟨w.heap.size, 0, none⟩), .int .i64 b.h, .slice (some ⟨g1, 0, none⟩) 1 1, .slice A1 l1.length c1, .pointer (some ⟨w.heap.size, 1, none⟩), .string (strB b.prev), .slice C1A b.prev.length C1c, .slice A2 l2.length c2, undef, undef, undef, undef, undef, undef, undef, undef, undef, undef], []⟩ W := by
    intro g1 A1 c1 C1A C1c A2 c2 W HBC G1 F1 C1 F2
    rw [hG]
    have hHeld : ((fun W => W.cell? ⟨w.heap.size, 0, none⟩ = some (.int .i64 b.h) ∧ W.cell? ⟨w.heap.size, 1, none⟩ = some (.string (strB b.prev)))) W := HK.out _ HBC.out
    refine wpAnyH_ready (rs := [8]) (by kernel_rfl) (by simp) ?_
    refine AllReadyH.cons (o := ?o5) ?g5 (fun K hK => ?j5) AllReadyH.nil
    case g5 => (simp only [gA, gB, gC]; rfl)
    case j5 =>
      go_simp
      refine hK.out _ _ (by (try dsimp only); exact hHeld) (fun _ => ?_)
      (try simp only [Act.put, sA, sB, sC])
      refine wpAnyH_done (by kernel_rfl) ?_ _
      have hx0 := heapB HX1.out HBC.out
      have e2 := rowCell hx0 2 _ rfl
      clear hx0
      go_wp2_with (first
        | (go_at_call 51; refine (HPC.out _ _ (own_bs F2.out)).mono ?_; rintro e w3 ⟨v3, rfl, ho3, hb3⟩; obtain ⟨A3, c3, rfl, -⟩ := (own_bs ho3).open; have HB3 := Lib.hid (bel2M (bel2M HB1.out HBC.out) hb3); have HO3 := Lib.hid (own_mono ho3 (bel2M HB1.out HBC.out).size); have hxx := heapB (heapB HX1.out HBC.out) hb3; have d0 := rowCell hxx 0 _ rfl; have d1 := rowCell hxx 1 _ rfl; have d2 := rowCell hxx 2 _ rfl; have d3 := rowCell hxx 3 _ rfl; clear ho3 hb3 hxx)
        | (go_at_call 32; refine (HL.out _ HB3.out).mono ?_; rintro e w4 ⟨v4, rfl, hv4, hb4⟩; have HV4 := Lib.hid hv4; have HB4 := Lib.hid (bel2M HB3.out hb4); have HO4 := Lib.hid (own_belowM HO3.out hb4); clear hv4 hb4)
        | (go_at_call 52; refine (HCC.out _ _ HV4.out).mono ?_; rintro e w5 ⟨v5, rfl, ho5, hb5⟩; have HB5 := Lib.hid (bel2M HB4.out hb5); have HO5 := Lib.hid (own_belowM HO4.out hb5); have HV5 := Lib.hid (own_bs ho5); clear ho5 hb5)
        | (at_builtin; refine wpList_append_rd _ rfl _ _ 29 rfl w.heap.size 5 i0 (.int .u8 0) 1 Try.underlying29 hi hz0 hz1 hz2 rfl _ _ _ rfl HO5.out _ _ rfl HV5.out (bc_one _) HLE.out.1 HLE.out.2 HB5.out.size ?_; intro v6 w6 hown6 hgr6; have HB6 := Lib.hid (HB5.out.grown hgr6 HB5.out.size (fun k hk => (HO5.out.lt k hk).1)); rw [← List.map_append, List.length_map, ← List.length_append, ← HEND.out] at hown6))
      go_ret
      exact ⟨_, rfl, hown6, HB6.out⟩
  have st_2_3_6 : ∀ (g1 : Nat) (A1 : Option Addr) (c1 : Nat) (C1A : Option Addr) (C1c : Nat) (W : World) (HBC : Hid (Below w1.heap.size w1 W)) (G1 : Hid (W.heap[g1]? = some (.cells #[.int .i64 b.h] 3 (0, 0)))) (F1 : Hid (Bs W (.slice A1 l1.length c1) l1)) (C1 : Hid (Bs W (.slice C1A b.prev.length C1c) b.prev)), G 2 #[true, true, true, true, true, true, true, false, false] ⟨#[agB b A c D d, .pointer (some ⟨w.heap.size, 0, none⟩), .slice none 0 0, undef, agB b A c D d, .int .i64 0, .bool false, .pointer (some ⟨w.heap.size, 0, none⟩), .int .i64 b.h, .slice (some ⟨g1, 0, none⟩) 1 1, .slice A1 l1.length c1, .pointer (some ⟨w.heap.size, 1, none⟩), .string (strB b.prev), .slice C1A b.prev.length C1c, undef, undef, undef, undef, undef, undef, undef, undef, undef, undef, undef], []⟩ W := by
    intro g1 A1 c1 C1A C1c W HBC G1 F1 C1
    rw [hG]
    have hHeld : ((fun W => W.cell? ⟨w.heap.size, 0, none⟩ = some (.int .i64 b.h) ∧ W.cell? ⟨w.heap.size, 1, none⟩ = some (.string (strB b.prev)))) W := HK.out _ HBC.out
    refine wpAnyH_ready (rs := [7]) (by kernel_rfl) (by simp) ?_
    refine AllReadyH.cons (o := ?o6) ?g6 (fun K hK => ?j6) AllReadyH.nil
    case g6 => (simp only [gA, gB, gC]; rfl)
    case j6 =>
      go_simp
      (go_at_call 28; refine (HPB.out _ _ _ F1.out C1.out).mono ?_)
      rintro e wa ⟨va, rfl, hoa, hbm⟩
      obtain ⟨A2, c2, rfl, -⟩ := (own_bs hoa).open
      have F2 := Lib.hid (own_mono hoa (bel2M HB1.out HBC.out).size)
      refine hK.out _ _ (by (try dsimp only); exact HK.out _ (bel2M HBC.out hbm)) (fun _ => ?_)
      (try simp only [Act.put, sA, sB, sC])
      refine wpAnyH_norm (fuel' := 1) (listed' := #[true, true, true, true, true, true, true, true, false]) (by kernel_rfl) (by kernel_rfl) ?_
      have hst := st_2_3_6_7 g1 A1 c1 C1A C1c A2 c2 _ (Lib.hid (bel2M HBC.out hbm)) (Lib.hid (heapB G1.out hbm)) (Lib.hid (F1.out.below hbm (Nat.le_refl _))) (Lib.hid (C1.out.below hbm (Nat.le_refl _))) F2
      rw [hG] at hst
      exact hst
  have st_2_6 : ∀ (g1 : Nat) (C1A : Option Addr) (C1c : Nat) (W : World) (HBC : Hid (Below w1.heap.size w1 W)) (G1 : Hid (W.heap[g1]? = some (.cells #[.int .i64 b.h] 3 (0, 0)))) (C1 : Hid (Bs W (.slice C1A b.prev.length C1c) b.prev)), G 3 #[true, true, true, false, true, true, true, false, false] ⟨#[agB b A c D d, .pointer (some ⟨w.heap.size, 0, none⟩), .slice none 0 0, undef, agB b A c D d, .int .i64 0, .bool false, .pointer (some ⟨w.heap.size, 0, none⟩), .int .i64 b.h, .slice (some ⟨g1, 0, none⟩) 1 1, undef, .pointer (some ⟨w.heap.size, 1, none⟩), .string (strB b.prev), .slice C1A b.prev.length C1c, undef, undef, undef, undef, undef, undef, undef, undef, undef, undef, undef], []⟩ W := by
    intro g1 C1A C1c W HBC G1 C1
    rw [hG]
    have hHeld : ((fun W => W.cell? ⟨w.heap.size, 0, none⟩ = some (.int .i64 b.h) ∧ W.cell? ⟨w.heap.size, 1, none⟩ = some (.string (strB b.prev)))) W := HK.out _ HBC.out
    refine wpAnyH_ready (rs := [3]) (by kernel_rfl) (by simp) ?_
    refine AllReadyH.cons (o := ?o7) ?g7 (fun K hK => ?j7) AllReadyH.nil
    case g7 => (simp only [gA, gB, gC]; rfl)
    case j7 =>
      go_simp
      (go_at_call 29; refine (HP.out _ _ G1.out).mono ?_)
      rintro e wa ⟨va, rfl, hoa, hbm⟩
      obtain ⟨A1, c1, rfl, -⟩ := (own_bs hoa).open
      have F1 := Lib.hid (own_bs hoa)
      refine hK.out _ _ (by (try dsimp only); exact HK.out _ (bel2M HBC.out hbm)) (fun _ => ?_)
      (try simp only [Act.put, sA, sB, sC])
      refine wpAnyH_norm (fuel' := 2) (listed' := #[true, true, true, true, true, true, true, false, false]) (by kernel_rfl) (by kernel_rfl) ?_
      have hst := st_2_3_6 g1 A1 c1 C1A C1c _ (Lib.hid (bel2M HBC.out hbm)) (Lib.hid (heapB G1.out hbm)) F1 (Lib.hid (C1.out.below hbm (Nat.le_refl _)))
      rw [hG] at hst
      exact hst
  have st_2_3 : ∀ (g1 : Nat) (A1 : Option Addr) (c1 : Nat) (W : World) (HBC : Hid (Below w1.heap.size w1 W)) (G1 : Hid (W.heap[g1]? = some (.cells #[.int .i64 b.h] 3 (0, 0)))) (F1 : Hid (Bs W (.slice A1 l1.length c1) l1)), G 3 #[true, true, true, true, true, true, false, false, false] ⟨#[agB b A c D d, .pointer (some ⟨w.heap.size, 0, none⟩), .slice none 0 0, undef, agB b A c D d, .int .i64 0, .bool false, .pointer (some ⟨w.heap.size, 0, none⟩), .int .i64 b.h, .slice (some ⟨g1, 0, none⟩) 1 1, .slice A1 l1.length c1, .pointer (some ⟨w.heap.size, 1, none⟩), .string (strB b.prev), undef, undef, undef, undef, undef, undef, undef, undef, undef, undef, undef, undef], []⟩ W := by
    intro g1 A1 c1 W HBC G1 F1
    rw [hG]
    have hHeld : ((fun W => W.cell? ⟨w.heap.size, 0, none⟩ = some (.int .i64 b.h) ∧ W.cell? ⟨w.heap.size, 1, none⟩ = some (.string (strB b.prev)))) W := HK.out _ HBC.out
    refine wpAnyH_ready (rs := [6]) (by kernel_rfl) (by simp) ?_
    refine AllReadyH.cons (o := ?o8) ?g8 (fun K hK => ?j8) AllReadyH.nil
    case g8 => (simp only [gA, gB, gC]; rfl)
    case j8 =>
      refine step_conv rfl _ 22 29 rfl _ Try.underlying22 Try.underlying29 Try.underlying5 b.prev rfl (HC1.out) ?_
      intro C1A C1c w' hcs hbm
      have C1 := Lib.hid hcs
      refine hK.out _ _ (by (try dsimp only); exact HK.out _ (bel2M HBC.out hbm)) (fun _ => ?_)
      (try simp only [Act.put, sA, sB, sC])
      refine wpAnyH_norm (fuel' := 2) (listed' := #[true, true, true, true, true, true, true, false, false]) (by kernel_rfl) (by kernel_rfl) ?_
      have hst := st_2_3_6 g1 A1 c1 C1A C1c _ (Lib.hid (bel2M HBC.out hbm)) (Lib.hid (heapB G1.out hbm)) (Lib.hid (F1.out.below hbm (Nat.le_refl _))) C1
      rw [hG] at hst
      exact hst
  have st_6 : ∀ (C1A : Option Addr) (C1c : Nat) (W : World) (HBC : Hid (Below w1.heap.size w1 W)) (C1 : Hid (Bs W (.slice C1A b.prev.length C1c) b.prev)), G 4 #[true, true, false, false, true, true, true, false, false] ⟨#[agB b A c D d, .pointer (some ⟨w.heap.size, 0, none⟩), .slice none 0 0, undef, agB b A c D d, .int .i64 0, .bool false, .pointer (some ⟨w.heap.size, 0, none⟩), .int .i64 b.h, undef, undef, .pointer (some ⟨w.heap.size, 1, none⟩), .string (strB b.prev), .slice C1A b.prev.length C1c, undef, undef, undef, undef, undef, undef, undef, undef, undef, undef, undef], []⟩ W := by
    intro C1A C1c W HBC C1
    rw [hG]
    have hHeld : ((fun W => W.cell? ⟨w.heap.size, 0, none⟩ = some (.int .i64 b.h) ∧ W.cell? ⟨w.heap.size, 1, none⟩ = some (.string (strB b.prev)))) W := HK.out _ HBC.out
    refine wpAnyH_ready (rs := [2]) (by kernel_rfl) (by simp) ?_
    refine AllReadyH.cons (o := ?o9) ?g9 (fun K hK => ?j9) AllReadyH.nil
    case g9 => (simp only [gA, gB, gC]; rfl)
    case j9 =>
      refine step_built rfl 84 1 _ rfl #[.int .i64 b.h] 3 (fun W => by go_simp) ?_
      intro g1 w' hg hbm hge
      have G1 := Lib.hid hg
      refine hK.out _ _ (by (try dsimp only); exact HK.out _ (bel2M HBC.out hbm)) (fun _ => ?_)
      (try simp only [Act.put, sA, sB, sC])
      refine wpAnyH_norm (fuel' := 3) (listed' := #[true, true, true, false, true, true, true, false, false]) (by kernel_rfl) (by kernel_rfl) ?_
      have hst := st_2_6 g1 C1A C1c _ (Lib.hid (bel2M HBC.out hbm)) G1 (Lib.hid (C1.out.below hbm (Nat.le_refl _)))
      rw [hG] at hst
      exact hst
  have st_2 : ∀ (g1 : Nat) (W : World) (HBC : Hid (Below w1.heap.size w1 W)) (G1 : Hid (W.heap[g1]? = some (.cells #[.int .i64 b.h] 3 (0, 0)))), G 4 #[true, true, true, false, true, true, false, false, false] ⟨#[agB b A c D d, .pointer (some ⟨w.heap.size, 0, none⟩), .slice none 0 0, undef, agB b A c D d, .int .i64 0, .bool false, .pointer (some ⟨w.heap.size, 0, none⟩), .int .i64 b.h, .slice (some ⟨g1, 0, none⟩) 1 1, undef, .pointer (some ⟨w.heap.size, 1, none⟩), .string (strB b.prev), undef, undef, undef, undef, undef, undef, undef, undef, undef, undef, undef, undef], []⟩ W := by
    intro g1 W HBC G1
    rw [hG]
    have hHeld : ((fun W => W.cell? ⟨w.heap.size, 0, none⟩ = some (.int .i64 b.h) ∧ W.cell? ⟨w.heap.size, 1, none⟩ = some (.string (strB b.prev)))) W := HK.out _ HBC.out
    refine wpAnyH_ready (rs := [3, 6]) (by kernel_rfl) (by simp) ?_
    refine AllReadyH.cons (o := ?o10) ?g10 (fun K hK => ?j10) (AllReadyH.cons (o := ?o11) ?g11 (fun K hK => ?j11) AllReadyH.nil)
    case g10 => (simp only [gA, gB, gC]; rfl)
    case g11 => (simp only [gA, gB, gC]; rfl)
    case j10 =>
      go_simp
      (go_at_call 29; refine (HP.out _ _ G1.out).mono ?_)
      rintro e wa ⟨va, rfl, hoa, hbm⟩
      obtain ⟨A1, c1, rfl, -⟩ := (own_bs hoa).open
      have F1 := Lib.hid (own_bs hoa)
      refine hK.out _ _ (by (try dsimp only); exact HK.out _ (bel2M HBC.out hbm)) (fun _ => ?_)
      (try simp only [Act.put, sA, sB, sC])
      refine wpAnyH_norm (fuel' := 3) (listed' := #[true, true, true, true, true, true, false, false, false]) (by kernel_rfl) (by kernel_rfl) ?_
      have hst := st_2_3 g1 A1 c1 _ (Lib.hid (bel2M HBC.out hbm)) (Lib.hid (heapB G1.out hbm)) F1
      rw [hG] at hst
      exact hst
    case j11 =>
      refine step_conv rfl _ 22 29 rfl _ Try.underlying22 Try.underlying29 Try.underlying5 b.prev rfl (HC1.out) ?_
      intro C1A C1c w' hcs hbm
      have C1 := Lib.hid hcs
      refine hK.out _ _ (by (try dsimp only); exact HK.out _ (bel2M HBC.out hbm)) (fun _ => ?_)
      (try simp only [Act.put, sA, sB, sC])
      refine wpAnyH_norm (fuel' := 3) (listed' := #[true, true, true, false, true, true, true, false, false]) (by kernel_rfl) (by kernel_rfl) ?_
      have hst := st_2_6 g1 C1A C1c _ (Lib.hid (bel2M HBC.out hbm)) (Lib.hid (heapB G1.out hbm)) C1
      rw [hG] at hst
      exact hst
  have st : ∀  (W : World) (HBC : Hid (Below w1.heap.size w1 W)) , G 5 #[true, true, false, false, true, true, false, false, false] ⟨#[agB b A c D d, .pointer (some ⟨w.heap.size, 0, none⟩), .slice none 0 0, undef, agB b A c D d, .int .i64 0, .bool false, .pointer (some ⟨w.heap.size, 0, none⟩), .int .i64 b.h, undef, undef, .pointer (some ⟨w.heap.size, 1, none⟩), .string (strB b.prev), undef, undef, undef, undef, undef, undef, undef, undef, undef, undef, undef, undef], []⟩ W := by
    intro  W HBC 
    rw [hG]
    have hHeld : ((fun W => W.cell? ⟨w.heap.size, 0, none⟩ = some (.int .i64 b.h) ∧ W.cell? ⟨w.heap.size, 1, none⟩ = some (.string (strB b.prev)))) W := HK.out _ HBC.out
    refine wpAnyH_ready (rs := [2, 6]) (by kernel_rfl) (by simp) ?_
    refine AllReadyH.cons (o := ?o12) ?g12 (fun K hK => ?j12) (AllReadyH.cons (o := ?o13) ?g13 (fun K hK => ?j13) AllReadyH.nil)
    case g12 => (simp only [gA, gB, gC]; rfl)
    case g13 => (simp only [gA, gB, gC]; rfl)
    case j12 =>
      refine step_built rfl 84 1 _ rfl #[.int .i64 b.h] 3 (fun W => by go_simp) ?_
      intro g1 w' hg hbm hge
      have G1 := Lib.hid hg
      refine hK.out _ _ (by (try dsimp only); exact HK.out _ (bel2M HBC.out hbm)) (fun _ => ?_)
      (try simp only [Act.put, sA, sB, sC])
      refine wpAnyH_norm (fuel' := 4) (listed' := #[true, true, true, false, true, true, false, false, false]) (by kernel_rfl) (by kernel_rfl) ?_
      have hst := st_2 g1 _ (Lib.hid (bel2M HBC.out hbm)) G1
      rw [hG] at hst
      exact hst
    case j13 =>
      refine step_conv rfl _ 22 29 rfl _ Try.underlying22 Try.underlying29 Try.underlying5 b.prev rfl (HC1.out) ?_
      intro C1A C1c w' hcs hbm
      have C1 := Lib.hid hcs
      refine hK.out _ _ (by (try dsimp only); exact HK.out _ (bel2M HBC.out hbm)) (fun _ => ?_)
      (try simp only [Act.put, sA, sB, sC])
      refine wpAnyH_norm (fuel' := 4) (listed' := #[true, true, false, false, true, true, true, false, false]) (by kernel_rfl) (by kernel_rfl) ?_
      have hst := st_6 C1A C1c _ (Lib.hid (bel2M HBC.out hbm)) C1
      rw [hG] at hst
      exact hst
  exact st _ (Lib.hid (HBC.out))

end Go.Proofs.Ytoedjlknhhddfaa

namespace Go.Proofs.Ytoedjlknhhddfaa
open Go.RowKit Go.ChangeShapes Go.WideShapes Go.ChangeAt
set_option linter.unusedVariables false
set_option linter.unusedSimpArgs false
set_option maxRecDepth 20000

theorem rSame3_any (e f : Int × List UInt8) (bv cv : Value) (w : World) (hb : Bs w bv e.2) (hc : Bs w cv f.2) : Calls Try.prog 72 #[agE e.1 bv, agE f.1 cv] w (AskB (decide (e = f)) w) := by
  obtain ⟨A, c, rfl, -⟩ := hb.open
  obtain ⟨D, d, rfl, -⟩ := hc.open
  obtain ⟨s, l⟩ := e
  obtain ⟨t, m⟩ := f
  simp only at hb hc ⊢
  obtain ⟨x1, x2, x3⟩ := box2B w #[.int .i64 s, .slice A l.length c] #[.int .i64 t, .slice D m.length d] 32 32
  have HS := Lib.hid (fun W (h : Below w.heap.size w W) => Same_any _ _ l m W (hb.below h (Nat.le_refl _)) (hc.below h (Nat.le_refl _)))
  have HB := Lib.hid x3
  have HX1 := Lib.hid x1
  have HX2 := Lib.hid x2
  clear x1 x2 x3 hb hc
  by_cases hst : s = t
  · have e1 : (s == t) = true := by simpa using hst
    have hd : decide ((s, l) = (t, m)) = decide (l = m) := by simp [hst]
    rw [hd]
    have HE := Lib.hid (show (l == m) = decide (l = m) by rw [Bool.eq_iff_iff]; simp)
    clear hst hd
    go_enter Try.func72, Try.ntmps72
    go_wp2_with (go_at_call 9; refine (HS.out _ HB.out).mono ?_; rintro e w1 ⟨rfl, rfl⟩)
    go_ret
    exact ⟨by rw [← HE.out]; rfl, HB.out⟩
  · have e1 : (s == t) = false := by simpa using hst
    have hd : decide ((s, l) = (t, m)) = false := by simp [hst]
    rw [hd]
    clear hst hd
    go_enter Try.func72, Try.ntmps72
    go_wp2
    go_ret
    exact ⟨rfl, HB.out⟩
abbrev SA4 (p1 p2 p3 p4 : Addr) (v1 v2 v3 v4 : Value) : World → Prop := fun W => W.cell? p1 = some v1 ∧ W.cell? p2 = some v2 ∧ W.cell? p3 = some v3 ∧ W.cell? p4 = some v4
theorem SA4.below {p1 p2 p3 p4 : Addr} {v1 v2 v3 v4 : Value} {W W' : World} (h : SA4 p1 p2 p3 p4 v1 v2 v3 v4 W) (hb : Below W.heap.size W W') : SA4 p1 p2 p3 p4 v1 v2 v3 v4 W' := ⟨cellB h.1 hb, cellB h.2.1 hb, cellB h.2.2.1 hb, cellB h.2.2.2 hb⟩
set_option maxHeartbeats 1000000 in
theorem rAll3_any (ls ms : List (Int × List UInt8)) (A : Option Addr) (c : Nat) (D : Option Addr) (d : Nat) (w : World) (hl : EnvK w A c ls) (hm : EnvK w D d ms) : Calls Try.prog 42 #[.slice A ls.length c, .slice D ms.length d] w (AskB (decide (ls = ms)) w) := by
  have key : ∀ x, decide (ls = ms) = x → Calls Try.prog 42 #[.slice A ls.length c, .slice D ms.length d] w (AskB x w) → Calls Try.prog 42 #[.slice A ls.length c, .slice D ms.length d] w (AskB (decide (ls = ms)) w) := fun x h hc => by rw [h]; exact hc
  have hm1 : ls.length ≤ maxLen := Nat.le_trans hl.1 hl.2.1
  unfold maxLen at hm1
  by_cases hn : ls.length = ms.length
  case neg =>
    have e1 : ((ls.length : Int) != (ms.length : Int)) = true := by simp; omega
    refine key false (by simp; intro h; exact hn (by rw [h])) ?_
    clear hn hl hm key
    go_enter Try.func42, Try.ntmps42
    go_wp2
    go_ret
    exact ⟨rfl, Below.refl _ _⟩
  have e1 : ((ls.length : Int) != (ms.length : Int)) = false := by simp; omega
  have HL := Lib.hid hl.2.2.2
  have HM := Lib.hid hm.2.2.2
  have HY := Lib.hid (fun (h : ls.take ls.length = ms.take ls.length) => show decide (ls = ms) = true by rw [List.take_length, hn, List.take_length] at h; simpa using h)
  have HN := Lib.hid (fun (k : Nat) (h1 : k < ls.length) (h2 : k < ms.length) (h : ls[k] ≠ ms[k]) => show decide (ls = ms) = false by simp; rintro rfl; exact h rfl)
  have HT := Lib.hid (fun (k : Nat) (h1 : k < ls.length) (h2 : k < ms.length) (h : ls[k] = ms[k]) (ht : ls.take k = ms.take k) => show ls.take (k + 1) = ms.take (k + 1) by rw [List.take_succ_eq_append_getElem h1, List.take_succ_eq_append_getElem h2, h, ht])
  have HNL := Lib.hid hn
  clear key hl hm hn
  generalize decide (ls = ms) = res at *
  go_enter Try.func42, Try.ntmps42
  go_wp2
  clear e1
  go_loopw [5] (fun i wr => ∃ k : Nat, k ≤ ls.length ∧ i = .int .i64 k ∧ ls.take k = ms.take k ∧ Below w.heap.size w wr) (fun i _ => ls.length - (intOf i).toNat)
  case atStart => exact ⟨0, Nat.zero_le _, rfl, rfl, Below.refl _ _⟩
  case round =>
    obtain ⟨k, hk, rfl, htk, hbel⟩ := hrel
    have HTK := Lib.hid htk
    have HBE := Lib.hid hbel
    clear htk hbel
    by_cases hlt : k < ls.length
    · have hlt2 : k < ms.length := by have := HNL.out; omega
      have hltI : (k : Int) < (ls.length : Int) := by omega
      have hltJ : (k : Int) < (ms.length : Int) := by omega
      obtain ⟨ad, rfl, hbl, hq⟩ := HL.out k hlt
      obtain ⟨ae, rfl, hbe, hr⟩ := HM.out k hlt2
      obtain ⟨c1, bv, c2, hbv⟩ := hq.below HBE.out (by rw [block_add]; exact hbl)
      obtain ⟨c3, bw, c4, hbw⟩ := hr.below HBE.out (by rw [block_add]; exact hbe)
      have HT1 := Lib.hid (HT.out k hlt hlt2)
      have HN1 := Lib.hid (HN.out k hlt hlt2)
      clear hq hr
      generalize ls[k] = x at *
      generalize ms[k] = y at *
      have HS := Lib.hid (show SA4 (ad.add (k * 2)) ⟨(ad.add (k * 2)).block, (ad.add (k * 2)).off + 1, none⟩ (ae.add (k * 2)) ⟨(ae.add (k * 2)).block, (ae.add (k * 2)).off + 1, none⟩ (.int .i64 x.1) bv (.int .i64 y.1) bw wr from ⟨c1, c2, c3, c4⟩)
      have HC := Lib.hid (fun W (h : Below wr.heap.size wr W) => rSame3_any x y bv bw W (hbv.below h (Nat.le_refl _)) (hbw.below h (Nat.le_refl _)))
      have HDR := Lib.hid (show Below wr.heap.size wr wr.drew from (Below.refl _ _).drew)
      clear c1 c2 c3 c4 hbv hbw
      by_cases hxy : x = y
      · rw [decide_eq_true hxy] at HC
        have HXY := Lib.hid hxy
        clear hxy
        go_upto_region 6 with fail
        go_region_held3 (SA4 (ad.add (k * 2)) ⟨(ad.add (k * 2)).block, (ad.add (k * 2)).off + 1, none⟩ (ae.add (k * 2)) ⟨(ae.add (k * 2)).block, (ae.add (k * 2)).off + 1, none⟩ (.int .i64 x.1) bv (.int .i64 y.1) bw) (first | exact HS.out.below HDR.out | exact HS.out.below HB2.out) (first
          | (go_at_call 72; refine (HC.out _ HDR.out).mono ?_; rintro e w2 ⟨rfl, hb2⟩; have HB2 := Lib.hid (bel2M HDR.out hb2); clear hb2))
        go_wp2
        go_roundw
        case rel => exact ⟨k + 1, by omega, by go_num, HT1.out HXY.out HTK.out, bel2M HBE.out HB2.out⟩
        case measure => simp [intOf]; omega
      · rw [decide_eq_false hxy] at HC
        have HF := Lib.hid (HN1.out hxy)
        clear hxy
        go_upto_region 6 with fail
        go_region_held3 (SA4 (ad.add (k * 2)) ⟨(ad.add (k * 2)).block, (ad.add (k * 2)).off + 1, none⟩ (ae.add (k * 2)) ⟨(ae.add (k * 2)).block, (ae.add (k * 2)).off + 1, none⟩ (.int .i64 x.1) bv (.int .i64 y.1) bw) (first | exact HS.out.below HDR.out | exact HS.out.below HB2.out) (first
          | (go_at_call 72; refine (HC.out _ HDR.out).mono ?_; rintro e w2 ⟨rfl, hb2⟩; have HB2 := Lib.hid (bel2M HDR.out hb2); clear hb2))
        go_wp2
        go_ret
        exact ⟨by rw [HF.out]; rfl, bel2M HBE.out HB2.out⟩
    · obtain rfl : k = ls.length := by omega
      have hltI : ¬ ((ls.length : Nat) : Int) < (ls.length : Int) := by omega
      have HF := Lib.hid (HY.out HTK.out)
      go_wp2
      go_ret
      exact ⟨by rw [HF.out]; rfl, HBE.out⟩
def sameB (a b : Blk) : Bool := decide (a.h = b.h ∧ a.prev = b.prev ∧ a.reqs = b.reqs ∧ a.ress = b.ress)
theorem sameB_iff (a b : Blk) : sameB a b = true ↔ a = b := by
  obtain ⟨_, _, _, _⟩ := a
  obtain ⟨_, _, _, _⟩ := b
  simp [sameB]
set_option maxHeartbeats 2000000 in
theorem rSameB_any (a b : Blk) (A : Option Addr) (c : Nat) (D : Option Addr) (d : Nat) (A2 : Option Addr) (c2 : Nat) (D2 : Option Addr) (d2 : Nat) (w : World) (ha : BlkK w a A c D d) (hb : BlkK w b A2 c2 D2 d2) : Calls Try.prog 25 #[agB a A c D d, agB b A2 c2 D2 d2] w (AskB (sameB a b) w) := by
  obtain ⟨x1, x2, x3⟩ := box2B w #[.int .i64 a.h, .string (strB a.prev), .slice A a.reqs.length c, .slice D a.ress.length d] #[.int .i64 b.h, .string (strB b.prev), .slice A2 b.reqs.length c2, .slice D2 b.ress.length d2] 26 26
  have HQ := Lib.hid (fun W (h : Below w.heap.size w W) => rAll3_any a.reqs b.reqs A c A2 c2 W (ha.q.below h) (hb.q.below h))
  have HL := Lib.hid ha.r.2.2.2
  have HM := Lib.hid hb.r.2.2.2
  have hm1 : a.ress.length ≤ maxLen := Nat.le_trans ha.r.1 ha.r.2.1
  unfold maxLen at hm1
  have HB := Lib.hid x3
  have HX1 := Lib.hid x1
  have HX2 := Lib.hid x2
  clear ha hb x1 x2 x3
  obtain ⟨ah, ap, aq, ar⟩ := a
  obtain ⟨bh, bp, bq, br⟩ := b
  simp only at *
  have hsb : sameB ⟨ah, ap, aq, ar⟩ ⟨bh, bp, bq, br⟩ = decide (ah = bh ∧ ap = bp ∧ aq = bq ∧ ar = br) := rfl
  by_cases h1 : ah = bh
  case neg =>
    have e1 : (ah != bh) = true := by simpa using h1
    rw [hsb, decide_eq_false (fun h => h1 h.1)]
    clear h1 hsb
    go_enter Try.func25, Try.ntmps25
    go_wp2
    go_ret
    exact ⟨rfl, HB.out⟩
  subst h1
  by_cases h2 : ap = bp
  case neg =>
    have e2 := strB_ne h2
    rw [hsb, decide_eq_false (fun h => h2 h.2.1)]
    clear h2 hsb
    go_enter Try.func25, Try.ntmps25
    go_wp2
    go_ret
    exact ⟨rfl, HB.out⟩
  subst h2
  by_cases h3 : aq = bq
  case neg =>
    rw [hsb, decide_eq_false (fun h => h3 h.2.2.1)]
    rw [decide_eq_false h3] at HQ
    clear h3 hsb
    go_enter Try.func25, Try.ntmps25
    go_wp2_with (go_at_call 42; refine (HQ.out _ HB.out).mono ?_; rintro e w1 ⟨rfl, hb1⟩; have HB1 := Lib.hid (bel2M HB.out hb1))
    go_ret
    exact ⟨rfl, HB1.out⟩
  rw [decide_eq_true h3] at HQ
  by_cases h4 : ar.length = br.length
  case neg =>
    have e4 : ((ar.length : Int) != (br.length : Int)) = true := by simp; omega
    rw [hsb, decide_eq_false (fun h => h4 (by rw [h.2.2.2]))]
    clear h3 h4 hsb
    go_enter Try.func25, Try.ntmps25
    go_wp2_with (go_at_call 42; refine (HQ.out _ HB.out).mono ?_; rintro e w1 ⟨rfl, hb1⟩; have HB1 := Lib.hid (bel2M HB.out hb1); have y1 := heapB HX1.out hb1; have y2 := heapB HX2.out hb1; have g1 := rowCell y1 3 _ rfl; have g2 := rowCell y2 3 _ rfl; clear hb1 y1 y2)
    go_ret
    exact ⟨rfl, HB1.out⟩
  have e4 : ((ar.length : Int) != (br.length : Int)) = false := by simp; omega
  have HY := Lib.hid (fun (h : ar.take ar.length = br.take ar.length) => show sameB ⟨ah, ap, aq, ar⟩ ⟨ah, ap, bq, br⟩ = true by rw [hsb]; rw [List.take_length, h4, List.take_length] at h; simpa using ⟨h3, h⟩)
  have HN := Lib.hid (fun (k : Nat) (h1 : k < ar.length) (h2 : k < br.length) (h : ar[k] ≠ br[k]) => show sameB ⟨ah, ap, aq, ar⟩ ⟨ah, ap, bq, br⟩ = false by rw [hsb]; simp; intro _ e; subst e; exact h rfl)
  have HT := Lib.hid (fun (k : Nat) (h1 : k < ar.length) (h2 : k < br.length) (h : ar[k] = br[k]) (ht : ar.take k = br.take k) => show ar.take (k + 1) = br.take (k + 1) by rw [List.take_succ_eq_append_getElem h1, List.take_succ_eq_append_getElem h2, h, ht])
  have HNL := Lib.hid h4
  clear h3 h4 hsb
  generalize sameB ⟨ah, ap, aq, ar⟩ ⟨ah, ap, bq, br⟩ = res at *
  go_enter Try.func25, Try.ntmps25
  go_wp2_with (go_at_call 42; refine (HQ.out _ HB.out).mono ?_; rintro e w1 ⟨rfl, hb1⟩; have HB1 := Lib.hid (bel2M HB.out hb1); have HY1 := Lib.hid (heapB HX1.out hb1); have HY2 := Lib.hid (heapB HX2.out hb1); have g1 := rowCell HY1.out 3 _ rfl; have g2 := rowCell HY2.out 3 _ rfl; clear hb1)
  clear e4 g1 g2
  go_loopw [5] (fun i wr => ∃ k : Nat, k ≤ ar.length ∧ i = .int .i64 k ∧ ar.take k = br.take k ∧ Below w1.heap.size w1 wr) (fun i _ => ar.length - (intOf i).toNat)
  case atStart => exact ⟨0, Nat.zero_le _, rfl, rfl, Below.refl _ _⟩
  case round =>
    obtain ⟨k, hk, rfl, htk, hbel⟩ := hrel
    have HTK := Lib.hid htk
    have HBE := Lib.hid hbel
    have z1 := heapB HY1.out hbel
    have z2 := heapB HY2.out hbel
    have g1 := rowCell z1 3 _ rfl
    have g2 := rowCell z2 3 _ rfl
    clear htk hbel z1 z2
    by_cases hlt : k < ar.length
    · have hlt2 : k < br.length := by have := HNL.out; omega
      have hltI : (k : Int) < (ar.length : Int) := by omega
      have hltJ : (k : Int) < (br.length : Int) := by omega
      obtain ⟨ad, rfl, hbl, hq⟩ := HL.out k hlt
      obtain ⟨ae, rfl, hbe, hr⟩ := HM.out k hlt2
      have c1 := cellM (bel2M HB1.out HBE.out) (by rw [block_add]; exact hbl) hq.1
      have c2 := cellM (p := ⟨(ad.add (k * 2)).block, (ad.add (k * 2)).off + 1, none⟩) (bel2M HB1.out HBE.out) (by rw [block_add]; exact hbl) hq.2
      have c3 := cellM (bel2M HB1.out HBE.out) (by rw [block_add]; exact hbe) hr.1
      have c4 := cellM (p := ⟨(ae.add (k * 2)).block, (ae.add (k * 2)).off + 1, none⟩) (bel2M HB1.out HBE.out) (by rw [block_add]; exact hbe) hr.2
      have HT1 := Lib.hid (HT.out k hlt hlt2)
      have HN1 := Lib.hid (HN.out k hlt hlt2)
      clear hq hr
      generalize ar[k] = x at *
      generalize br[k] = y at *
      obtain ⟨x1, x2⟩ := x
      obtain ⟨y1, y2⟩ := y
      simp only at c1 c2 c3 c4
      have HS := Lib.hid (show (SRw ⟨w.heap.size, 3, none⟩ ⟨w.heap.size + 1, 3, none⟩ (ad.add (k * 2)) ⟨(ad.add (k * 2)).block, (ad.add (k * 2)).off + 1, none⟩ (ae.add (k * 2)) ⟨(ae.add (k * 2)).block, (ae.add (k * 2)).off + 1, none⟩ (.slice (some ad) ar.length d) (.slice (some ae) br.length d2) (.int .i64 x1) (.int .i64 x2) (.int .i64 y1) (.int .i64 y2)) wr from ⟨g1, g2, c1, c2, c3, c4⟩)
      have HDR := Lib.hid (show Below wr.heap.size wr wr.drew from (Below.refl _ _).drew)
      clear c1 c2 c3 c4
      by_cases hxy : (x1, x2) = (y1, y2)
      · have HXY := Lib.hid hxy
        injection hxy with e1 e2
        subst e1 e2
        go_upto_region 6 with fail
        go_region_held3 (SRw ⟨w.heap.size, 3, none⟩ ⟨w.heap.size + 1, 3, none⟩ (ad.add (k * 2)) ⟨(ad.add (k * 2)).block, (ad.add (k * 2)).off + 1, none⟩ (ae.add (k * 2)) ⟨(ae.add (k * 2)).block, (ae.add (k * 2)).off + 1, none⟩ (.slice (some ad) ar.length d) (.slice (some ae) br.length d2) (.int .i64 x1) (.int .i64 x2) (.int .i64 x1) (.int .i64 x2)) (first | exact HS.out.below HDR.out) (first | fail)
        go_wp2
        go_roundw
        case rel => exact ⟨k + 1, by omega, by go_num, HT1.out HXY.out HTK.out, HBE.out.drew⟩
        case measure => simp [intOf]; omega
      · have HF := Lib.hid (HN1.out hxy)
        by_cases h1 : x1 = y1
        · subst h1
          have e2 : (x2 == y2) = false := by simpa using hxy
          clear hxy
          go_upto_region 6 with fail
          go_region_held3 (SRw ⟨w.heap.size, 3, none⟩ ⟨w.heap.size + 1, 3, none⟩ (ad.add (k * 2)) ⟨(ad.add (k * 2)).block, (ad.add (k * 2)).off + 1, none⟩ (ae.add (k * 2)) ⟨(ae.add (k * 2)).block, (ae.add (k * 2)).off + 1, none⟩ (.slice (some ad) ar.length d) (.slice (some ae) br.length d2) (.int .i64 x1) (.int .i64 x2) (.int .i64 x1) (.int .i64 y2)) (first | exact HS.out.below HDR.out) (first | fail)
          go_wp2
          go_ret
          exact ⟨by rw [HF.out]; rfl, bel2M HB1.out HBE.out.drew⟩
        · have e1 : (x1 == y1) = false := by simpa using h1
          clear hxy h1
          go_upto_region 6 with fail
          go_region_held3 (SRw ⟨w.heap.size, 3, none⟩ ⟨w.heap.size + 1, 3, none⟩ (ad.add (k * 2)) ⟨(ad.add (k * 2)).block, (ad.add (k * 2)).off + 1, none⟩ (ae.add (k * 2)) ⟨(ae.add (k * 2)).block, (ae.add (k * 2)).off + 1, none⟩ (.slice (some ad) ar.length d) (.slice (some ae) br.length d2) (.int .i64 x1) (.int .i64 x2) (.int .i64 y1) (.int .i64 y2)) (first | exact HS.out.below HDR.out) (first | fail)
          go_wp2
          go_ret
          exact ⟨by rw [HF.out]; rfl, bel2M HB1.out HBE.out.drew⟩
    · obtain rfl : k = ar.length := by omega
      have hltI : ¬ ((ar.length : Nat) : Int) < (ar.length : Int) := by omega
      have HF := Lib.hid (HY.out HTK.out)
      go_wp2
      go_ret
      exact ⟨by rw [HF.out]; rfl, bel2M HB1.out HBE.out⟩
end Go.Proofs.Ytoedjlknhhddfaa

namespace Go.Proofs.Ytoedjlknhhddfaa
open Go.RowKit
set_option linter.unusedVariables false
set_option linter.unusedSimpArgs false
set_option maxRecDepth 20000

def proveB (b : Blk) (i : Int) : List (Bool × List UInt8) × Int := if checkB b = 0 then pathT (leavesB b) i else ([], checkB b)
set_option maxHeartbeats 1000000 in
theorem bProve_any (b : Blk) (A : Option Addr) (c : Nat) (D : Option Addr) (d : Nat) (i : Int) (w : World) (h : BlkK w b A c D d) (hf : FewB b) : Calls Try.prog 19 #[agB b A c D d, .int .i64 i] w (PathX (proveB b i) w) := by
  have x1 := heap_alloc_new w (.cells #[.int .i64 b.h, .string (strB b.prev), .slice A b.reqs.length c, .slice D b.ress.length d] 26)
  have HB0 := Lib.hid (alloc1B w (.cells #[.int .i64 b.h, .string (strB b.prev), .slice A b.reqs.length c, .slice D b.ress.length d] 26))
  have HX := Lib.hid x1
  have HC := Lib.hid (fun W => bCheck_any b A c D d W (by have := hf.q; unfold maxLen; omega) (by have := hf.r; unfold maxLen; omega))
  have HL := Lib.hid (fun W (hb : Below w.heap.size w W) => bLeaves_any b A c D d W (h.below hb) hf)
  have hs := hf.sum
  have HP := Lib.hid (fun v W (hv : Bss W v (leavesB b)) => Path_all (leavesB b) (by omega) (by omega) v i W hv)
  clear x1 h hf hs
  unfold proveB
  generalize leavesB b = ls at *
  by_cases hc : checkB b = 0
  · rw [if_pos hc]
    rw [hc] at HC
    generalize pathT ls i = r at *
    obtain ⟨pl, x⟩ := r
    clear hc
    go_enter Try.func19, Try.ntmps19
    go_wp2_with (first
      | (go_at_call 14; refine (HC.out _).mono ?_; rintro e w1 ⟨rfl, hb1⟩; have HB1 := Lib.hid (bel2M HB0.out hb1); have hx1 := heapB HX.out hb1; have c0 := rowCell hx1 0 _ rfl; have c1 := rowCell hx1 1 _ rfl; have c2 := rowCell hx1 2 _ rfl; have c3 := rowCell hx1 3 _ rfl; clear hb1 hx1)
      | (go_at_call 32; refine (HL.out _ HB1.out).mono ?_; rintro e w2 ⟨v2, rfl, hv2, hb2⟩; have HV2 := Lib.hid hv2; have HB2 := Lib.hid (bel2M HB1.out hb2); clear hv2 hb2)
      | (go_at_call 38; refine (HP.out _ _ HV2.out).mono ?_; rintro e w3 ⟨PA, pc, rfl, hk3, hb3⟩; have HK3 := Lib.hid hk3; have HB3 := Lib.hid (bel2M HB2.out hb3); clear hk3 hb3))
    go_ret2
    exact ⟨PA, pc, rfl, HK3.out, HB3.out⟩
  · rw [if_neg hc]
    have hn : (checkB b != 0) = true := by simpa using hc
    generalize checkB b = x at *
    clear hc
    go_enter Try.func19, Try.ntmps19
    go_wp2_with (first
      | (go_at_call 14; refine (HC.out _).mono ?_; rintro e w1 ⟨rfl, hb1⟩; have HB1 := Lib.hid (bel2M HB0.out hb1); clear hb1))
    go_ret2
    exact ⟨none, 0, rfl, RowM.none _ _ _, HB1.out⟩
set_option maxHeartbeats 1000000 in
theorem bIncl_any (hh : Int) (hp : List UInt8) (hn : Int) (hr : List UInt8) (i : Int) (e : Int × List UInt8) (bv : Value) (r : Int × Int) (pl : List (Bool × List UInt8)) (PA : Option Addr) (pc : Nat) (w : World) (h1 : hn ≤ 9223372036854775807) (hb : Bs w bv e.2) (hl : e.2.length ≤ 500) (hpk : PthK w PA pc pl) (hpb : PB pl) :
    Calls Try.prog 22 #[agH hh hp hn hr, .int .i64 i, agE e.1 bv, agRs r, .slice PA pl.length pc] w (ChkP (checkT hr (leafB e r) i hn pl) w) := by
  obtain ⟨A, c, hv, -⟩ := hb.open
  subst hv
  have HLF := Lib.hid (fun W (h : Below w.heap.size w W) => bLeaf_any e r _ W (hb.below h (Nat.le_refl _)) (by omega))
  have HCK := Lib.hid (fun v W (h : Below w.heap.size w W) (hv : Bs W v (leafB e r)) => mCheck_any hr (leafB e r) v i hn h1 pl PA pc W hv (by rw [leafB_length]; omega) (hpk.below h) hpb)
  obtain ⟨s, l⟩ := e
  obtain ⟨rc, rs⟩ := r
  simp only at HLF HCK ⊢
  obtain ⟨x1, x2, x3⟩ := box2B w #[.int .i64 hh, .string (strB hp), .int .i64 hn, .string (strB hr)] #[.int .i64 s, .slice A l.length c] 37 32
  have y1 := heapB x1 (alloc1B _ (.cells #[.int .i64 rc, .int .i64 rs] 35))
  have y2 := heapB x2 (alloc1B _ (.cells #[.int .i64 rc, .int .i64 rs] 35))
  have y3 := heap_alloc_new ((w.alloc (.cells #[.int .i64 hh, .string (strB hp), .int .i64 hn, .string (strB hr)] 37)).alloc (.cells #[.int .i64 s, .slice A l.length c] 32)) (.cells #[.int .i64 rc, .int .i64 rs] 35)
  rw [show ((w.alloc (.cells #[.int .i64 hh, .string (strB hp), .int .i64 hn, .string (strB hr)] 37)).alloc (.cells #[.int .i64 s, .slice A l.length c] 32)).heap.size = w.heap.size + 1 + 1 by simp] at y3
  have y4 := bel2M x3 (alloc1B _ (.cells #[.int .i64 rc, .int .i64 rs] 35))
  clear x1 x2 x3 hb hl hpk hpb
  generalize checkT hr (leafB (s, l) (rc, rs)) i hn pl = x at *
  generalize leafB (s, l) (rc, rs) = lf at *
  go_enter Try.func22, Try.ntmps22
  go_wp2
  generalize hw0 : ((w.alloc (.cells #[.int .i64 hh, .string (strB hp), .int .i64 hn, .string (strB hr)] 37)).alloc (.cells #[.int .i64 s, .slice A l.length c] 32)).alloc (.cells #[.int .i64 rc, .int .i64 rs] 35) = w0 at *
  clear hw0
  have HB0 := Lib.hid y4
  have HK := Lib.hid (show ∀ W, Below w0.heap.size w0 W → ((fun W => W.cell? ⟨w.heap.size, 2, none⟩ = some (.int .i64 hn) ∧ W.cell? ⟨w.heap.size, 3, none⟩ = some (.string (strB hr)) ∧ W.cell? ⟨w.heap.size + 1, 0, none⟩ = some (.int .i64 s) ∧ W.cell? ⟨w.heap.size + 1, 1, none⟩ = some (.slice A l.length c) ∧ W.cell? ⟨w.heap.size + 1 + 1, 0, none⟩ = some (.int .i64 rc) ∧ W.cell? ⟨w.heap.size + 1 + 1, 1, none⟩ = some (.int .i64 rs))) W from fun W h => ⟨cellB (rowCell y1 2 _ rfl) h, cellB (rowCell y1 3 _ rfl) h, cellB (rowCell y2 0 _ rfl) h, cellB (rowCell y2 1 _ rfl) h, cellB (rowCell y3 0 _ rfl) h, cellB (rowCell y3 1 _ rfl) h⟩)
  have HDR := Lib.hid (show Below w0.heap.size w0 w0.drew from (Below.refl _ _).drew)
  clear y1 y2 y3 y4
  go_region_held3 ((fun W => W.cell? ⟨w.heap.size, 2, none⟩ = some (.int .i64 hn) ∧ W.cell? ⟨w.heap.size, 3, none⟩ = some (.string (strB hr)) ∧ W.cell? ⟨w.heap.size + 1, 0, none⟩ = some (.int .i64 s) ∧ W.cell? ⟨w.heap.size + 1, 1, none⟩ = some (.slice A l.length c) ∧ W.cell? ⟨w.heap.size + 1 + 1, 0, none⟩ = some (.int .i64 rc) ∧ W.cell? ⟨w.heap.size + 1 + 1, 1, none⟩ = some (.int .i64 rs))) (first | exact HK.out _ HDR.out | exact HK.out _ HB1.out | exact HK.out _ HB2.out) (first
    | (go_at_call 10; refine (HLF.out _ (bel2M HB0.out HDR.out)).mono ?_; rintro e w1 ⟨v1, rfl, ho1, hb1⟩; have HO1 := Lib.hid (own_bs ho1); have HB1 := Lib.hid (bel2M HDR.out hb1); clear ho1 hb1)
    | (go_at_call 40; refine (HCK.out _ _ (bel2M HB0.out HB1.out) HO1.out).mono ?_; rintro e w2 ⟨rfl, hb2⟩; have HB2 := Lib.hid (bel2M HB1.out hb2); clear hb2))
  go_wp2
  go_ret
  exact ⟨rfl, bel2M HB0.out HB2.out⟩

def blkA : Blk := ⟨1, [], [(1000, [120])], [(0, 2)]⟩
theorem blkA_check : checkB blkA = 0 := by decide
theorem blkA_leaves : leavesB blkA = [leafB (1000, [120]) (0, 2)] := rfl
theorem blkA_few : FewB blkA := ⟨by decide, by decide, by decide, by intro e he; simp [blkA] at he; subst he; decide⟩
theorem blkA_prove : proveB blkA 0 = ([], 0) := by
  unfold proveB
  rw [if_pos blkA_check, blkA_leaves]
  unfold pathT
  rw [if_pos ⟨Int.le_refl _, by simp⟩, show ((0 : Int).toNat) = 0 from rfl, stepsT_one (by simp)]
theorem blkA_incl : checkT (rootB blkA) (leafB (1000, [120]) (0, 2)) 0 ((leavesB blkA).length : Nat) [] = 0 := by
  have h := checkT_at (root := rootB blkA) (leaf := leafB (1000, [120]) (0, 2)) (a := 0) (b := (leavesB blkA).length) (p := []) (by decide)
  refine h.trans (if_pos ⟨?_, ?_⟩)
  · rw [show (leavesB blkA).length = 1 from rfl, sidesN_one (by decide)]; rfl
  · unfold rootB; rw [blkA_leaves, rootT_one]; rfl
theorem blkA_put : 20 < (putB blkA).length := by
  unfold putB
  rw [if_pos blkA_check, blkA_leaves]
  simp [i8B_length, partB_length, be_length, leafB_length]
  omega
theorem dig_ne (h : Int) (p : List UInt8) (n : Int) (r : List UInt8) : (strB (digB h p n r)).toList.isEmpty = false := by
  have hl : (digB h p n r).length ≠ 0 := by unfold digB; rw [encT_length]; omega
  rw [strB_list]
  rcases hd : digB h p n r with _ | ⟨a, t⟩
  · rw [hd] at hl; exact absurd rfl hl
  · rfl
def awB (w : World) : World := ((((w.alloc (.cells #[.int .u8 120] 5 (1, 2))).alloc (.cells #[.int .i64 1000, .slice (some ⟨w.heap.size, 0, none⟩) 1 1] 32)).alloc (.cells #[.int .i64 1000, .slice (some ⟨w.heap.size, 0, none⟩) 1 1] 32)).alloc (.cells #[.int .i64 0, .int .i64 2] 35)).alloc (.cells #[.int .i64 1, .string ⟨#[]⟩, .slice (some ⟨w.heap.size + 1 + 1, 0, none⟩) 1 1, .slice (some ⟨w.heap.size + 1 + 1 + 1, 0, none⟩) 1 1] 26)
theorem awB_at (w : World) : Below w.heap.size w (awB w) ∧ Bs (awB w) (.slice (some ⟨w.heap.size, 0, none⟩) 1 1) [120] ∧ (awB w).heap[w.heap.size + 1]? = some (.cells #[.int .i64 1000, .slice (some ⟨w.heap.size, 0, none⟩) 1 1] 32 (0, 0)) ∧ (awB w).heap[w.heap.size + 1 + 1]? = some (.cells #[.int .i64 1000, .slice (some ⟨w.heap.size, 0, none⟩) 1 1] 32 (0, 0)) ∧
    (awB w).heap[w.heap.size + 1 + 1 + 1]? = some (.cells #[.int .i64 0, .int .i64 2] 35 (0, 0)) ∧ (awB w).heap[w.heap.size + 1 + 1 + 1 + 1]? = some (.cells #[.int .i64 1, .string ⟨#[]⟩, .slice (some ⟨w.heap.size + 1 + 1, 0, none⟩) 1 1, .slice (some ⟨w.heap.size + 1 + 1 + 1, 0, none⟩) 1 1] 26 (0, 0)) := by
  unfold awB
  have b0 : Bs (w.alloc (.cells #[.int .u8 120] 5 (1, 2))) (.slice (some ⟨w.heap.size, 0, none⟩) 1 1) [120] := Bs.lit w [120] (by simp) (by simp) _ _ rfl rfl _ rfl (1, 2)
  have k1 := alloc1B w (.cells #[.int .u8 120] 5 (1, 2))
  have s1 : (w.alloc (.cells #[.int .u8 120] 5 (1, 2))).heap.size = w.heap.size + 1 := World.size_alloc _ _
  generalize w.alloc (.cells #[.int .u8 120] 5 (1, 2)) = w1 at *
  have h2 := heap_alloc_new w1 (.cells #[.int .i64 1000, .slice (some ⟨w.heap.size, 0, none⟩) 1 1] 32)
  have k2 := alloc1B w1 (.cells #[.int .i64 1000, .slice (some ⟨w.heap.size, 0, none⟩) 1 1] 32)
  have s2 : (w1.alloc (.cells #[.int .i64 1000, .slice (some ⟨w.heap.size, 0, none⟩) 1 1] 32)).heap.size = w.heap.size + 1 + 1 := by rw [World.size_alloc, s1]
  rw [s1] at h2
  generalize w1.alloc (.cells #[.int .i64 1000, .slice (some ⟨w.heap.size, 0, none⟩) 1 1] 32) = w2 at *
  have h3 := heap_alloc_new w2 (.cells #[.int .i64 1000, .slice (some ⟨w.heap.size, 0, none⟩) 1 1] 32)
  have k3 := alloc1B w2 (.cells #[.int .i64 1000, .slice (some ⟨w.heap.size, 0, none⟩) 1 1] 32)
  have s3 : (w2.alloc (.cells #[.int .i64 1000, .slice (some ⟨w.heap.size, 0, none⟩) 1 1] 32)).heap.size = w.heap.size + 1 + 1 + 1 := by rw [World.size_alloc, s2]
  rw [s2] at h3
  generalize w2.alloc (.cells #[.int .i64 1000, .slice (some ⟨w.heap.size, 0, none⟩) 1 1] 32) = w3 at *
  have h4 := heap_alloc_new w3 (.cells #[.int .i64 0, .int .i64 2] 35)
  have k4 := alloc1B w3 (.cells #[.int .i64 0, .int .i64 2] 35)
  have s4 : (w3.alloc (.cells #[.int .i64 0, .int .i64 2] 35)).heap.size = w.heap.size + 1 + 1 + 1 + 1 := by rw [World.size_alloc, s3]
  rw [s3] at h4
  generalize w3.alloc (.cells #[.int .i64 0, .int .i64 2] 35) = w4 at *
  have h5 := heap_alloc_new w4 (.cells #[.int .i64 1, .string ⟨#[]⟩, .slice (some ⟨w.heap.size + 1 + 1, 0, none⟩) 1 1, .slice (some ⟨w.heap.size + 1 + 1 + 1, 0, none⟩) 1 1] 26)
  have k5 := alloc1B w4 (.cells #[.int .i64 1, .string ⟨#[]⟩, .slice (some ⟨w.heap.size + 1 + 1, 0, none⟩) 1 1, .slice (some ⟨w.heap.size + 1 + 1 + 1, 0, none⟩) 1 1] 26)
  rw [s4] at h5
  exact ⟨bel2M (bel2M (bel2M (bel2M k1 k2) k3) k4) k5, b0.below (bel2M (bel2M (bel2M k2 k3) k4) k5) (Nat.le_refl _), heapB h2 (bel2M (bel2M k3 k4) k5), heapB h3 (bel2M k4 k5), heapB h4 k5, h5⟩
theorem awB_blk (w : World) : BlkK (awB w) blkA (some ⟨w.heap.size + 1 + 1, 0, none⟩) 1 (some ⟨w.heap.size + 1 + 1 + 1, 0, none⟩) 1 := by
  obtain ⟨-, h1, -, h3, h4, -⟩ := awB_at w
  refine ⟨⟨Nat.le_refl _, by unfold maxLen; decide, (fun h => by cases h), fun j hj => ?_⟩, ⟨Nat.le_refl _, by unfold maxLen; decide, (fun h => by cases h), fun j hj => ?_⟩⟩
  · obtain rfl : j = 0 := by simp [blkA] at hj; omega
    exact ⟨_, rfl, (Array.getElem?_eq_some_iff.1 h3).1, rowCell h3 0 _ rfl, _, rowCell h3 1 _ rfl, h1⟩
  · obtain rfl : j = 0 := by simp [blkA] at hj; omega
    exact ⟨_, rfl, (Array.getElem?_eq_some_iff.1 h4).1, rowCell h4 0 _ rfl, rowCell h4 1 _ rfl⟩
set_option maxHeartbeats 2000000 in
theorem awake10_any (w : World) : Calls Try.prog 18 #[] w (Yes w) := by
  have hcv : ∀ (w : World) (C : Array Value) (n c b : Nat), b = w.heap.size → (convert 29 29 (.slice (some ⟨b, 0, none⟩) n c)).run Try.prog (w.alloc (.cells C 5)) = .ok (.slice (some ⟨b, 0, none⟩) n c) (w.alloc (.cells C 5 (C.size, C.size + 1))) := by
    intro w C n c b hb
    subst hb
    exact Lib.run_convert_bytes_const (P := Try.prog) w 29 5 C n c Try.underlying29 Try.underlying5
  obtain ⟨hb, hbs, h1, h2, h3, h4⟩ := awB_at w
  have hk := awB_blk w
  have HPV := Lib.hid (show Calls Try.prog 19 #[.agg #[.int .i64 1, .string ⟨#[]⟩, .slice (some ⟨w.heap.size + 1 + 1, 0, none⟩) 1 1, .slice (some ⟨w.heap.size + 1 + 1 + 1, 0, none⟩) 1 1], .int .i64 0] (awB w) (PathX ([], 0) (awB w)) from blkA_prove ▸ bProve_any blkA _ 1 _ 1 0 (awB w) hk blkA_few)
  have HHD := Lib.hid (fun W (h : Below (awB w).heap.size (awB w) W) => show Calls Try.prog 12 #[.agg #[.int .i64 1, .string ⟨#[]⟩, .slice (some ⟨w.heap.size + 1 + 1, 0, none⟩) 1 1, .slice (some ⟨w.heap.size + 1 + 1 + 1, 0, none⟩) 1 1]] W (HdP blkA W) from bHeader_any blkA _ 1 _ 1 W (hk.below h) blkA_few)
  have HPT := Lib.hid (fun W (h : Below (awB w).heap.size (awB w) W) => show Calls Try.prog 27 #[.agg #[.int .i64 1, .string ⟨#[]⟩, .slice (some ⟨w.heap.size + 1 + 1, 0, none⟩) 1 1, .slice (some ⟨w.heap.size + 1 + 1 + 1, 0, none⟩) 1 1]] W (Puts W (putB blkA)) from bPut_any blkA _ 1 _ 1 W (hk.below h) blkA_few)
  have HC1 := Lib.hid (fun W => show Calls Try.prog 14 #[.agg #[.int .i64 0, .string ⟨#[]⟩, .slice none 0 0, .slice none 0 0]] W (ChkP 100 W) from bCheck_any zeroB none 0 none 0 W (by decide) (by decide))
  have HC2 := Lib.hid (fun g W => show Calls Try.prog 14 #[.agg #[.int .i64 1, .string ⟨#[]⟩, .slice (some ⟨g, 0, none⟩) 1 1, .slice none 0 0]] W (ChkP 102 W) from bCheck_any ⟨1, [], [(1000, [120])], []⟩ (some ⟨g, 0, none⟩) 1 none 0 W (by decide) (by decide))
  have HIN := Lib.hid (fun PA pc W (h : Below (awB w).heap.size (awB w) W) (hp : PthK W PA pc []) => show Calls Try.prog 22 #[agH 1 [] ((leavesB blkA).length : Nat) (rootB blkA), .int .i64 0, .agg #[.int .i64 1000, .slice (some ⟨w.heap.size, 0, none⟩) 1 1], .agg #[.int .i64 0, .int .i64 2], .slice PA 0 pc] W (ChkP 0 W) from blkA_incl ▸ bIncl_any 1 [] ((leavesB blkA).length : Nat) (rootB blkA) 0 (1000, [120]) _ (0, 2) [] PA pc W (by decide) (hbs.below h (Nat.le_refl _)) (by decide) hp ⟨by simp, by intro s hs; simp at hs⟩)
  have HDG := Lib.hid (fun W => bDigest_any 1 [] ((leavesB blkA).length : Nat) (rootB blkA) W (by simp) (by have := blkA_few.root; omega))
  have hdn := dig_ne 1 [] ((leavesB blkA).length : Nat) (rootB blkA)
  have hpl := blkA_put
  have hpl2 : (20 : Int) < ((putB blkA).length : Int) := by omega
  have HB := Lib.hid hb
  have HX1 := Lib.hid h1
  have HX4 := Lib.hid h4
  unfold HdP at HHD
  clear hb hbs h1 h2 h3 h4 hk hpl
  rw [show blkA.h = 1 from rfl, show blkA.prev = [] from rfl] at HHD
  generalize digB 1 [] ((leavesB blkA).length : Nat) (rootB blkA) = dg at *
  generalize putB blkA = pb at *
  generalize rootB blkA = rt at *
  generalize (leavesB blkA).length = n at *
  have HW0 := Lib.hid (show awB w = ((((w.alloc (.cells #[.int .u8 120] 5 (1, 2))).alloc (.cells #[.int .i64 1000, .slice (some ⟨w.heap.size, 0, none⟩) 1 1] 32)).alloc (.cells #[.int .i64 1000, .slice (some ⟨w.heap.size, 0, none⟩) 1 1] 32)).alloc (.cells #[.int .i64 0, .int .i64 2] 35)).alloc (.cells #[.int .i64 1, .string ⟨#[]⟩, .slice (some ⟨w.heap.size + 1 + 1, 0, none⟩) 1 1, .slice (some ⟨w.heap.size + 1 + 1 + 1, 0, none⟩) 1 1] 26) from rfl)
  generalize hw0 : awB w = w0 at *
  clear hw0
  go_enter Try.func18, Try.ntmps18
  go_wp2_with (go_at_call 19; rw [← HW0.out]; refine HPV.out.mono ?_; rintro e w1 ⟨PA, pc, rfl, hpk, hb1⟩; have HPK := Lib.hid hpk; have HB1 := Lib.hid hb1; clear hpk hb1)
  have HK := Lib.hid (show ∀ W, Below w0.heap.size w0 W → (fun W => W.cell? ⟨w.heap.size + 1, 0, none⟩ = some (.int .i64 1000) ∧ W.cell? ⟨w.heap.size + 1, 1, none⟩ = some (.slice (some ⟨w.heap.size, 0, none⟩) 1 1) ∧ W.cell? ⟨w.heap.size + 1 + 1 + 1 + 1, 0, none⟩ = some (.int .i64 1) ∧ W.cell? ⟨w.heap.size + 1 + 1 + 1 + 1, 1, none⟩ = some (.string ⟨#[]⟩) ∧ W.cell? ⟨w.heap.size + 1 + 1 + 1 + 1, 2, none⟩ = some (.slice (some ⟨w.heap.size + 1 + 1, 0, none⟩) 1 1) ∧ W.cell? ⟨w.heap.size + 1 + 1 + 1 + 1, 3, none⟩ = some (.slice (some ⟨w.heap.size + 1 + 1 + 1, 0, none⟩) 1 1)) W from fun W h => ⟨cellB (rowCell HX1.out 0 _ rfl) h, cellB (rowCell HX1.out 1 _ rfl) h, cellB (rowCell HX4.out 0 _ rfl) h, cellB (rowCell HX4.out 1 _ rfl) h, cellB (rowCell HX4.out 2 _ rfl) h, cellB (rowCell HX4.out 3 _ rfl) h⟩)
  have HBC := Lib.hid (show Below w0.heap.size w0 w1.drew from HB1.out.drew)
  have HP0 := Lib.hid (show PthK w1.drew PA pc [] from HPK.out)
  clear HX1 HX4 HPV HPK
  go_region_held3 (fun W => W.cell? ⟨w.heap.size + 1, 0, none⟩ = some (.int .i64 1000) ∧ W.cell? ⟨w.heap.size + 1, 1, none⟩ = some (.slice (some ⟨w.heap.size, 0, none⟩) 1 1) ∧ W.cell? ⟨w.heap.size + 1 + 1 + 1 + 1, 0, none⟩ = some (.int .i64 1) ∧ W.cell? ⟨w.heap.size + 1 + 1 + 1 + 1, 1, none⟩ = some (.string ⟨#[]⟩) ∧ W.cell? ⟨w.heap.size + 1 + 1 + 1 + 1, 2, none⟩ = some (.slice (some ⟨w.heap.size + 1 + 1, 0, none⟩) 1 1) ∧ W.cell? ⟨w.heap.size + 1 + 1 + 1 + 1, 3, none⟩ = some (.slice (some ⟨w.heap.size + 1 + 1 + 1, 0, none⟩) 1 1)) (first | exact HK.out _ HBC.out | exact HK.out _ (bel2M HBC.out (alloc1B _ _))) (first
    | (go_at_call_of 14 ([Value.agg #[.int .i64 0, .string ⟨#[]⟩, .slice none 0 0, .slice none 0 0]]); refine (HC1.out _).mono ?_; rintro e wx ⟨rfl, hbm⟩; (try replace HP0 := Lib.hid (PthK.below HP0.out hbm)); replace HBC := Lib.hid (bel2M HBC.out hbm); clear hbm)
    | (go_at_call 14; refine (HC2.out _ _).mono ?_; rintro e wx ⟨rfl, hbm⟩; replace HP0 := Lib.hid (PthK.below (PthK.below HP0.out (alloc1B _ _)) hbm); replace HBC := Lib.hid (bel2M (bel2M HBC.out (alloc1B _ _)) hbm); clear hbm)
    | (go_at_call 12; refine (HHD.out _ HBC.out).mono ?_; rintro e wx ⟨rfl, hbm⟩; (try replace HP0 := Lib.hid (PthK.below HP0.out hbm)); replace HBC := Lib.hid (bel2M HBC.out hbm); clear hbm)
    | (go_at_call 22; refine (HIN.out _ _ _ HBC.out HP0.out).mono ?_; rintro e wx ⟨rfl, hbm⟩; (try replace HP0 := Lib.hid (PthK.below HP0.out hbm)); replace HBC := Lib.hid (bel2M HBC.out hbm); clear hbm)
    | (go_at_call 27; refine (HPT.out _ HBC.out).mono ?_; rintro e wx ⟨vx, rfl, hox, hbm⟩; obtain ⟨Ax, cx, rfl, -⟩ := (own_bs hox).open; clear hox; replace HBC := Lib.hid (bel2M HBC.out hbm); clear hbm)
    | (go_at_call 16; refine (HDG.out _).mono ?_; rintro e wx ⟨rfl, hbm⟩; replace HBC := Lib.hid (bel2M HBC.out hbm); clear hbm))
  go_wp2
  go_ret
  exact ⟨rfl, bel2M HB.out HBC.out⟩

set_option maxHeartbeats 8000000 in
theorem BlockBack_any (b : Blk) (A : Option Addr) (c : Nat) (D : Option Addr) (d : Nat) (v : Value) (x : List UInt8) (w : World) (hb : BlkK w b A c D d) (ob : OkB b) (hv : Bs w v x) : Calls Try.prog 7 #[agB b A c D d, v] w (Yes w) := by
  obtain ⟨VA, vc, hvs, -, hvm, -⟩ := hv.open
  subst hvs
  have x1 := heap_alloc_new w (.cells #[.int .i64 b.h, .string (strB b.prev), .slice A b.reqs.length c, .slice D b.ress.length d] 26)
  have x3 := alloc1B w (.cells #[.int .i64 b.h, .string (strB b.prev), .slice A b.reqs.length c, .slice D b.ress.length d] 26)
  have HF := Lib.hid (fun W (h : Below w.heap.size w W) => few10_any b A c D d W (hb.below h))
  have HW := Lib.hid (fun W => awake10_any W)
  have HB0 := Lib.hid x3
  generalize hw0 : (w.alloc (.cells #[.int .i64 b.h, .string (strB b.prev), .slice A b.reqs.length c, .slice D b.ress.length d] 26)) = w0 at *
  have HW0 := Lib.hid hw0
  have HX1 := Lib.hid x1
  have HK := Lib.hid (show ∀ W, Below w0.heap.size w0 W → (fun W => W.cell? ⟨w.heap.size, 0, none⟩ = some (.int .i64 b.h) ∧ W.cell? ⟨w.heap.size, 1, none⟩ = some (.string (strB b.prev)) ∧ W.cell? ⟨w.heap.size, 2, none⟩ = some (.slice A b.reqs.length c) ∧ W.cell? ⟨w.heap.size, 3, none⟩ = some (.slice D b.ress.length d)) W from fun W h => ⟨cellB (rowCell x1 0 _ rfl) h, cellB (rowCell x1 1 _ rfl) h, cellB (rowCell x1 2 _ rfl) h, cellB (rowCell x1 3 _ rfl) h⟩)
  clear x1 x3 hw0
  obtain ⟨p0, p1, p2, p3⟩ := HK.out w0 (Below.refl _ _)
  rcases hf : fewBB b with _ | _
  · rw [hf] at HF
    clear hf hb hv ob
    go_enter Try.func7, Try.ntmps7
    go_upto_region 1 with fail
    rw [HW0.out]
    go_wp2_with (first
      | (go_at_call 8; refine (HF.out _ HB0.out).mono ?_; rintro e w1 ⟨rfl, hb1⟩; have HB1 := Lib.hid hb1; clear hb1; obtain ⟨p0, p1, p2, p3⟩ := HK.out _ HB1.out))
    go_ret
    exact ⟨rfl, bel2M HB0.out HB1.out⟩
  rw [hf] at HF
  by_cases hx : x.length ≤ 10000
  case neg =>
    have hxI : decide ((10000 : Int) < (x.length : Int)) = true := by simp; omega
    clear hf hb hv ob hx
    go_enter Try.func7, Try.ntmps7
    go_upto_region 1 with fail
    rw [HW0.out]
    go_wp2_with (first
      | (go_at_call 8; refine (HF.out _ HB0.out).mono ?_; rintro e w1 ⟨rfl, hb1⟩; have HB1 := Lib.hid hb1; clear hb1; obtain ⟨p0, p1, p2, p3⟩ := HK.out _ HB1.out))
    go_ret
    exact ⟨rfl, bel2M HB0.out HB1.out⟩
  have hxI : decide ((10000 : Int) < (x.length : Int)) = false := by simp; omega
  have fb := fewBB_iff.1 hf
  have hpl := few_put fb
  have HPT := Lib.hid (fun W (h : Below w.heap.size w W) => bPut_any b A c D d W (hb.below h) fb)
  have HGX := Lib.hid (fun W (h : Below w.heap.size w W) => bGet_any _ x W (hv.below h (Nat.le_refl _)) (by omega))
  have HCK := Lib.hid (fun W => bCheck_any b A c D d W (by have := fb.q; unfold maxLen; omega) (by have := fb.r; unfold maxLen; omega))
  have HSX := Lib.hid (fun u W (h : Below w.heap.size w W) (hu : Bs W u x) => show Calls Try.prog 9 #[u, .slice VA x.length vc] W fun e w' => e = .returned (.bool true) ∧ W = w' from by
    have := Same_any u _ x x W hu (hv.below h (Nat.le_refl _))
    simpa using this)
  have hmid := fun h => got_mid (x := x) h hx
  have hback := fun h => getBL_ok (x := x) h
  have HBB := Lib.hid hb
  by_cases hc : checkB b = 0
  · obtain ⟨hg1, hg2⟩ := getBL_put ob fb hc
    have HGT := Lib.hid (fun u W (hu : Bs W u (putB b)) => show Calls Try.prog 26 #[u] W (GtP b 0 W) from by
      have := bGet_any u (putB b) W hu (by omega)
      rwa [hg1, hg2] at this)
    have HSM := Lib.hid (fun QA qc RA rc W (h : Below w.heap.size w W) (hk : BlkK W b QA qc RA rc) => show Calls Try.prog 25 #[agB b A c D d, agB b QA qc RA rc] W (AskB true W) from (sameB_iff b b).2 rfl ▸ rSameB_any b b A c D d QA qc RA rc W (HBB.out.below h) hk)
    rw [hc] at HCK
    clear hg1 hg2 hf hb hv ob fb hc hx hpl
    go_enter Try.func7, Try.ntmps7
    go_upto_region 1 with fail
    rw [HW0.out]
    go_upto_region 4 with (first
      | (go_at_call 8; refine (HF.out _ HB0.out).mono ?_; rintro e w1 ⟨rfl, hb1⟩; have HB1 := Lib.hid hb1; clear hb1; obtain ⟨p0, p1, p2, p3⟩ := HK.out _ HB1.out)
      | (go_at_call 27; refine (HPT.out _ (bel2M HB0.out HB1.out)).mono ?_; rintro e w2 ⟨v2, rfl, ho2, hb2⟩; have HV2 := Lib.hid (own_bs ho2); have HB2 := Lib.hid (bel2M HB1.out hb2); clear ho2 hb2)
      | (go_at_call 26; refine (HGT.out _ _ HV2.out).mono ?_; rintro e w3 ⟨QA, qc, RA, rc, rfl, hk3, hb3⟩; have HK3 := Lib.hid hk3; have HB3 := Lib.hid (bel2M HB2.out hb3); clear hk3 hb3))
    have HX4 := Lib.hid (heap_alloc_new w3 (.cells #[.int .i64 b.h, .string (strB b.prev), .slice QA b.reqs.length qc, .slice RA b.ress.length rc] 26))
    have HB4' := Lib.hid (alloc1B w3 (.cells #[.int .i64 b.h, .string (strB b.prev), .slice QA b.reqs.length qc, .slice RA b.ress.length rc] 26))
    have HB4 := Lib.hid (bel2M HB3.out HB4'.out)
    have HK4 := Lib.hid (HK3.out.below HB4'.out)
    have HKC := Lib.hid (show ∀ W : World, W.heap[w3.heap.size]? = some (.cells #[.int .i64 b.h, .string (strB b.prev), .slice QA b.reqs.length qc, .slice RA b.ress.length rc] 26 (0, 0)) → W.cell? ⟨w3.heap.size, 0, none⟩ = some (.int .i64 b.h) ∧ W.cell? ⟨w3.heap.size, 1, none⟩ = some (.string (strB b.prev)) ∧ W.cell? ⟨w3.heap.size, 2, none⟩ = some (.slice QA b.reqs.length qc) ∧ W.cell? ⟨w3.heap.size, 3, none⟩ = some (.slice RA b.ress.length rc) from fun W h => ⟨rowCell h 0 _ rfl, rowCell h 1 _ rfl, rowCell h 2 _ rfl, rowCell h 3 _ rfl⟩)
    generalize w3.alloc (.cells #[.int .i64 b.h, .string (strB b.prev), .slice QA b.reqs.length qc, .slice RA b.ress.length rc] 26) = w4 at *
    obtain ⟨p0, p1, p2, p3⟩ := HK.out _ HB4.out
    obtain ⟨q0, q1, q2, q3⟩ := HKC.out _ HX4.out
    clear hxI
    go_upto_region 6 with (first
      | (go_at_call 14; refine (HCK.out _).mono ?_; rintro e w5 ⟨rfl, hb5⟩; have HB5 := Lib.hid (bel2M HB4.out hb5); have HX5 := Lib.hid (heapB HX4.out hb5); have HK5 := Lib.hid (HK4.out.below hb5); clear hb5; obtain ⟨p0, p1, p2, p3⟩ := HK.out _ HB5.out; obtain ⟨q0, q1, q2, q3⟩ := HKC.out _ HX5.out)
      | (go_at_call 25; refine (HSM.out _ _ _ _ _ (bel2M HB0.out HB5.out) HK5.out).mono ?_; rintro e w6 ⟨rfl, hb6⟩; have HB6 := Lib.hid (bel2M HB5.out hb6); clear hb6))
    by_cases hfx : getBLE x = 0
    case neg =>
      have hfn : (getBLE x != 0) = true := by simpa using hfx
      clear hfx hmid hback
      generalize getBLE x = fx at *
      generalize getBL x = dx at *
      go_wp2_with (first
        | (go_at_call 26; refine (HGX.out _ (bel2M HB0.out HB6.out)).mono ?_; rintro e w7 ⟨XA, xc, YA, yc, rfl, hk7, hb7⟩; have HK7 := Lib.hid hk7; have HB7 := Lib.hid (bel2M HB6.out hb7); clear hk7 hb7)
        | (go_at_call 18; refine (HW.out _).mono ?_; rintro e wz ⟨rfl, hbz⟩; have HBZ := Lib.hid (bel2M (bel2M HB7.out (alloc1B _ _)) hbz); clear hbz))
      go_ret
      exact ⟨rfl, bel2M HB0.out HBZ.out⟩
    have hmd := hmid hfx
    have hbk := hback hfx
    rw [hfx] at HGX
    clear hfx hmid hback
    generalize getBL x = dx at *
    go_upto_region 7 with (first
      | (go_at_call 26; refine (HGX.out _ (bel2M HB0.out HB6.out)).mono ?_; rintro e w7 ⟨XA, xc, YA, yc, rfl, hk7, hb7⟩; have HK7 := Lib.hid hk7; have HB7 := Lib.hid (bel2M HB6.out hb7); clear hk7 hb7))
    have HX8 := Lib.hid (heap_alloc_new w7 (.cells #[.int .i64 dx.h, .string (strB dx.prev), .slice XA dx.reqs.length xc, .slice YA dx.ress.length yc] 26))
    have HB8' := Lib.hid (alloc1B w7 (.cells #[.int .i64 dx.h, .string (strB dx.prev), .slice XA dx.reqs.length xc, .slice YA dx.ress.length yc] 26))
    generalize w7.alloc (.cells #[.int .i64 dx.h, .string (strB dx.prev), .slice XA dx.reqs.length xc, .slice YA dx.ress.length yc] 26) = w8 at *
    have HB8 := Lib.hid (bel2M HB7.out HB8'.out)
    have HPD := Lib.hid (show Calls Try.prog 27 #[.agg #[.int .i64 dx.h, .string (strB dx.prev), .slice XA dx.reqs.length xc, .slice YA dx.ress.length yc]] w8 (Puts w8 x) from hbk ▸ bPut2_any dx XA xc YA yc w8 (HK7.out.below HB8'.out) hmd)
    clear hmd hbk
    have d0 := rowCell HX8.out 0 _ rfl
    have d1 := rowCell HX8.out 1 _ rfl
    have d2 := rowCell HX8.out 2 _ rfl
    have d3 := rowCell HX8.out 3 _ rfl
    go_wp2_with (first
      | (go_at_call 27; refine HPD.out.mono ?_; rintro e w9 ⟨v9, rfl, ho9, hb9⟩; have HV9 := Lib.hid (own_bs ho9); have HB9 := Lib.hid (bel2M HB8.out hb9); clear ho9 hb9)
      | (go_at_call 9; refine (HSX.out _ _ (bel2M HB0.out HB9.out) HV9.out).mono ?_; rintro e wq ⟨rfl, rfl⟩)
      | (go_at_call 18; refine (HW.out _).mono ?_; rintro e wz ⟨rfl, hbz⟩; have HBZ := Lib.hid (bel2M HB9.out hbz); clear hbz))
    go_ret
    exact ⟨rfl, bel2M HB0.out HBZ.out⟩
  · have hgn := getBL_none hc
    have HGT := Lib.hid (fun u W (hu : Bs W u (putB b)) => bGet_any u (putB b) W hu (by omega))
    have hen : (getBLE (putB b) == 0) = false := by simpa using hgn
    have hcn : (checkB b == 0) = false := by simpa using hc
    clear hgn hf hb hv ob fb hc hx hpl
    generalize getBLE (putB b) = e1 at *
    generalize getBL (putB b) = c1 at *
    generalize checkB b = ck at *
    go_enter Try.func7, Try.ntmps7
    go_upto_region 1 with fail
    rw [HW0.out]
    go_upto_region 4 with (first
      | (go_at_call 8; refine (HF.out _ HB0.out).mono ?_; rintro e w1 ⟨rfl, hb1⟩; have HB1 := Lib.hid hb1; clear hb1; obtain ⟨p0, p1, p2, p3⟩ := HK.out _ HB1.out)
      | (go_at_call 27; refine (HPT.out _ (bel2M HB0.out HB1.out)).mono ?_; rintro e w2 ⟨v2, rfl, ho2, hb2⟩; have HV2 := Lib.hid (own_bs ho2); have HB2 := Lib.hid (bel2M HB1.out hb2); clear ho2 hb2)
      | (go_at_call 26; refine (HGT.out _ _ HV2.out).mono ?_; rintro e w3 ⟨QA, qc, RA, rc, rfl, hk3, hb3⟩; have HK3 := Lib.hid hk3; have HB3 := Lib.hid (bel2M HB2.out hb3); clear hk3 hb3))
    have HX4 := Lib.hid (heap_alloc_new w3 (.cells #[.int .i64 c1.h, .string (strB c1.prev), .slice QA c1.reqs.length qc, .slice RA c1.ress.length rc] 26))
    have HB4' := Lib.hid (alloc1B w3 (.cells #[.int .i64 c1.h, .string (strB c1.prev), .slice QA c1.reqs.length qc, .slice RA c1.ress.length rc] 26))
    have HB4 := Lib.hid (bel2M HB3.out HB4'.out)
    have HK4 := Lib.hid (HK3.out.below HB4'.out)
    have HKC := Lib.hid (show ∀ W : World, W.heap[w3.heap.size]? = some (.cells #[.int .i64 c1.h, .string (strB c1.prev), .slice QA c1.reqs.length qc, .slice RA c1.ress.length rc] 26 (0, 0)) → W.cell? ⟨w3.heap.size, 0, none⟩ = some (.int .i64 c1.h) ∧ W.cell? ⟨w3.heap.size, 1, none⟩ = some (.string (strB c1.prev)) ∧ W.cell? ⟨w3.heap.size, 2, none⟩ = some (.slice QA c1.reqs.length qc) ∧ W.cell? ⟨w3.heap.size, 3, none⟩ = some (.slice RA c1.ress.length rc) from fun W h => ⟨rowCell h 0 _ rfl, rowCell h 1 _ rfl, rowCell h 2 _ rfl, rowCell h 3 _ rfl⟩)
    generalize w3.alloc (.cells #[.int .i64 c1.h, .string (strB c1.prev), .slice QA c1.reqs.length qc, .slice RA c1.ress.length rc] 26) = w4 at *
    obtain ⟨p0, p1, p2, p3⟩ := HK.out _ HB4.out
    obtain ⟨q0, q1, q2, q3⟩ := HKC.out _ HX4.out
    clear hxI
    go_upto_region 6 with (first
      | (go_at_call 14; refine (HCK.out _).mono ?_; rintro e w5 ⟨rfl, hb5⟩; have HB5 := Lib.hid (bel2M HB4.out hb5); have HX5 := Lib.hid (heapB HX4.out hb5); have HK5 := Lib.hid (HK4.out.below hb5); clear hb5; obtain ⟨p0, p1, p2, p3⟩ := HK.out _ HB5.out; obtain ⟨q0, q1, q2, q3⟩ := HKC.out _ HX5.out))
    by_cases hfx : getBLE x = 0
    case neg =>
      have hfn : (getBLE x != 0) = true := by simpa using hfx
      clear hfx hmid hback
      generalize getBLE x = fx at *
      generalize getBL x = dx at *
      go_wp2_with (first
        | (go_at_call 26; refine (HGX.out _ (bel2M HB0.out HB5.out)).mono ?_; rintro e w7 ⟨XA, xc, YA, yc, rfl, hk7, hb7⟩; have HK7 := Lib.hid hk7; have HB7 := Lib.hid (bel2M HB5.out hb7); clear hk7 hb7)
        | (go_at_call 18; refine (HW.out _).mono ?_; rintro e wz ⟨rfl, hbz⟩; have HBZ := Lib.hid (bel2M (bel2M HB7.out (alloc1B _ _)) hbz); clear hbz))
      go_ret
      exact ⟨rfl, bel2M HB0.out HBZ.out⟩
    have hmd := hmid hfx
    have hbk := hback hfx
    rw [hfx] at HGX
    clear hfx hmid hback
    generalize getBL x = dx at *
    go_upto_region 7 with (first
      | (go_at_call 26; refine (HGX.out _ (bel2M HB0.out HB5.out)).mono ?_; rintro e w7 ⟨XA, xc, YA, yc, rfl, hk7, hb7⟩; have HK7 := Lib.hid hk7; have HB7 := Lib.hid (bel2M HB5.out hb7); clear hk7 hb7))
    have HX8 := Lib.hid (heap_alloc_new w7 (.cells #[.int .i64 dx.h, .string (strB dx.prev), .slice XA dx.reqs.length xc, .slice YA dx.ress.length yc] 26))
    have HB8' := Lib.hid (alloc1B w7 (.cells #[.int .i64 dx.h, .string (strB dx.prev), .slice XA dx.reqs.length xc, .slice YA dx.ress.length yc] 26))
    generalize w7.alloc (.cells #[.int .i64 dx.h, .string (strB dx.prev), .slice XA dx.reqs.length xc, .slice YA dx.ress.length yc] 26) = w8 at *
    have HB8 := Lib.hid (bel2M HB7.out HB8'.out)
    have HPD := Lib.hid (show Calls Try.prog 27 #[.agg #[.int .i64 dx.h, .string (strB dx.prev), .slice XA dx.reqs.length xc, .slice YA dx.ress.length yc]] w8 (Puts w8 x) from hbk ▸ bPut2_any dx XA xc YA yc w8 (HK7.out.below HB8'.out) hmd)
    clear hmd hbk
    have d0 := rowCell HX8.out 0 _ rfl
    have d1 := rowCell HX8.out 1 _ rfl
    have d2 := rowCell HX8.out 2 _ rfl
    have d3 := rowCell HX8.out 3 _ rfl
    go_wp2_with (first
      | (go_at_call 27; refine HPD.out.mono ?_; rintro e w9 ⟨v9, rfl, ho9, hb9⟩; have HV9 := Lib.hid (own_bs ho9); have HB9 := Lib.hid (bel2M HB8.out hb9); clear ho9 hb9)
      | (go_at_call 9; refine (HSX.out _ _ (bel2M HB0.out HB9.out) HV9.out).mono ?_; rintro e wq ⟨rfl, rfl⟩)
      | (go_at_call 18; refine (HW.out _).mono ?_; rintro e wz ⟨rfl, hbz⟩; have HBZ := Lib.hid (bel2M HB9.out hbz); clear hbz))
    go_ret
    exact ⟨rfl, bel2M HB0.out HBZ.out⟩

end Go.Proofs.Ytoedjlknhhddfaa
