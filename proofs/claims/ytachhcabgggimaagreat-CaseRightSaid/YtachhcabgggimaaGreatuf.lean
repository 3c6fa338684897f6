/- uf: KRight2 (made by shake.py). -/
import Derived.Test.YtachhcabgggimaaGreatue
namespace Go.Proofs.YtachhcabgggimaaGreat
open Go.RowKit
set_option linter.unusedVariables false
set_option linter.unusedSimpArgs false
set_option maxRecDepth 20000

theorem stg_at {w : World} {SA : Option Addr} {sc : Nat} {ct : Ctr} (h : StgK w SA sc ct.ss) {j : Nat} (hj : j < ct.ss.length) : ∃ (ad : Addr) (A : Option Addr) (c : Nat), SA = some ad ∧ ad.block < w.heap.size ∧ w.cell? (ad.add (j * 3)) = some (.string (stgAt ct (j : Int)).name) ∧
    w.cell? ⟨(ad.add (j * 3)).block, (ad.add (j * 3)).off + 1, none⟩ = some (.int .i64 (stgAt ct (j : Int)).need) ∧ w.cell? ⟨(ad.add (j * 3)).block, (ad.add (j * 3)).off + 2, none⟩ = some (.slice A (stgAt ct (j : Int)).orgs.length c) ∧ Is w (.slice A (stgAt ct (j : Int)).orgs.length c) (stgAt ct (j : Int)).orgs := by
  obtain ⟨-, -, -, h4⟩ := h
  obtain ⟨ad, e1, e2, A, c, e3, e4, e5, e6⟩ := h4 j hj
  have hs : stgAt ct (j : Int) = ct.ss[j] := by
    unfold stgAt
    rw [Int.toNat_natCast, List.getElem?_eq_getElem hj]
    rfl
  rw [hs]
  exact ⟨ad, A, c, e1, e2, e3, e4, e5, e6⟩
set_option maxHeartbeats 16000000 in
theorem rightFor_any (ct : Ctr) (FA : Option Addr) (fc : Nat) (SA : Option Addr) (sc : Nat) (MA : Option Addr) (mc : Nat) (k : Cse) (VA : Option Addr) (vc : Nat) (EA : Option Addr) (ec : Nat) (w : World) (hc : CtK w ct FA fc SA sc MA mc) (hk : CsK w k VA vc EA ec) :
    Calls Tryz.prog 48 #[agC ct.name FA ct.fs.length fc SA ct.ss.length sc MA ct.ms.length mc, .agg (csK k VA vc EA ec)] w (VMk (.bool (rightF ct k)) w) := by
  obtain ⟨id, kc, st, vals, ends, su, sh, sp⟩ := k
  obtain ⟨hv, he⟩ := hk
  dsimp only at hv he ⊢
  have hRF : rightF ct ⟨id, kc, st, vals, ends, su, sh, sp⟩ = (nameB id && (kc.toList == ct.name.toList) && (decide (0 ≤ st) && decide (st < (ct.ss.length : Int))) && ((vals.length == ct.fs.length) && fitK vals ct.fs) && endsR (stgAt ct st).orgs (-1) ends && !(su && sh) && (decide (0 ≤ sp) && decide (sp ≤ 1099511627776))) := rfl
  rw [hRF]
  clear hRF
  have hb2 : Below w.heap.size w ((w.alloc (.cells #[.string ct.name, .slice FA ct.fs.length fc, .slice SA ct.ss.length sc, .slice MA ct.ms.length mc] 33)).alloc (.cells #[.string id, .string kc, .int .i64 st, .slice VA vals.length vc, .slice EA ends.length ec, .bool su, .bool sh, .int .i64 sp] 45)) := (alloc1 _ _).trans ((alloc1 _ _).mono (by simp))
  have hbc := (heap_alloc_new w (.cells #[.string ct.name, .slice FA ct.fs.length fc, .slice SA ct.ss.length sc, .slice MA ct.ms.length mc] 33))
  have hbc2 := belowZ hbc (alloc1 (w.alloc (.cells #[.string ct.name, .slice FA ct.fs.length fc, .slice SA ct.ss.length sc, .slice MA ct.ms.length mc] 33)) (.cells #[.string id, .string kc, .int .i64 st, .slice VA vals.length vc, .slice EA ends.length ec, .bool su, .bool sh, .int .i64 sp] 45))
  have hbk := heap_alloc_new (w.alloc (.cells #[.string ct.name, .slice FA ct.fs.length fc, .slice SA ct.ss.length sc, .slice MA ct.ms.length mc] 33)) (.cells #[.string id, .string kc, .int .i64 st, .slice VA vals.length vc, .slice EA ends.length ec, .bool su, .bool sh, .int .i64 sp] 45)
  rw [World.size_alloc] at hbk
  have HN := Lib.hid (fun W => kName_any id W)
  have HFT := Lib.hid (fun W (hb : Below w.heap.size w W) => fitAll_any VA vc vals FA fc ct.fs W (hv.below hb (Nat.le_refl _)) (hc.f.below hb))
  have HSS := Lib.hid (fun W (hb : Below w.heap.size w W) => hc.s.below hb)
  have HEE := Lib.hid (fun W (hb : Below w.heap.size w W) => Rd.below he hb (Nat.le_refl _))
  have HB0 := Lib.hid hb2
  clear hv he hc hb2 hbc
  generalize nameB id = b0 at *
  generalize ((vals.length == ct.fs.length) && fitK vals ct.fs) = b4 at *
  generalize hh1 : (kc.toList == ct.name.toList) = b1 at *
  go_enter Tryz.func48, Tryz.ntmps48
  go_upto_region 1 with fail
  generalize (w.alloc (.cells #[.string ct.name, .slice FA ct.fs.length fc, .slice SA ct.ss.length sc, .slice MA ct.ms.length mc] 33)).alloc (.cells #[.string id, .string kc, .int .i64 st, .slice VA vals.length vc, .slice EA ends.length ec, .bool su, .bool sh, .int .i64 sp] 45) = w1 at *
  have c0 := (heap_at hbc2 0).trans (rfl : _ = some (Value.string ct.name))
  have c1 := (heap_at hbc2 1).trans (rfl : _ = some (Value.slice FA ct.fs.length fc))
  have c2 := (heap_at hbc2 2).trans (rfl : _ = some (Value.slice SA ct.ss.length sc))
  have c3 := (heap_at hbc2 3).trans (rfl : _ = some (Value.slice MA ct.ms.length mc))
  have k0 := (heap_at hbk 0).trans (rfl : _ = some (Value.string id))
  have k1 := (heap_at hbk 1).trans (rfl : _ = some (Value.string kc))
  have k2 := (heap_at hbk 2).trans (rfl : _ = some (Value.int .i64 st))
  have k3 := (heap_at hbk 3).trans (rfl : _ = some (Value.slice VA vals.length vc))
  have k4 := (heap_at hbk 4).trans (rfl : _ = some (Value.slice EA ends.length ec))
  have k5 := (heap_at hbk 5).trans (rfl : _ = some (Value.bool su))
  have k6 := (heap_at hbk 6).trans (rfl : _ = some (Value.bool sh))
  have k7 := (heap_at hbk 7).trans (rfl : _ = some (Value.int .i64 sp))
  clear hbc2 hbk
  have HK := Lib.hid (show ∀ W, Below w1.heap.size w1 W → (fun W => Below w1.heap.size w1 W ∧ W.cell? ⟨w.heap.size, 0, none⟩ = some (.string ct.name) ∧ W.cell? ⟨w.heap.size, 1, none⟩ = some (.slice FA ct.fs.length fc) ∧ W.cell? ⟨w.heap.size, 2, none⟩ = some (.slice SA ct.ss.length sc) ∧ W.cell? ⟨w.heap.size, 3, none⟩ = some (.slice MA ct.ms.length mc) ∧ W.cell? ⟨(w.heap.size + 1), 0, none⟩ = some (.string id) ∧ W.cell? ⟨(w.heap.size + 1), 1, none⟩ = some (.string kc) ∧ W.cell? ⟨(w.heap.size + 1), 2, none⟩ = some (.int .i64 st) ∧ W.cell? ⟨(w.heap.size + 1), 3, none⟩ = some (.slice VA vals.length vc) ∧ W.cell? ⟨(w.heap.size + 1), 4, none⟩ = some (.slice EA ends.length ec) ∧ W.cell? ⟨(w.heap.size + 1), 5, none⟩ = some (.bool su) ∧ W.cell? ⟨(w.heap.size + 1), 6, none⟩ = some (.bool sh) ∧ W.cell? ⟨(w.heap.size + 1), 7, none⟩ = some (.int .i64 sp)) W from fun W h => ⟨h, (h.cell (World.block_lt_of_cell? _ _ c0)).trans c0, (h.cell (World.block_lt_of_cell? _ _ c1)).trans c1, (h.cell (World.block_lt_of_cell? _ _ c2)).trans c2, (h.cell (World.block_lt_of_cell? _ _ c3)).trans c3, (h.cell (World.block_lt_of_cell? _ _ k0)).trans k0, (h.cell (World.block_lt_of_cell? _ _ k1)).trans k1, (h.cell (World.block_lt_of_cell? _ _ k2)).trans k2, (h.cell (World.block_lt_of_cell? _ _ k3)).trans k3, (h.cell (World.block_lt_of_cell? _ _ k4)).trans k4, (h.cell (World.block_lt_of_cell? _ _ k5)).trans k5, (h.cell (World.block_lt_of_cell? _ _ k6)).trans k6, (h.cell (World.block_lt_of_cell? _ _ k7)).trans k7⟩)
  have HBr0 := Lib.hid (show Below w1.heap.size w1 w1.drew from (Below.refl _ _).drew)
  clear c0 c1 c2 c3 k0 k1 k2 k3 k4 k5 k6 k7
  refine wp_region_held_drew (S := (fun W => Below w1.heap.size w1 W ∧ W.cell? ⟨w.heap.size, 0, none⟩ = some (.string ct.name) ∧ W.cell? ⟨w.heap.size, 1, none⟩ = some (.slice FA ct.fs.length fc) ∧ W.cell? ⟨w.heap.size, 2, none⟩ = some (.slice SA ct.ss.length sc) ∧ W.cell? ⟨w.heap.size, 3, none⟩ = some (.slice MA ct.ms.length mc) ∧ W.cell? ⟨(w.heap.size + 1), 0, none⟩ = some (.string id) ∧ W.cell? ⟨(w.heap.size + 1), 1, none⟩ = some (.string kc) ∧ W.cell? ⟨(w.heap.size + 1), 2, none⟩ = some (.int .i64 st) ∧ W.cell? ⟨(w.heap.size + 1), 3, none⟩ = some (.slice VA vals.length vc) ∧ W.cell? ⟨(w.heap.size + 1), 4, none⟩ = some (.slice EA ends.length ec) ∧ W.cell? ⟨(w.heap.size + 1), 5, none⟩ = some (.bool su) ∧ W.cell? ⟨(w.heap.size + 1), 6, none⟩ = some (.bool sh) ∧ W.cell? ⟨(w.heap.size + 1), 7, none⟩ = some (.int .i64 sp))) (by kernel_rfl) (HK.out _ HBr0.out) (fun hHeld => ?_)
  refine tk 0 ?_
  (try simp only [Act.put, sA, sB, sC])
  refine tk 1 ?_
  (try simp only [Act.put, sA, sB, sC])
  refine wpAnyH_ready (rs := [2]) (by kernel_rfl) (by simp) ?_
  refine AllReadyH.cons (o := ?o3) ?g3 (fun K hK => ?j3) AllReadyH.nil
  case g3 => (simp only [gA, gB, gC]; rfl)
  go_simp
  refine (HN.out _).mono ?_
  rintro e w_ ⟨rfl, rfl⟩
  refine hK.out _ _ ?_ (fun hHeld => ?_)
  · (try dsimp only); (first | assumption | exact HK.out _ HBr2.out | exact HK.out _ HBr1.out | exact HK.out _ HBr0.out)
  clear hK K
  (try simp only [Act.put, sA, sB, sC])
  cases b0
  · skip
    refine tk 3 ?_
    (try simp only [Act.put, sA, sB, sC])
    refine sk 4 ?_
    (try simp only [Act.put, sA, sB, sC])
    refine sk 5 ?_
    (try simp only [Act.put, sA, sB, sC])
    refine sk 6 ?_
    (try simp only [Act.put, sA, sB, sC])
    refine sk 7 ?_
    (try simp only [Act.put, sA, sB, sC])
    refine sk 8 ?_
    (try simp only [Act.put, sA, sB, sC])
    refine tk 9 ?_
    (try simp only [Act.put, sA, sB, sC])
    refine tk 10 ?_
    (try simp only [Act.put, sA, sB, sC])
    refine sk 11 ?_
    (try simp only [Act.put, sA, sB, sC])
    refine sk 12 ?_
    (try simp only [Act.put, sA, sB, sC])
    refine sk 13 ?_
    (try simp only [Act.put, sA, sB, sC])
    refine tk 14 ?_
    (try simp only [Act.put, sA, sB, sC])
    refine tk 15 ?_
    (try simp only [Act.put, sA, sB, sC])
    refine sk 16 ?_
    (try simp only [Act.put, sA, sB, sC])
    refine sk 17 ?_
    (try simp only [Act.put, sA, sB, sC])
    refine sk 18 ?_
    (try simp only [Act.put, sA, sB, sC])
    refine sk 19 ?_
    (try simp only [Act.put, sA, sB, sC])
    refine sk 20 ?_
    (try simp only [Act.put, sA, sB, sC])
    refine sk 21 ?_
    (try simp only [Act.put, sA, sB, sC])
    refine tk 22 ?_
    (try simp only [Act.put, sA, sB, sC])
    refine tk 23 ?_
    (try simp only [Act.put, sA, sB, sC])
    refine sk 24 ?_
    (try simp only [Act.put, sA, sB, sC])
    refine sk 25 ?_
    (try simp only [Act.put, sA, sB, sC])
    refine sk 26 ?_
    (try simp only [Act.put, sA, sB, sC])
    refine sk 27 ?_
    (try simp only [Act.put, sA, sB, sC])
    refine sk 28 ?_
    (try simp only [Act.put, sA, sB, sC])
    refine tk 29 ?_
    (try simp only [Act.put, sA, sB, sC])
    refine tk 30 ?_
    (try simp only [Act.put, sA, sB, sC])
    refine sk 31 ?_
    (try simp only [Act.put, sA, sB, sC])
    refine sk 32 ?_
    (try simp only [Act.put, sA, sB, sC])
    refine sk 33 ?_
    (try simp only [Act.put, sA, sB, sC])
    refine sk 34 ?_
    (try simp only [Act.put, sA, sB, sC])
    refine sk 35 ?_
    (try simp only [Act.put, sA, sB, sC])
    refine sk 36 ?_
    (try simp only [Act.put, sA, sB, sC])
    refine sk 37 ?_
    (try simp only [Act.put, sA, sB, sC])
    refine sk 38 ?_
    (try simp only [Act.put, sA, sB, sC])
    refine sk 39 ?_
    (try simp only [Act.put, sA, sB, sC])
    refine tk 40 ?_
    (try simp only [Act.put, sA, sB, sC])
    refine tk 41 ?_
    (try simp only [Act.put, sA, sB, sC])
    refine sk 42 ?_
    (try simp only [Act.put, sA, sB, sC])
    refine sk 43 ?_
    (try simp only [Act.put, sA, sB, sC])
    refine sk 44 ?_
    (try simp only [Act.put, sA, sB, sC])
    refine sk 45 ?_
    (try simp only [Act.put, sA, sB, sC])
    refine sk 46 ?_
    (try simp only [Act.put, sA, sB, sC])
    refine sk 47 ?_
    (try simp only [Act.put, sA, sB, sC])
    refine sk 48 ?_
    (try simp only [Act.put, sA, sB, sC])
    refine tk 49 ?_
    (try simp only [Act.put, sA, sB, sC])
    refine tk 50 ?_
    (try simp only [Act.put, sA, sB, sC])
    refine sk 51 ?_
    (try simp only [Act.put, sA, sB, sC])
    refine sk 52 ?_
    (try simp only [Act.put, sA, sB, sC])
    refine sk 53 ?_
    (try simp only [Act.put, sA, sB, sC])
    refine tk 54 ?_
    (try simp only [Act.put, sA, sB, sC])
    refine tk 55 ?_
    (try simp only [Act.put, sA, sB, sC])
    refine sk 56 ?_
    (try simp only [Act.put, sA, sB, sC])
    refine sk 57 ?_
    (try simp only [Act.put, sA, sB, sC])
    refine sk 58 ?_
    (try simp only [Act.put, sA, sB, sC])
    refine tk 59 ?_
    (try simp only [Act.put, sA, sB, sC])
    refine tk 60 ?_
    (try simp only [Act.put, sA, sB, sC])
    refine wpAnyH_done (by kernel_rfl) ?_ _
    go_wp2
    go_ret
    exact ⟨ret_bool (by first | (simp [*]; done) | (simp [*]; omega)), bel2 HB0.out (by first | exact HBr2.out | exact HBr1.out | exact HBr0.out)⟩
  · skip
    refine tk 3 ?_
    (try simp only [Act.put, sA, sB, sC])
    refine tk 4 ?_
    (try simp only [Act.put, sA, sB, sC])
    refine tk 5 ?_
    (try simp only [Act.put, sA, sB, sC])
    refine tk 6 ?_
    (try simp only [Act.put, sA, sB, sC])
    refine tk 7 ?_
    (try simp only [Act.put, sA, sB, sC])
    cases h1 : b1
    · skip
      refine tk 8 ?_
      (try simp only [Act.put, sA, sB, sC])
      refine tk 9 ?_
      (try simp only [Act.put, sA, sB, sC])
      refine tk 10 ?_
      (try simp only [Act.put, sA, sB, sC])
      refine sk 11 ?_
      (try simp only [Act.put, sA, sB, sC])
      refine sk 12 ?_
      (try simp only [Act.put, sA, sB, sC])
      refine sk 13 ?_
      (try simp only [Act.put, sA, sB, sC])
      refine tk 14 ?_
      (try simp only [Act.put, sA, sB, sC])
      refine tk 15 ?_
      (try simp only [Act.put, sA, sB, sC])
      refine sk 16 ?_
      (try simp only [Act.put, sA, sB, sC])
      refine sk 17 ?_
      (try simp only [Act.put, sA, sB, sC])
      refine sk 18 ?_
      (try simp only [Act.put, sA, sB, sC])
      refine sk 19 ?_
      (try simp only [Act.put, sA, sB, sC])
      refine sk 20 ?_
      (try simp only [Act.put, sA, sB, sC])
      refine sk 21 ?_
      (try simp only [Act.put, sA, sB, sC])
      refine tk 22 ?_
      (try simp only [Act.put, sA, sB, sC])
      refine tk 23 ?_
      (try simp only [Act.put, sA, sB, sC])
      refine sk 24 ?_
      (try simp only [Act.put, sA, sB, sC])
      refine sk 25 ?_
      (try simp only [Act.put, sA, sB, sC])
      refine sk 26 ?_
      (try simp only [Act.put, sA, sB, sC])
      refine sk 27 ?_
      (try simp only [Act.put, sA, sB, sC])
      refine sk 28 ?_
      (try simp only [Act.put, sA, sB, sC])
      refine tk 29 ?_
      (try simp only [Act.put, sA, sB, sC])
      refine tk 30 ?_
      (try simp only [Act.put, sA, sB, sC])
      refine sk 31 ?_
      (try simp only [Act.put, sA, sB, sC])
      refine sk 32 ?_
      (try simp only [Act.put, sA, sB, sC])
      refine sk 33 ?_
      (try simp only [Act.put, sA, sB, sC])
      refine sk 34 ?_
      (try simp only [Act.put, sA, sB, sC])
      refine sk 35 ?_
      (try simp only [Act.put, sA, sB, sC])
      refine sk 36 ?_
      (try simp only [Act.put, sA, sB, sC])
      refine sk 37 ?_
      (try simp only [Act.put, sA, sB, sC])
      refine sk 38 ?_
      (try simp only [Act.put, sA, sB, sC])
      refine sk 39 ?_
      (try simp only [Act.put, sA, sB, sC])
      refine tk 40 ?_
      (try simp only [Act.put, sA, sB, sC])
      refine tk 41 ?_
      (try simp only [Act.put, sA, sB, sC])
      refine sk 42 ?_
      (try simp only [Act.put, sA, sB, sC])
      refine sk 43 ?_
      (try simp only [Act.put, sA, sB, sC])
      refine sk 44 ?_
      (try simp only [Act.put, sA, sB, sC])
      refine sk 45 ?_
      (try simp only [Act.put, sA, sB, sC])
      refine sk 46 ?_
      (try simp only [Act.put, sA, sB, sC])
      refine sk 47 ?_
      (try simp only [Act.put, sA, sB, sC])
      refine sk 48 ?_
      (try simp only [Act.put, sA, sB, sC])
      refine tk 49 ?_
      (try simp only [Act.put, sA, sB, sC])
      refine tk 50 ?_
      (try simp only [Act.put, sA, sB, sC])
      refine sk 51 ?_
      (try simp only [Act.put, sA, sB, sC])
      refine sk 52 ?_
      (try simp only [Act.put, sA, sB, sC])
      refine sk 53 ?_
      (try simp only [Act.put, sA, sB, sC])
      refine tk 54 ?_
      (try simp only [Act.put, sA, sB, sC])
      refine tk 55 ?_
      (try simp only [Act.put, sA, sB, sC])
      refine sk 56 ?_
      (try simp only [Act.put, sA, sB, sC])
      refine sk 57 ?_
      (try simp only [Act.put, sA, sB, sC])
      refine sk 58 ?_
      (try simp only [Act.put, sA, sB, sC])
      refine tk 59 ?_
      (try simp only [Act.put, sA, sB, sC])
      refine tk 60 ?_
      (try simp only [Act.put, sA, sB, sC])
      refine wpAnyH_done (by kernel_rfl) ?_ _
      go_wp2
      go_ret
      exact ⟨ret_bool (by first | (simp [*]; done) | (simp [*]; omega)), bel2 HB0.out (by first | exact HBr2.out | exact HBr1.out | exact HBr0.out)⟩
    · skip
      refine tk 8 ?_
      (try simp only [Act.put, sA, sB, sC])
      refine tk 9 ?_
      (try simp only [Act.put, sA, sB, sC])
      refine tk 10 ?_
      (try simp only [Act.put, sA, sB, sC])
      refine tk 11 ?_
      (try simp only [Act.put, sA, sB, sC])
      refine tk 12 ?_
      (try simp only [Act.put, sA, sB, sC])
      by_cases h2 : (0 : Int) ≤ st
      · skip
        obtain ⟨j, rfl⟩ := Int.eq_ofNat_of_zero_le h2
        refine tk 13 ?_
        (try simp only [Act.put, sA, sB, sC])
        refine tk 14 ?_
        (try simp only [Act.put, sA, sB, sC])
        refine tk 15 ?_
        (try simp only [Act.put, sA, sB, sC])
        refine tk 16 ?_
        (try simp only [Act.put, sA, sB, sC])
        refine tk 17 ?_
        (try simp only [Act.put, sA, sB, sC])
        refine tk 18 ?_
        (try simp only [Act.put, sA, sB, sC])
        refine tk 19 ?_
        (try simp only [Act.put, sA, sB, sC])
        refine tk 20 ?_
        (try simp only [Act.put, sA, sB, sC])
        by_cases h3 : (j : Int) < (ct.ss.length : Int)
        · skip
          have hjl : j < ct.ss.length := by omega
          refine tk 21 ?_
          (try simp only [Act.put, sA, sB, sC])
          refine tk 22 ?_
          (try simp only [Act.put, sA, sB, sC])
          refine tk 23 ?_
          (try simp only [Act.put, sA, sB, sC])
          refine tk 24 ?_
          (try simp only [Act.put, sA, sB, sC])
          refine tk 25 ?_
          (try simp only [Act.put, sA, sB, sC])
          refine tk 26 ?_
          (try simp only [Act.put, sA, sB, sC])
          refine tk 27 ?_
          (try simp only [Act.put, sA, sB, sC])
          refine wpAnyH_ready (rs := [28]) (by kernel_rfl) (by simp) ?_
          refine AllReadyH.cons (o := ?o140) ?g140 (fun K hK => ?j140) AllReadyH.nil
          case g140 => (simp only [gA, gB, gC]; rfl)
          go_simp
          refine (HFT.out _ (bel2 HB0.out HBr0.out)).mono ?_
          rintro e wr1 ⟨rfl, hbr1⟩
          have HBr1 := Lib.hid (bel2 HBr0.out hbr1)
          clear hbr1
          refine hK.out _ _ ?_ (fun hHeld => ?_)
          · (try dsimp only); (first | assumption | exact HK.out _ HBr2.out | exact HK.out _ HBr1.out | exact HK.out _ HBr0.out)
          clear hK K
          (try simp only [Act.put, sA, sB, sC])
          cases b4
          · skip
            refine tk 29 ?_
            (try simp only [Act.put, sA, sB, sC])
            refine tk 30 ?_
            (try simp only [Act.put, sA, sB, sC])
            refine sk 31 ?_
            (try simp only [Act.put, sA, sB, sC])
            refine sk 32 ?_
            (try simp only [Act.put, sA, sB, sC])
            refine sk 33 ?_
            (try simp only [Act.put, sA, sB, sC])
            refine sk 34 ?_
            (try simp only [Act.put, sA, sB, sC])
            refine sk 35 ?_
            (try simp only [Act.put, sA, sB, sC])
            refine sk 36 ?_
            (try simp only [Act.put, sA, sB, sC])
            refine sk 37 ?_
            (try simp only [Act.put, sA, sB, sC])
            refine sk 38 ?_
            (try simp only [Act.put, sA, sB, sC])
            refine sk 39 ?_
            (try simp only [Act.put, sA, sB, sC])
            refine tk 40 ?_
            (try simp only [Act.put, sA, sB, sC])
            refine tk 41 ?_
            (try simp only [Act.put, sA, sB, sC])
            refine sk 42 ?_
            (try simp only [Act.put, sA, sB, sC])
            refine sk 43 ?_
            (try simp only [Act.put, sA, sB, sC])
            refine sk 44 ?_
            (try simp only [Act.put, sA, sB, sC])
            refine sk 45 ?_
            (try simp only [Act.put, sA, sB, sC])
            refine sk 46 ?_
            (try simp only [Act.put, sA, sB, sC])
            refine sk 47 ?_
            (try simp only [Act.put, sA, sB, sC])
            refine sk 48 ?_
            (try simp only [Act.put, sA, sB, sC])
            refine tk 49 ?_
            (try simp only [Act.put, sA, sB, sC])
            refine tk 50 ?_
            (try simp only [Act.put, sA, sB, sC])
            refine sk 51 ?_
            (try simp only [Act.put, sA, sB, sC])
            refine sk 52 ?_
            (try simp only [Act.put, sA, sB, sC])
            refine sk 53 ?_
            (try simp only [Act.put, sA, sB, sC])
            refine tk 54 ?_
            (try simp only [Act.put, sA, sB, sC])
            refine tk 55 ?_
            (try simp only [Act.put, sA, sB, sC])
            refine sk 56 ?_
            (try simp only [Act.put, sA, sB, sC])
            refine sk 57 ?_
            (try simp only [Act.put, sA, sB, sC])
            refine sk 58 ?_
            (try simp only [Act.put, sA, sB, sC])
            refine tk 59 ?_
            (try simp only [Act.put, sA, sB, sC])
            refine tk 60 ?_
            (try simp only [Act.put, sA, sB, sC])
            refine wpAnyH_done (by kernel_rfl) ?_ _
            go_wp2
            go_ret
            exact ⟨ret_bool (by first | (simp [*]; done) | (simp [*]; omega)), bel2 HB0.out (by first | exact HBr2.out | exact HBr1.out | exact HBr0.out)⟩
          · skip
            obtain ⟨sd, A, c, rfl, hsl, s0, s1, s2, hso⟩ := stg_at (HSS.out _ (bel2 HB0.out HBr1.out)) hjl
            have HEN := Lib.hid (rightEnds_any EA ec ends (stgAt ct j) A c wr1 (HEE.out _ (bel2 HB0.out HBr1.out)) hso)
            generalize endsR (stgAt ct (j : Int)).orgs (-1) ends = b5 at *
            generalize stgAt ct (j : Int) = sg at *
            clear hso
            refine tk 29 ?_
            (try simp only [Act.put, sA, sB, sC])
            refine tk 30 ?_
            (try simp only [Act.put, sA, sB, sC])
            refine tk 31 ?_
            (try simp only [Act.put, sA, sB, sC])
            refine tk 32 ?_
            (try simp only [Act.put, sA, sB, sC])
            refine tk 33 ?_
            (try simp only [Act.put, sA, sB, sC])
            refine tk 34 ?_
            (try simp only [Act.put, sA, sB, sC])
            refine tk 35 ?_
            (try simp only [Act.put, sA, sB, sC])
            refine tk 36 ?_
            (try simp only [Act.put, sA, sB, sC])
            refine tk 37 ?_
            (try simp only [Act.put, sA, sB, sC])
            refine wpAnyH_ready (rs := [38]) (by kernel_rfl) (by simp) ?_
            refine AllReadyH.cons (o := ?o182) ?g182 (fun K hK => ?j182) AllReadyH.nil
            case g182 => (simp only [gA, gB, gC]; rfl)
            go_simp
            refine hK.out _ _ ?_ (fun hHeld => ?_)
            · (try dsimp only); (first | assumption | exact HK.out _ HBr2.out | exact HK.out _ HBr1.out | exact HK.out _ HBr0.out)
            clear hK K
            (try simp only [Act.put, sA, sB, sC])
            refine wpAnyH_ready (rs := [39]) (by kernel_rfl) (by simp) ?_
            refine AllReadyH.cons (o := ?o183) ?g183 (fun K hK => ?j183) AllReadyH.nil
            case g183 => (simp only [gA, gB, gC]; rfl)
            go_simp
            refine HEN.out.mono ?_
            rintro e wr2 ⟨rfl, hbr2⟩
            have HBr2 := Lib.hid (bel2 HBr1.out hbr2)
            clear hbr2
            refine hK.out _ _ ?_ (fun hHeld => ?_)
            · (try dsimp only); (first | assumption | exact HK.out _ HBr2.out | exact HK.out _ HBr1.out | exact HK.out _ HBr0.out)
            clear hK K
            (try simp only [Act.put, sA, sB, sC])
            cases b5
            · skip
              refine tk 40 ?_
              (try simp only [Act.put, sA, sB, sC])
              refine tk 41 ?_
              (try simp only [Act.put, sA, sB, sC])
              refine sk 42 ?_
              (try simp only [Act.put, sA, sB, sC])
              refine sk 43 ?_
              (try simp only [Act.put, sA, sB, sC])
              refine sk 44 ?_
              (try simp only [Act.put, sA, sB, sC])
              refine sk 45 ?_
              (try simp only [Act.put, sA, sB, sC])
              refine sk 46 ?_
              (try simp only [Act.put, sA, sB, sC])
              refine sk 47 ?_
              (try simp only [Act.put, sA, sB, sC])
              refine sk 48 ?_
              (try simp only [Act.put, sA, sB, sC])
              refine tk 49 ?_
              (try simp only [Act.put, sA, sB, sC])
              refine tk 50 ?_
              (try simp only [Act.put, sA, sB, sC])
              refine sk 51 ?_
              (try simp only [Act.put, sA, sB, sC])
              refine sk 52 ?_
              (try simp only [Act.put, sA, sB, sC])
              refine sk 53 ?_
              (try simp only [Act.put, sA, sB, sC])
              refine tk 54 ?_
              (try simp only [Act.put, sA, sB, sC])
              refine tk 55 ?_
              (try simp only [Act.put, sA, sB, sC])
              refine sk 56 ?_
              (try simp only [Act.put, sA, sB, sC])
              refine sk 57 ?_
              (try simp only [Act.put, sA, sB, sC])
              refine sk 58 ?_
              (try simp only [Act.put, sA, sB, sC])
              refine tk 59 ?_
              (try simp only [Act.put, sA, sB, sC])
              refine tk 60 ?_
              (try simp only [Act.put, sA, sB, sC])
              refine wpAnyH_done (by kernel_rfl) ?_ _
              go_wp2
              go_ret
              exact ⟨ret_bool (by first | (simp [*]; done) | (simp [*]; omega)), bel2 HB0.out (by first | exact HBr2.out | exact HBr1.out | exact HBr0.out)⟩
            · skip
              refine tk 40 ?_
              (try simp only [Act.put, sA, sB, sC])
              refine tk 41 ?_
              (try simp only [Act.put, sA, sB, sC])
              refine tk 42 ?_
              (try simp only [Act.put, sA, sB, sC])
              cases su
              · skip
                refine tk 43 ?_
                (try simp only [Act.put, sA, sB, sC])
                refine tk 44 ?_
                (try simp only [Act.put, sA, sB, sC])
                refine sk 45 ?_
                (try simp only [Act.put, sA, sB, sC])
                refine sk 46 ?_
                (try simp only [Act.put, sA, sB, sC])
                refine tk 47 ?_
                (try simp only [Act.put, sA, sB, sC])
                refine tk 48 ?_
                (try simp only [Act.put, sA, sB, sC])
                refine tk 49 ?_
                (try simp only [Act.put, sA, sB, sC])
                refine tk 50 ?_
                (try simp only [Act.put, sA, sB, sC])
                refine tk 51 ?_
                (try simp only [Act.put, sA, sB, sC])
                refine tk 52 ?_
                (try simp only [Act.put, sA, sB, sC])
                by_cases h7 : (0 : Int) ≤ sp
                · skip
                  refine tk 53 ?_
                  (try simp only [Act.put, sA, sB, sC])
                  refine tk 54 ?_
                  (try simp only [Act.put, sA, sB, sC])
                  refine tk 55 ?_
                  (try simp only [Act.put, sA, sB, sC])
                  refine tk 56 ?_
                  (try simp only [Act.put, sA, sB, sC])
                  refine tk 57 ?_
                  (try simp only [Act.put, sA, sB, sC])
                  by_cases h8 : sp ≤ 1099511627776
                  · skip
                    refine tk 58 ?_
                    (try simp only [Act.put, sA, sB, sC])
                    refine tk 59 ?_
                    (try simp only [Act.put, sA, sB, sC])
                    refine tk 60 ?_
                    (try simp only [Act.put, sA, sB, sC])
                    refine wpAnyH_done (by kernel_rfl) ?_ _
                    go_wp2
                    go_ret
                    exact ⟨ret_bool (by first | (simp [*]; done) | (simp [*]; omega)), bel2 HB0.out (by first | exact HBr2.out | exact HBr1.out | exact HBr0.out)⟩
                  · skip
                    refine tk 58 ?_
                    (try simp only [Act.put, sA, sB, sC])
                    refine tk 59 ?_
                    (try simp only [Act.put, sA, sB, sC])
                    refine tk 60 ?_
                    (try simp only [Act.put, sA, sB, sC])
                    refine wpAnyH_done (by kernel_rfl) ?_ _
                    go_wp2
                    go_ret
                    exact ⟨ret_bool (by first | (simp [*]; done) | (simp [*]; omega)), bel2 HB0.out (by first | exact HBr2.out | exact HBr1.out | exact HBr0.out)⟩
                · skip
                  refine tk 53 ?_
                  (try simp only [Act.put, sA, sB, sC])
                  refine tk 54 ?_
                  (try simp only [Act.put, sA, sB, sC])
                  refine tk 55 ?_
                  (try simp only [Act.put, sA, sB, sC])
                  refine sk 56 ?_
                  (try simp only [Act.put, sA, sB, sC])
                  refine sk 57 ?_
                  (try simp only [Act.put, sA, sB, sC])
                  refine sk 58 ?_
                  (try simp only [Act.put, sA, sB, sC])
                  refine tk 59 ?_
                  (try simp only [Act.put, sA, sB, sC])
                  refine tk 60 ?_
                  (try simp only [Act.put, sA, sB, sC])
                  refine wpAnyH_done (by kernel_rfl) ?_ _
                  go_wp2
                  go_ret
                  exact ⟨ret_bool (by first | (simp [*]; done) | (simp [*]; omega)), bel2 HB0.out (by first | exact HBr2.out | exact HBr1.out | exact HBr0.out)⟩
              · skip
                refine tk 43 ?_
                (try simp only [Act.put, sA, sB, sC])
                refine tk 44 ?_
                (try simp only [Act.put, sA, sB, sC])
                refine tk 45 ?_
                (try simp only [Act.put, sA, sB, sC])
                cases sh
                · skip
                  refine tk 46 ?_
                  (try simp only [Act.put, sA, sB, sC])
                  refine tk 47 ?_
                  (try simp only [Act.put, sA, sB, sC])
                  refine tk 48 ?_
                  (try simp only [Act.put, sA, sB, sC])
                  refine tk 49 ?_
                  (try simp only [Act.put, sA, sB, sC])
                  refine tk 50 ?_
                  (try simp only [Act.put, sA, sB, sC])
                  refine tk 51 ?_
                  (try simp only [Act.put, sA, sB, sC])
                  refine tk 52 ?_
                  (try simp only [Act.put, sA, sB, sC])
                  by_cases h7 : (0 : Int) ≤ sp
                  · skip
                    refine tk 53 ?_
                    (try simp only [Act.put, sA, sB, sC])
                    refine tk 54 ?_
                    (try simp only [Act.put, sA, sB, sC])
                    refine tk 55 ?_
                    (try simp only [Act.put, sA, sB, sC])
                    refine tk 56 ?_
                    (try simp only [Act.put, sA, sB, sC])
                    refine tk 57 ?_
                    (try simp only [Act.put, sA, sB, sC])
                    by_cases h8 : sp ≤ 1099511627776
                    · skip
                      refine tk 58 ?_
                      (try simp only [Act.put, sA, sB, sC])
                      refine tk 59 ?_
                      (try simp only [Act.put, sA, sB, sC])
                      refine tk 60 ?_
                      (try simp only [Act.put, sA, sB, sC])
                      refine wpAnyH_done (by kernel_rfl) ?_ _
                      go_wp2
                      go_ret
                      exact ⟨ret_bool (by first | (simp [*]; done) | (simp [*]; omega)), bel2 HB0.out (by first | exact HBr2.out | exact HBr1.out | exact HBr0.out)⟩
                    · skip
                      refine tk 58 ?_
                      (try simp only [Act.put, sA, sB, sC])
                      refine tk 59 ?_
                      (try simp only [Act.put, sA, sB, sC])
                      refine tk 60 ?_
                      (try simp only [Act.put, sA, sB, sC])
                      refine wpAnyH_done (by kernel_rfl) ?_ _
                      go_wp2
                      go_ret
                      exact ⟨ret_bool (by first | (simp [*]; done) | (simp [*]; omega)), bel2 HB0.out (by first | exact HBr2.out | exact HBr1.out | exact HBr0.out)⟩
                  · skip
                    refine tk 53 ?_
                    (try simp only [Act.put, sA, sB, sC])
                    refine tk 54 ?_
                    (try simp only [Act.put, sA, sB, sC])
                    refine tk 55 ?_
                    (try simp only [Act.put, sA, sB, sC])
                    refine sk 56 ?_
                    (try simp only [Act.put, sA, sB, sC])
                    refine sk 57 ?_
                    (try simp only [Act.put, sA, sB, sC])
                    refine sk 58 ?_
                    (try simp only [Act.put, sA, sB, sC])
                    refine tk 59 ?_
                    (try simp only [Act.put, sA, sB, sC])
                    refine tk 60 ?_
                    (try simp only [Act.put, sA, sB, sC])
                    refine wpAnyH_done (by kernel_rfl) ?_ _
                    go_wp2
                    go_ret
                    exact ⟨ret_bool (by first | (simp [*]; done) | (simp [*]; omega)), bel2 HB0.out (by first | exact HBr2.out | exact HBr1.out | exact HBr0.out)⟩
                · skip
                  refine tk 46 ?_
                  (try simp only [Act.put, sA, sB, sC])
                  refine tk 47 ?_
                  (try simp only [Act.put, sA, sB, sC])
                  refine tk 48 ?_
                  (try simp only [Act.put, sA, sB, sC])
                  refine tk 49 ?_
                  (try simp only [Act.put, sA, sB, sC])
                  refine tk 50 ?_
                  (try simp only [Act.put, sA, sB, sC])
                  refine sk 51 ?_
                  (try simp only [Act.put, sA, sB, sC])
                  refine sk 52 ?_
                  (try simp only [Act.put, sA, sB, sC])
                  refine sk 53 ?_
                  (try simp only [Act.put, sA, sB, sC])
                  refine tk 54 ?_
                  (try simp only [Act.put, sA, sB, sC])
                  refine tk 55 ?_
                  (try simp only [Act.put, sA, sB, sC])
                  refine sk 56 ?_
                  (try simp only [Act.put, sA, sB, sC])
                  refine sk 57 ?_
                  (try simp only [Act.put, sA, sB, sC])
                  refine sk 58 ?_
                  (try simp only [Act.put, sA, sB, sC])
                  refine tk 59 ?_
                  (try simp only [Act.put, sA, sB, sC])
                  refine tk 60 ?_
                  (try simp only [Act.put, sA, sB, sC])
                  refine wpAnyH_done (by kernel_rfl) ?_ _
                  go_wp2
                  go_ret
                  exact ⟨ret_bool (by first | (simp [*]; done) | (simp [*]; omega)), bel2 HB0.out (by first | exact HBr2.out | exact HBr1.out | exact HBr0.out)⟩
        · skip
          refine tk 21 ?_
          (try simp only [Act.put, sA, sB, sC])
          refine tk 22 ?_
          (try simp only [Act.put, sA, sB, sC])
          refine tk 23 ?_
          (try simp only [Act.put, sA, sB, sC])
          refine sk 24 ?_
          (try simp only [Act.put, sA, sB, sC])
          refine sk 25 ?_
          (try simp only [Act.put, sA, sB, sC])
          refine sk 26 ?_
          (try simp only [Act.put, sA, sB, sC])
          refine sk 27 ?_
          (try simp only [Act.put, sA, sB, sC])
          refine sk 28 ?_
          (try simp only [Act.put, sA, sB, sC])
          refine tk 29 ?_
          (try simp only [Act.put, sA, sB, sC])
          refine tk 30 ?_
          (try simp only [Act.put, sA, sB, sC])
          refine sk 31 ?_
          (try simp only [Act.put, sA, sB, sC])
          refine sk 32 ?_
          (try simp only [Act.put, sA, sB, sC])
          refine sk 33 ?_
          (try simp only [Act.put, sA, sB, sC])
          refine sk 34 ?_
          (try simp only [Act.put, sA, sB, sC])
          refine sk 35 ?_
          (try simp only [Act.put, sA, sB, sC])
          refine sk 36 ?_
          (try simp only [Act.put, sA, sB, sC])
          refine sk 37 ?_
          (try simp only [Act.put, sA, sB, sC])
          refine sk 38 ?_
          (try simp only [Act.put, sA, sB, sC])
          refine sk 39 ?_
          (try simp only [Act.put, sA, sB, sC])
          refine tk 40 ?_
          (try simp only [Act.put, sA, sB, sC])
          refine tk 41 ?_
          (try simp only [Act.put, sA, sB, sC])
          refine sk 42 ?_
          (try simp only [Act.put, sA, sB, sC])
          refine sk 43 ?_
          (try simp only [Act.put, sA, sB, sC])
          refine sk 44 ?_
          (try simp only [Act.put, sA, sB, sC])
          refine sk 45 ?_
          (try simp only [Act.put, sA, sB, sC])
          refine sk 46 ?_
          (try simp only [Act.put, sA, sB, sC])
          refine sk 47 ?_
          (try simp only [Act.put, sA, sB, sC])
          refine sk 48 ?_
          (try simp only [Act.put, sA, sB, sC])
          refine tk 49 ?_
          (try simp only [Act.put, sA, sB, sC])
          refine tk 50 ?_
          (try simp only [Act.put, sA, sB, sC])
          refine sk 51 ?_
          (try simp only [Act.put, sA, sB, sC])
          refine sk 52 ?_
          (try simp only [Act.put, sA, sB, sC])
          refine sk 53 ?_
          (try simp only [Act.put, sA, sB, sC])
          refine tk 54 ?_
          (try simp only [Act.put, sA, sB, sC])
          refine tk 55 ?_
          (try simp only [Act.put, sA, sB, sC])
          refine sk 56 ?_
          (try simp only [Act.put, sA, sB, sC])
          refine sk 57 ?_
          (try simp only [Act.put, sA, sB, sC])
          refine sk 58 ?_
          (try simp only [Act.put, sA, sB, sC])
          refine tk 59 ?_
          (try simp only [Act.put, sA, sB, sC])
          refine tk 60 ?_
          (try simp only [Act.put, sA, sB, sC])
          refine wpAnyH_done (by kernel_rfl) ?_ _
          go_wp2
          go_ret
          exact ⟨ret_bool (by first | (simp [*]; done) | (simp [*]; omega)), bel2 HB0.out (by first | exact HBr2.out | exact HBr1.out | exact HBr0.out)⟩
      · skip
        refine tk 13 ?_
        (try simp only [Act.put, sA, sB, sC])
        refine tk 14 ?_
        (try simp only [Act.put, sA, sB, sC])
        refine tk 15 ?_
        (try simp only [Act.put, sA, sB, sC])
        refine sk 16 ?_
        (try simp only [Act.put, sA, sB, sC])
        refine sk 17 ?_
        (try simp only [Act.put, sA, sB, sC])
        refine sk 18 ?_
        (try simp only [Act.put, sA, sB, sC])
        refine sk 19 ?_
        (try simp only [Act.put, sA, sB, sC])
        refine sk 20 ?_
        (try simp only [Act.put, sA, sB, sC])
        refine sk 21 ?_
        (try simp only [Act.put, sA, sB, sC])
        refine tk 22 ?_
        (try simp only [Act.put, sA, sB, sC])
        refine tk 23 ?_
        (try simp only [Act.put, sA, sB, sC])
        refine sk 24 ?_
        (try simp only [Act.put, sA, sB, sC])
        refine sk 25 ?_
        (try simp only [Act.put, sA, sB, sC])
        refine sk 26 ?_
        (try simp only [Act.put, sA, sB, sC])
        refine sk 27 ?_
        (try simp only [Act.put, sA, sB, sC])
        refine sk 28 ?_
        (try simp only [Act.put, sA, sB, sC])
        refine tk 29 ?_
        (try simp only [Act.put, sA, sB, sC])
        refine tk 30 ?_
        (try simp only [Act.put, sA, sB, sC])
        refine sk 31 ?_
        (try simp only [Act.put, sA, sB, sC])
        refine sk 32 ?_
        (try simp only [Act.put, sA, sB, sC])
        refine sk 33 ?_
        (try simp only [Act.put, sA, sB, sC])
        refine sk 34 ?_
        (try simp only [Act.put, sA, sB, sC])
        refine sk 35 ?_
        (try simp only [Act.put, sA, sB, sC])
        refine sk 36 ?_
        (try simp only [Act.put, sA, sB, sC])
        refine sk 37 ?_
        (try simp only [Act.put, sA, sB, sC])
        refine sk 38 ?_
        (try simp only [Act.put, sA, sB, sC])
        refine sk 39 ?_
        (try simp only [Act.put, sA, sB, sC])
        refine tk 40 ?_
        (try simp only [Act.put, sA, sB, sC])
        refine tk 41 ?_
        (try simp only [Act.put, sA, sB, sC])
        refine sk 42 ?_
        (try simp only [Act.put, sA, sB, sC])
        refine sk 43 ?_
        (try simp only [Act.put, sA, sB, sC])
        refine sk 44 ?_
        (try simp only [Act.put, sA, sB, sC])
        refine sk 45 ?_
        (try simp only [Act.put, sA, sB, sC])
        refine sk 46 ?_
        (try simp only [Act.put, sA, sB, sC])
        refine sk 47 ?_
        (try simp only [Act.put, sA, sB, sC])
        refine sk 48 ?_
        (try simp only [Act.put, sA, sB, sC])
        refine tk 49 ?_
        (try simp only [Act.put, sA, sB, sC])
        refine tk 50 ?_
        (try simp only [Act.put, sA, sB, sC])
        refine sk 51 ?_
        (try simp only [Act.put, sA, sB, sC])
        refine sk 52 ?_
        (try simp only [Act.put, sA, sB, sC])
        refine sk 53 ?_
        (try simp only [Act.put, sA, sB, sC])
        refine tk 54 ?_
        (try simp only [Act.put, sA, sB, sC])
        refine tk 55 ?_
        (try simp only [Act.put, sA, sB, sC])
        refine sk 56 ?_
        (try simp only [Act.put, sA, sB, sC])
        refine sk 57 ?_
        (try simp only [Act.put, sA, sB, sC])
        refine sk 58 ?_
        (try simp only [Act.put, sA, sB, sC])
        refine tk 59 ?_
        (try simp only [Act.put, sA, sB, sC])
        refine tk 60 ?_
        (try simp only [Act.put, sA, sB, sC])
        refine wpAnyH_done (by kernel_rfl) ?_ _
        go_wp2
        go_ret
        exact ⟨ret_bool (by first | (simp [*]; done) | (simp [*]; omega)), bel2 HB0.out (by first | exact HBr2.out | exact HBr1.out | exact HBr0.out)⟩

end Go.Proofs.YtachhcabgggimaaGreat
