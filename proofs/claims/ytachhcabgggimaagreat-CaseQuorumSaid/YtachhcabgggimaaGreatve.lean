/- ve: KRight2 KSame CAw KClone KNew KDeed KDo0 KStage KLay (made by shake.py). -/
import Derived.Deep.RegionHeld3
import Derived.BigQuiet
import Derived.Shelf.Spec.SlicesInsert
import Derived.Shelf.Spec.SlicesInsertGrow
import Derived.Shelf.Slices.SearchI
import Derived.Shelf.Slices.Empties
import Derived.Test.YtachhcabgggimaaGreatvd
/- Layer 7: rightFor, Right, by the program. (Made by gen/gencase.py.) -/
namespace Go.Proofs.YtachhcabgggimaaGreat
open Go.RowKit
set_option linter.unusedVariables false
set_option linter.unusedSimpArgs false
set_option maxRecDepth 20000

theorem stg_at {w : World} {SA : Option Addr} {sc : Nat} {ct : Ctr} (h : StgK w SA sc ct.ss) {j : Nat} (hj : j < ct.ss.length) : ∃ (ad : Addr) (A : Option Addr) (c : Nat), SA = some ad ∧ ad.block < w.heap.size ∧ w.cell? (ad.add (j * 3)) = some (.string (stgAt ct (j : Int)).name) ∧
    w.cell? ⟨(ad.add (j * 3)).block, (ad.add (j * 3)).off + 1, none⟩ = some (.int .i64 (stgAt ct (j : Int)).need) ∧ w.cell? ⟨(ad.add (j * 3)).block, (ad.add (j * 3)).off + 2, none⟩ = some (.slice A (stgAt ct (j : Int)).orgs.length c) ∧ Is w (.slice A (stgAt ct (j : Int)).orgs.length c) (stgAt ct (j : Int)).orgs := by
  obtain ⟨-, -, -, h4⟩ := h
  obtain ⟨ad, e1, e2, A, c, e3, e4, e5, e6⟩ := h4 j hj
  have hs : stgAt ct (j : Int) = ct.ss[j] := by
    unfold stgAt
    rw [Int.toNat_natCast, List.getElem?_eq_getElem hj]
    rfl
  rw [hs]
  exact ⟨ad, A, c, e1, e2, e3, e4, e5, e6⟩
set_option maxHeartbeats 16000000 in
theorem rightFor_any (ct : Ctr) (FA : Option Addr) (fc : Nat) (SA : Option Addr) (sc : Nat) (MA : Option Addr) (mc : Nat) (k : Cse) (VA : Option Addr) (vc : Nat) (EA : Option Addr) (ec : Nat) (w : World) (hc : CtK w ct FA fc SA sc MA mc) (hk : CsK w k VA vc EA ec) :
    Calls Tryz.prog 48 #[agC ct.name FA ct.fs.length fc SA ct.ss.length sc MA ct.ms.length mc, .agg (csK k VA vc EA ec)] w (VMk (.bool (rightF ct k)) w) := by
  obtain ⟨id, kc, st, vals, ends, su, sh, sp⟩ := k
  obtain ⟨hv, he⟩ := hk
  dsimp only at hv he ⊢
  have hRF : rightF ct ⟨id, kc, st, vals, ends, su, sh, sp⟩ = (nameB id && (kc.toList == ct.name.toList) && (decide (0 ≤ st) && decide (st < (ct.ss.length : Int))) && ((vals.length == ct.fs.length) && fitK vals ct.fs) && endsR (stgAt ct st).orgs (-1) ends && !(su && sh) && (decide (0 ≤ sp) && decide (sp ≤ 1099511627776))) := rfl
  rw [hRF]
  clear hRF
  have hb2 : Below w.heap.size w ((w.alloc (.cells #[.string ct.name, .slice FA ct.fs.length fc, .slice SA ct.ss.length sc, .slice MA ct.ms.length mc] 33)).alloc (.cells #[.string id, .string kc, .int .i64 st, .slice VA vals.length vc, .slice EA ends.length ec, .bool su, .bool sh, .int .i64 sp] 45)) := (alloc1 _ _).trans ((alloc1 _ _).mono (by simp))
  have hbc := (heap_alloc_new w (.cells #[.string ct.name, .slice FA ct.fs.length fc, .slice SA ct.ss.length sc, .slice MA ct.ms.length mc] 33))
  have hbc2 := belowZ hbc (alloc1 (w.alloc (.cells #[.string ct.name, .slice FA ct.fs.length fc, .slice SA ct.ss.length sc, .slice MA ct.ms.length mc] 33)) (.cells #[.string id, .string kc, .int .i64 st, .slice VA vals.length vc, .slice EA ends.length ec, .bool su, .bool sh, .int .i64 sp] 45))
  have hbk := heap_alloc_new (w.alloc (.cells #[.string ct.name, .slice FA ct.fs.length fc, .slice SA ct.ss.length sc, .slice MA ct.ms.length mc] 33)) (.cells #[.string id, .string kc, .int .i64 st, .slice VA vals.length vc, .slice EA ends.length ec, .bool su, .bool sh, .int .i64 sp] 45)
  rw [World.size_alloc] at hbk
  have HN := Lib.hid (fun W => kName_any id W)
  have HFT := Lib.hid (fun W (hb : Below w.heap.size w W) => fitAll_any VA vc vals FA fc ct.fs W (hv.below hb (Nat.le_refl _)) (hc.f.below hb))
  have HSS := Lib.hid (fun W (hb : Below w.heap.size w W) => hc.s.below hb)
  have HEE := Lib.hid (fun W (hb : Below w.heap.size w W) => Rd.below he hb (Nat.le_refl _))
  have HB0 := Lib.hid hb2
  clear hv he hc hb2 hbc
  generalize nameB id = b0 at *
  generalize ((vals.length == ct.fs.length) && fitK vals ct.fs) = b4 at *
  generalize hh1 : (kc.toList == ct.name.toList) = b1 at *
  go_enter Tryz.func48, Tryz.ntmps48
  go_upto_region 1 with fail
  generalize (w.alloc (.cells #[.string ct.name, .slice FA ct.fs.length fc, .slice SA ct.ss.length sc, .slice MA ct.ms.length mc] 33)).alloc (.cells #[.string id, .string kc, .int .i64 st, .slice VA vals.length vc, .slice EA ends.length ec, .bool su, .bool sh, .int .i64 sp] 45) = w1 at *
  have c0 := (heap_at hbc2 0).trans (rfl : _ = some (Value.string ct.name))
  have c1 := (heap_at hbc2 1).trans (rfl : _ = some (Value.slice FA ct.fs.length fc))
  have c2 := (heap_at hbc2 2).trans (rfl : _ = some (Value.slice SA ct.ss.length sc))
  have c3 := (heap_at hbc2 3).trans (rfl : _ = some (Value.slice MA ct.ms.length mc))
  have k0 := (heap_at hbk 0).trans (rfl : _ = some (Value.string id))
  have k1 := (heap_at hbk 1).trans (rfl : _ = some (Value.string kc))
  have k2 := (heap_at hbk 2).trans (rfl : _ = some (Value.int .i64 st))
  have k3 := (heap_at hbk 3).trans (rfl : _ = some (Value.slice VA vals.length vc))
  have k4 := (heap_at hbk 4).trans (rfl : _ = some (Value.slice EA ends.length ec))
  have k5 := (heap_at hbk 5).trans (rfl : _ = some (Value.bool su))
  have k6 := (heap_at hbk 6).trans (rfl : _ = some (Value.bool sh))
  have k7 := (heap_at hbk 7).trans (rfl : _ = some (Value.int .i64 sp))
  clear hbc2 hbk
  have HK := Lib.hid (show ∀ W, Below w1.heap.size w1 W → (fun W => Below w1.heap.size w1 W ∧ W.cell? ⟨w.heap.size, 0, none⟩ = some (.string ct.name) ∧ W.cell? ⟨w.heap.size, 1, none⟩ = some (.slice FA ct.fs.length fc) ∧ W.cell? ⟨w.heap.size, 2, none⟩ = some (.slice SA ct.ss.length sc) ∧ W.cell? ⟨w.heap.size, 3, none⟩ = some (.slice MA ct.ms.length mc) ∧ W.cell? ⟨(w.heap.size + 1), 0, none⟩ = some (.string id) ∧ W.cell? ⟨(w.heap.size + 1), 1, none⟩ = some (.string kc) ∧ W.cell? ⟨(w.heap.size + 1), 2, none⟩ = some (.int .i64 st) ∧ W.cell? ⟨(w.heap.size + 1), 3, none⟩ = some (.slice VA vals.length vc) ∧ W.cell? ⟨(w.heap.size + 1), 4, none⟩ = some (.slice EA ends.length ec) ∧ W.cell? ⟨(w.heap.size + 1), 5, none⟩ = some (.bool su) ∧ W.cell? ⟨(w.heap.size + 1), 6, none⟩ = some (.bool sh) ∧ W.cell? ⟨(w.heap.size + 1), 7, none⟩ = some (.int .i64 sp)) W from fun W h => ⟨h, (h.cell (World.block_lt_of_cell? _ _ c0)).trans c0, (h.cell (World.block_lt_of_cell? _ _ c1)).trans c1, (h.cell (World.block_lt_of_cell? _ _ c2)).trans c2, (h.cell (World.block_lt_of_cell? _ _ c3)).trans c3, (h.cell (World.block_lt_of_cell? _ _ k0)).trans k0, (h.cell (World.block_lt_of_cell? _ _ k1)).trans k1, (h.cell (World.block_lt_of_cell? _ _ k2)).trans k2, (h.cell (World.block_lt_of_cell? _ _ k3)).trans k3, (h.cell (World.block_lt_of_cell? _ _ k4)).trans k4, (h.cell (World.block_lt_of_cell? _ _ k5)).trans k5, (h.cell (World.block_lt_of_cell? _ _ k6)).trans k6, (h.cell (World.block_lt_of_cell? _ _ k7)).trans k7⟩)
  have HBr0 := Lib.hid (show Below w1.heap.size w1 w1.drew from (Below.refl _ _).drew)
  clear c0 c1 c2 c3 k0 k1 k2 k3 k4 k5 k6 k7
  refine wp_region_held_drew (S := (fun W => Below w1.heap.size w1 W ∧ W.cell? ⟨w.heap.size, 0, none⟩ = some (.string ct.name) ∧ W.cell? ⟨w.heap.size, 1, none⟩ = some (.slice FA ct.fs.length fc) ∧ W.cell? ⟨w.heap.size, 2, none⟩ = some (.slice SA ct.ss.length sc) ∧ W.cell? ⟨w.heap.size, 3, none⟩ = some (.slice MA ct.ms.length mc) ∧ W.cell? ⟨(w.heap.size + 1), 0, none⟩ = some (.string id) ∧ W.cell? ⟨(w.heap.size + 1), 1, none⟩ = some (.string kc) ∧ W.cell? ⟨(w.heap.size + 1), 2, none⟩ = some (.int .i64 st) ∧ W.cell? ⟨(w.heap.size + 1), 3, none⟩ = some (.slice VA vals.length vc) ∧ W.cell? ⟨(w.heap.size + 1), 4, none⟩ = some (.slice EA ends.length ec) ∧ W.cell? ⟨(w.heap.size + 1), 5, none⟩ = some (.bool su) ∧ W.cell? ⟨(w.heap.size + 1), 6, none⟩ = some (.bool sh) ∧ W.cell? ⟨(w.heap.size + 1), 7, none⟩ = some (.int .i64 sp))) (by kernel_rfl) (HK.out _ HBr0.out) (fun hHeld => ?_)
  refine tk 0 ?_
  (try simp only [Act.put, sA, sB, sC])
  refine tk 1 ?_
  (try simp only [Act.put, sA, sB, sC])
  refine wpAnyH_ready (rs := [2]) (by kernel_rfl) (by simp) ?_
  refine AllReadyH.cons (o := ?o3) ?g3 (fun K hK => ?j3) AllReadyH.nil
  case g3 => (simp only [gA, gB, gC]; rfl)
  go_simp
  refine (HN.out _).mono ?_
  rintro e w_ ⟨rfl, rfl⟩
  refine hK.out _ _ ?_ (fun hHeld => ?_)
  · (try dsimp only); (first | assumption | exact HK.out _ HBr2.out | exact HK.out _ HBr1.out | exact HK.out _ HBr0.out)
  clear hK K
  (try simp only [Act.put, sA, sB, sC])
  cases b0
  · skip
    refine tk 3 ?_
    (try simp only [Act.put, sA, sB, sC])
    refine sk 4 ?_
    (try simp only [Act.put, sA, sB, sC])
    refine sk 5 ?_
    (try simp only [Act.put, sA, sB, sC])
    refine sk 6 ?_
    (try simp only [Act.put, sA, sB, sC])
    refine sk 7 ?_
    (try simp only [Act.put, sA, sB, sC])
    refine sk 8 ?_
    (try simp only [Act.put, sA, sB, sC])
    refine tk 9 ?_
    (try simp only [Act.put, sA, sB, sC])
    refine tk 10 ?_
    (try simp only [Act.put, sA, sB, sC])
    refine sk 11 ?_
    (try simp only [Act.put, sA, sB, sC])
    refine sk 12 ?_
    (try simp only [Act.put, sA, sB, sC])
    refine sk 13 ?_
    (try simp only [Act.put, sA, sB, sC])
    refine tk 14 ?_
    (try simp only [Act.put, sA, sB, sC])
    refine tk 15 ?_
    (try simp only [Act.put, sA, sB, sC])
    refine sk 16 ?_
    (try simp only [Act.put, sA, sB, sC])
    refine sk 17 ?_
    (try simp only [Act.put, sA, sB, sC])
    refine sk 18 ?_
    (try simp only [Act.put, sA, sB, sC])
    refine sk 19 ?_
    (try simp only [Act.put, sA, sB, sC])
    refine sk 20 ?_
    (try simp only [Act.put, sA, sB, sC])
    refine sk 21 ?_
    (try simp only [Act.put, sA, sB, sC])
    refine tk 22 ?_
    (try simp only [Act.put, sA, sB, sC])
    refine tk 23 ?_
    (try simp only [Act.put, sA, sB, sC])
    refine sk 24 ?_
    (try simp only [Act.put, sA, sB, sC])
    refine sk 25 ?_
    (try simp only [Act.put, sA, sB, sC])
    refine sk 26 ?_
    (try simp only [Act.put, sA, sB, sC])
    refine sk 27 ?_
    (try simp only [Act.put, sA, sB, sC])
    refine sk 28 ?_
    (try simp only [Act.put, sA, sB, sC])
    refine tk 29 ?_
    (try simp only [Act.put, sA, sB, sC])
    refine tk 30 ?_
    (try simp only [Act.put, sA, sB, sC])
    refine sk 31 ?_
    (try simp only [Act.put, sA, sB, sC])
    refine sk 32 ?_
    (try simp only [Act.put, sA, sB, sC])
    refine sk 33 ?_
    (try simp only [Act.put, sA, sB, sC])
    refine sk 34 ?_
    (try simp only [Act.put, sA, sB, sC])
    refine sk 35 ?_
    (try simp only [Act.put, sA, sB, sC])
    refine sk 36 ?_
    (try simp only [Act.put, sA, sB, sC])
    refine sk 37 ?_
    (try simp only [Act.put, sA, sB, sC])
    refine sk 38 ?_
    (try simp only [Act.put, sA, sB, sC])
    refine sk 39 ?_
    (try simp only [Act.put, sA, sB, sC])
    refine tk 40 ?_
    (try simp only [Act.put, sA, sB, sC])
    refine tk 41 ?_
    (try simp only [Act.put, sA, sB, sC])
    refine sk 42 ?_
    (try simp only [Act.put, sA, sB, sC])
    refine sk 43 ?_
    (try simp only [Act.put, sA, sB, sC])
    refine sk 44 ?_
    (try simp only [Act.put, sA, sB, sC])
    refine sk 45 ?_
    (try simp only [Act.put, sA, sB, sC])
    refine sk 46 ?_
    (try simp only [Act.put, sA, sB, sC])
    refine sk 47 ?_
    (try simp only [Act.put, sA, sB, sC])
    refine sk 48 ?_
    (try simp only [Act.put, sA, sB, sC])
    refine tk 49 ?_
    (try simp only [Act.put, sA, sB, sC])
    refine tk 50 ?_
    (try simp only [Act.put, sA, sB, sC])
    refine sk 51 ?_
    (try simp only [Act.put, sA, sB, sC])
    refine sk 52 ?_
    (try simp only [Act.put, sA, sB, sC])
    refine sk 53 ?_
    (try simp only [Act.put, sA, sB, sC])
    refine tk 54 ?_
    (try simp only [Act.put, sA, sB, sC])
    refine tk 55 ?_
    (try simp only [Act.put, sA, sB, sC])
    refine sk 56 ?_
    (try simp only [Act.put, sA, sB, sC])
    refine sk 57 ?_
    (try simp only [Act.put, sA, sB, sC])
    refine sk 58 ?_
    (try simp only [Act.put, sA, sB, sC])
    refine tk 59 ?_
    (try simp only [Act.put, sA, sB, sC])
    refine tk 60 ?_
    (try simp only [Act.put, sA, sB, sC])
    refine wpAnyH_done (by kernel_rfl) ?_ _
    go_wp2
    go_ret
    exact ⟨ret_bool (by first | (simp [*]; done) | (simp [*]; omega)), bel2 HB0.out (by first | exact HBr2.out | exact HBr1.out | exact HBr0.out)⟩
  · skip
    refine tk 3 ?_
    (try simp only [Act.put, sA, sB, sC])
    refine tk 4 ?_
    (try simp only [Act.put, sA, sB, sC])
    refine tk 5 ?_
    (try simp only [Act.put, sA, sB, sC])
    refine tk 6 ?_
    (try simp only [Act.put, sA, sB, sC])
    refine tk 7 ?_
    (try simp only [Act.put, sA, sB, sC])
    cases h1 : b1
    · skip
      refine tk 8 ?_
      (try simp only [Act.put, sA, sB, sC])
      refine tk 9 ?_
      (try simp only [Act.put, sA, sB, sC])
      refine tk 10 ?_
      (try simp only [Act.put, sA, sB, sC])
      refine sk 11 ?_
      (try simp only [Act.put, sA, sB, sC])
      refine sk 12 ?_
      (try simp only [Act.put, sA, sB, sC])
      refine sk 13 ?_
      (try simp only [Act.put, sA, sB, sC])
      refine tk 14 ?_
      (try simp only [Act.put, sA, sB, sC])
      refine tk 15 ?_
      (try simp only [Act.put, sA, sB, sC])
      refine sk 16 ?_
      (try simp only [Act.put, sA, sB, sC])
      refine sk 17 ?_
      (try simp only [Act.put, sA, sB, sC])
      refine sk 18 ?_
      (try simp only [Act.put, sA, sB, sC])
      refine sk 19 ?_
      (try simp only [Act.put, sA, sB, sC])
      refine sk 20 ?_
      (try simp only [Act.put, sA, sB, sC])
      refine sk 21 ?_
      (try simp only [Act.put, sA, sB, sC])
      refine tk 22 ?_
      (try simp only [Act.put, sA, sB, sC])
      refine tk 23 ?_
      (try simp only [Act.put, sA, sB, sC])
      refine sk 24 ?_
      (try simp only [Act.put, sA, sB, sC])
      refine sk 25 ?_
      (try simp only [Act.put, sA, sB, sC])
      refine sk 26 ?_
      (try simp only [Act.put, sA, sB, sC])
      refine sk 27 ?_
      (try simp only [Act.put, sA, sB, sC])
      refine sk 28 ?_
      (try simp only [Act.put, sA, sB, sC])
      refine tk 29 ?_
      (try simp only [Act.put, sA, sB, sC])
      refine tk 30 ?_
      (try simp only [Act.put, sA, sB, sC])
      refine sk 31 ?_
      (try simp only [Act.put, sA, sB, sC])
      refine sk 32 ?_
      (try simp only [Act.put, sA, sB, sC])
      refine sk 33 ?_
      (try simp only [Act.put, sA, sB, sC])
      refine sk 34 ?_
      (try simp only [Act.put, sA, sB, sC])
      refine sk 35 ?_
      (try simp only [Act.put, sA, sB, sC])
      refine sk 36 ?_
      (try simp only [Act.put, sA, sB, sC])
      refine sk 37 ?_
      (try simp only [Act.put, sA, sB, sC])
      refine sk 38 ?_
      (try simp only [Act.put, sA, sB, sC])
      refine sk 39 ?_
      (try simp only [Act.put, sA, sB, sC])
      refine tk 40 ?_
      (try simp only [Act.put, sA, sB, sC])
      refine tk 41 ?_
      (try simp only [Act.put, sA, sB, sC])
      refine sk 42 ?_
      (try simp only [Act.put, sA, sB, sC])
      refine sk 43 ?_
      (try simp only [Act.put, sA, sB, sC])
      refine sk 44 ?_
      (try simp only [Act.put, sA, sB, sC])
      refine sk 45 ?_
      (try simp only [Act.put, sA, sB, sC])
      refine sk 46 ?_
      (try simp only [Act.put, sA, sB, sC])
      refine sk 47 ?_
      (try simp only [Act.put, sA, sB, sC])
      refine sk 48 ?_
      (try simp only [Act.put, sA, sB, sC])
      refine tk 49 ?_
      (try simp only [Act.put, sA, sB, sC])
      refine tk 50 ?_
      (try simp only [Act.put, sA, sB, sC])
      refine sk 51 ?_
      (try simp only [Act.put, sA, sB, sC])
      refine sk 52 ?_
      (try simp only [Act.put, sA, sB, sC])
      refine sk 53 ?_
      (try simp only [Act.put, sA, sB, sC])
      refine tk 54 ?_
      (try simp only [Act.put, sA, sB, sC])
      refine tk 55 ?_
      (try simp only [Act.put, sA, sB, sC])
      refine sk 56 ?_
      (try simp only [Act.put, sA, sB, sC])
      refine sk 57 ?_
      (try simp only [Act.put, sA, sB, sC])
      refine sk 58 ?_
      (try simp only [Act.put, sA, sB, sC])
      refine tk 59 ?_
      (try simp only [Act.put, sA, sB, sC])
      refine tk 60 ?_
      (try simp only [Act.put, sA, sB, sC])
      refine wpAnyH_done (by kernel_rfl) ?_ _
      go_wp2
      go_ret
      exact ⟨ret_bool (by first | (simp [*]; done) | (simp [*]; omega)), bel2 HB0.out (by first | exact HBr2.out | exact HBr1.out | exact HBr0.out)⟩
    · skip
      refine tk 8 ?_
      (try simp only [Act.put, sA, sB, sC])
      refine tk 9 ?_
      (try simp only [Act.put, sA, sB, sC])
      refine tk 10 ?_
      (try simp only [Act.put, sA, sB, sC])
      refine tk 11 ?_
      (try simp only [Act.put, sA, sB, sC])
      refine tk 12 ?_
      (try simp only [Act.put, sA, sB, sC])
      by_cases h2 : (0 : Int) ≤ st
      · skip
        obtain ⟨j, rfl⟩ := Int.eq_ofNat_of_zero_le h2
        refine tk 13 ?_
        (try simp only [Act.put, sA, sB, sC])
        refine tk 14 ?_
        (try simp only [Act.put, sA, sB, sC])
        refine tk 15 ?_
        (try simp only [Act.put, sA, sB, sC])
        refine tk 16 ?_
        (try simp only [Act.put, sA, sB, sC])
        refine tk 17 ?_
        (try simp only [Act.put, sA, sB, sC])
        refine tk 18 ?_
        (try simp only [Act.put, sA, sB, sC])
        refine tk 19 ?_
        (try simp only [Act.put, sA, sB, sC])
        refine tk 20 ?_
        (try simp only [Act.put, sA, sB, sC])
        by_cases h3 : (j : Int) < (ct.ss.length : Int)
        · skip
          have hjl : j < ct.ss.length := by omega
          refine tk 21 ?_
          (try simp only [Act.put, sA, sB, sC])
          refine tk 22 ?_
          (try simp only [Act.put, sA, sB, sC])
          refine tk 23 ?_
          (try simp only [Act.put, sA, sB, sC])
          refine tk 24 ?_
          (try simp only [Act.put, sA, sB, sC])
          refine tk 25 ?_
          (try simp only [Act.put, sA, sB, sC])
          refine tk 26 ?_
          (try simp only [Act.put, sA, sB, sC])
          refine tk 27 ?_
          (try simp only [Act.put, sA, sB, sC])
          refine wpAnyH_ready (rs := [28]) (by kernel_rfl) (by simp) ?_
          refine AllReadyH.cons (o := ?o140) ?g140 (fun K hK => ?j140) AllReadyH.nil
          case g140 => (simp only [gA, gB, gC]; rfl)
          go_simp
          refine (HFT.out _ (bel2 HB0.out HBr0.out)).mono ?_
          rintro e wr1 ⟨rfl, hbr1⟩
          have HBr1 := Lib.hid (bel2 HBr0.out hbr1)
          clear hbr1
          refine hK.out _ _ ?_ (fun hHeld => ?_)
          · (try dsimp only); (first | assumption | exact HK.out _ HBr2.out | exact HK.out _ HBr1.out | exact HK.out _ HBr0.out)
          clear hK K
          (try simp only [Act.put, sA, sB, sC])
          cases b4
          · skip
            refine tk 29 ?_
            (try simp only [Act.put, sA, sB, sC])
            refine tk 30 ?_
            (try simp only [Act.put, sA, sB, sC])
            refine sk 31 ?_
            (try simp only [Act.put, sA, sB, sC])
            refine sk 32 ?_
            (try simp only [Act.put, sA, sB, sC])
            refine sk 33 ?_
            (try simp only [Act.put, sA, sB, sC])
            refine sk 34 ?_
            (try simp only [Act.put, sA, sB, sC])
            refine sk 35 ?_
            (try simp only [Act.put, sA, sB, sC])
            refine sk 36 ?_
            (try simp only [Act.put, sA, sB, sC])
            refine sk 37 ?_
            (try simp only [Act.put, sA, sB, sC])
            refine sk 38 ?_
            (try simp only [Act.put, sA, sB, sC])
            refine sk 39 ?_
            (try simp only [Act.put, sA, sB, sC])
            refine tk 40 ?_
            (try simp only [Act.put, sA, sB, sC])
            refine tk 41 ?_
            (try simp only [Act.put, sA, sB, sC])
            refine sk 42 ?_
            (try simp only [Act.put, sA, sB, sC])
            refine sk 43 ?_
            (try simp only [Act.put, sA, sB, sC])
            refine sk 44 ?_
            (try simp only [Act.put, sA, sB, sC])
            refine sk 45 ?_
            (try simp only [Act.put, sA, sB, sC])
            refine sk 46 ?_
            (try simp only [Act.put, sA, sB, sC])
            refine sk 47 ?_
            (try simp only [Act.put, sA, sB, sC])
            refine sk 48 ?_
            (try simp only [Act.put, sA, sB, sC])
            refine tk 49 ?_
            (try simp only [Act.put, sA, sB, sC])
            refine tk 50 ?_
            (try simp only [Act.put, sA, sB, sC])
            refine sk 51 ?_
            (try simp only [Act.put, sA, sB, sC])
            refine sk 52 ?_
            (try simp only [Act.put, sA, sB, sC])
            refine sk 53 ?_
            (try simp only [Act.put, sA, sB, sC])
            refine tk 54 ?_
            (try simp only [Act.put, sA, sB, sC])
            refine tk 55 ?_
            (try simp only [Act.put, sA, sB, sC])
            refine sk 56 ?_
            (try simp only [Act.put, sA, sB, sC])
            refine sk 57 ?_
            (try simp only [Act.put, sA, sB, sC])
            refine sk 58 ?_
            (try simp only [Act.put, sA, sB, sC])
            refine tk 59 ?_
            (try simp only [Act.put, sA, sB, sC])
            refine tk 60 ?_
            (try simp only [Act.put, sA, sB, sC])
            refine wpAnyH_done (by kernel_rfl) ?_ _
            go_wp2
            go_ret
            exact ⟨ret_bool (by first | (simp [*]; done) | (simp [*]; omega)), bel2 HB0.out (by first | exact HBr2.out | exact HBr1.out | exact HBr0.out)⟩
          · skip
            obtain ⟨sd, A, c, rfl, hsl, s0, s1, s2, hso⟩ := stg_at (HSS.out _ (bel2 HB0.out HBr1.out)) hjl
            have HEN := Lib.hid (rightEnds_any EA ec ends (stgAt ct j) A c wr1 (HEE.out _ (bel2 HB0.out HBr1.out)) hso)
            generalize endsR (stgAt ct (j : Int)).orgs (-1) ends = b5 at *
            generalize stgAt ct (j : Int) = sg at *
            clear hso
            refine tk 29 ?_
            (try simp only [Act.put, sA, sB, sC])
            refine tk 30 ?_
            (try simp only [Act.put, sA, sB, sC])
            refine tk 31 ?_
            (try simp only [Act.put, sA, sB, sC])
            refine tk 32 ?_
            (try simp only [Act.put, sA, sB, sC])
            refine tk 33 ?_
            (try simp only [Act.put, sA, sB, sC])
            refine tk 34 ?_
            (try simp only [Act.put, sA, sB, sC])
            refine tk 35 ?_
            (try simp only [Act.put, sA, sB, sC])
            refine tk 36 ?_
            (try simp only [Act.put, sA, sB, sC])
            refine tk 37 ?_
            (try simp only [Act.put, sA, sB, sC])
            refine wpAnyH_ready (rs := [38]) (by kernel_rfl) (by simp) ?_
            refine AllReadyH.cons (o := ?o182) ?g182 (fun K hK => ?j182) AllReadyH.nil
            case g182 => (simp only [gA, gB, gC]; rfl)
            go_simp
            refine hK.out _ _ ?_ (fun hHeld => ?_)
            · (try dsimp only); (first | assumption | exact HK.out _ HBr2.out | exact HK.out _ HBr1.out | exact HK.out _ HBr0.out)
            clear hK K
            (try simp only [Act.put, sA, sB, sC])
            refine wpAnyH_ready (rs := [39]) (by kernel_rfl) (by simp) ?_
            refine AllReadyH.cons (o := ?o183) ?g183 (fun K hK => ?j183) AllReadyH.nil
            case g183 => (simp only [gA, gB, gC]; rfl)
            go_simp
            refine HEN.out.mono ?_
            rintro e wr2 ⟨rfl, hbr2⟩
            have HBr2 := Lib.hid (bel2 HBr1.out hbr2)
            clear hbr2
            refine hK.out _ _ ?_ (fun hHeld => ?_)
            · (try dsimp only); (first | assumption | exact HK.out _ HBr2.out | exact HK.out _ HBr1.out | exact HK.out _ HBr0.out)
            clear hK K
            (try simp only [Act.put, sA, sB, sC])
            cases b5
            · skip
              refine tk 40 ?_
              (try simp only [Act.put, sA, sB, sC])
              refine tk 41 ?_
              (try simp only [Act.put, sA, sB, sC])
              refine sk 42 ?_
              (try simp only [Act.put, sA, sB, sC])
              refine sk 43 ?_
              (try simp only [Act.put, sA, sB, sC])
              refine sk 44 ?_
              (try simp only [Act.put, sA, sB, sC])
              refine sk 45 ?_
              (try simp only [Act.put, sA, sB, sC])
              refine sk 46 ?_
              (try simp only [Act.put, sA, sB, sC])
              refine sk 47 ?_
              (try simp only [Act.put, sA, sB, sC])
              refine sk 48 ?_
              (try simp only [Act.put, sA, sB, sC])
              refine tk 49 ?_
              (try simp only [Act.put, sA, sB, sC])
              refine tk 50 ?_
              (try simp only [Act.put, sA, sB, sC])
              refine sk 51 ?_
              (try simp only [Act.put, sA, sB, sC])
              refine sk 52 ?_
              (try simp only [Act.put, sA, sB, sC])
              refine sk 53 ?_
              (try simp only [Act.put, sA, sB, sC])
              refine tk 54 ?_
              (try simp only [Act.put, sA, sB, sC])
              refine tk 55 ?_
              (try simp only [Act.put, sA, sB, sC])
              refine sk 56 ?_
              (try simp only [Act.put, sA, sB, sC])
              refine sk 57 ?_
              (try simp only [Act.put, sA, sB, sC])
              refine sk 58 ?_
              (try simp only [Act.put, sA, sB, sC])
              refine tk 59 ?_
              (try simp only [Act.put, sA, sB, sC])
              refine tk 60 ?_
              (try simp only [Act.put, sA, sB, sC])
              refine wpAnyH_done (by kernel_rfl) ?_ _
              go_wp2
              go_ret
              exact ⟨ret_bool (by first | (simp [*]; done) | (simp [*]; omega)), bel2 HB0.out (by first | exact HBr2.out | exact HBr1.out | exact HBr0.out)⟩
            · skip
              refine tk 40 ?_
              (try simp only [Act.put, sA, sB, sC])
              refine tk 41 ?_
              (try simp only [Act.put, sA, sB, sC])
              refine tk 42 ?_
              (try simp only [Act.put, sA, sB, sC])
              cases su
              · skip
                refine tk 43 ?_
                (try simp only [Act.put, sA, sB, sC])
                refine tk 44 ?_
                (try simp only [Act.put, sA, sB, sC])
                refine sk 45 ?_
                (try simp only [Act.put, sA, sB, sC])
                refine sk 46 ?_
                (try simp only [Act.put, sA, sB, sC])
                refine tk 47 ?_
                (try simp only [Act.put, sA, sB, sC])
                refine tk 48 ?_
                (try simp only [Act.put, sA, sB, sC])
                refine tk 49 ?_
                (try simp only [Act.put, sA, sB, sC])
                refine tk 50 ?_
                (try simp only [Act.put, sA, sB, sC])
                refine tk 51 ?_
                (try simp only [Act.put, sA, sB, sC])
                refine tk 52 ?_
                (try simp only [Act.put, sA, sB, sC])
                by_cases h7 : (0 : Int) ≤ sp
                · skip
                  refine tk 53 ?_
                  (try simp only [Act.put, sA, sB, sC])
                  refine tk 54 ?_
                  (try simp only [Act.put, sA, sB, sC])
                  refine tk 55 ?_
                  (try simp only [Act.put, sA, sB, sC])
                  refine tk 56 ?_
                  (try simp only [Act.put, sA, sB, sC])
                  refine tk 57 ?_
                  (try simp only [Act.put, sA, sB, sC])
                  by_cases h8 : sp ≤ 1099511627776
                  · skip
                    refine tk 58 ?_
                    (try simp only [Act.put, sA, sB, sC])
                    refine tk 59 ?_
                    (try simp only [Act.put, sA, sB, sC])
                    refine tk 60 ?_
                    (try simp only [Act.put, sA, sB, sC])
                    refine wpAnyH_done (by kernel_rfl) ?_ _
                    go_wp2
                    go_ret
                    exact ⟨ret_bool (by first | (simp [*]; done) | (simp [*]; omega)), bel2 HB0.out (by first | exact HBr2.out | exact HBr1.out | exact HBr0.out)⟩
                  · skip
                    refine tk 58 ?_
                    (try simp only [Act.put, sA, sB, sC])
                    refine tk 59 ?_
                    (try simp only [Act.put, sA, sB, sC])
                    refine tk 60 ?_
                    (try simp only [Act.put, sA, sB, sC])
                    refine wpAnyH_done (by kernel_rfl) ?_ _
                    go_wp2
                    go_ret
                    exact ⟨ret_bool (by first | (simp [*]; done) | (simp [*]; omega)), bel2 HB0.out (by first | exact HBr2.out | exact HBr1.out | exact HBr0.out)⟩
                · skip
                  refine tk 53 ?_
                  (try simp only [Act.put, sA, sB, sC])
                  refine tk 54 ?_
                  (try simp only [Act.put, sA, sB, sC])
                  refine tk 55 ?_
                  (try simp only [Act.put, sA, sB, sC])
                  refine sk 56 ?_
                  (try simp only [Act.put, sA, sB, sC])
                  refine sk 57 ?_
                  (try simp only [Act.put, sA, sB, sC])
                  refine sk 58 ?_
                  (try simp only [Act.put, sA, sB, sC])
                  refine tk 59 ?_
                  (try simp only [Act.put, sA, sB, sC])
                  refine tk 60 ?_
                  (try simp only [Act.put, sA, sB, sC])
                  refine wpAnyH_done (by kernel_rfl) ?_ _
                  go_wp2
                  go_ret
                  exact ⟨ret_bool (by first | (simp [*]; done) | (simp [*]; omega)), bel2 HB0.out (by first | exact HBr2.out | exact HBr1.out | exact HBr0.out)⟩
              · skip
                refine tk 43 ?_
                (try simp only [Act.put, sA, sB, sC])
                refine tk 44 ?_
                (try simp only [Act.put, sA, sB, sC])
                refine tk 45 ?_
                (try simp only [Act.put, sA, sB, sC])
                cases sh
                · skip
                  refine tk 46 ?_
                  (try simp only [Act.put, sA, sB, sC])
                  refine tk 47 ?_
                  (try simp only [Act.put, sA, sB, sC])
                  refine tk 48 ?_
                  (try simp only [Act.put, sA, sB, sC])
                  refine tk 49 ?_
                  (try simp only [Act.put, sA, sB, sC])
                  refine tk 50 ?_
                  (try simp only [Act.put, sA, sB, sC])
                  refine tk 51 ?_
                  (try simp only [Act.put, sA, sB, sC])
                  refine tk 52 ?_
                  (try simp only [Act.put, sA, sB, sC])
                  by_cases h7 : (0 : Int) ≤ sp
                  · skip
                    refine tk 53 ?_
                    (try simp only [Act.put, sA, sB, sC])
                    refine tk 54 ?_
                    (try simp only [Act.put, sA, sB, sC])
                    refine tk 55 ?_
                    (try simp only [Act.put, sA, sB, sC])
                    refine tk 56 ?_
                    (try simp only [Act.put, sA, sB, sC])
                    refine tk 57 ?_
                    (try simp only [Act.put, sA, sB, sC])
                    by_cases h8 : sp ≤ 1099511627776
                    · skip
                      refine tk 58 ?_
                      (try simp only [Act.put, sA, sB, sC])
                      refine tk 59 ?_
                      (try simp only [Act.put, sA, sB, sC])
                      refine tk 60 ?_
                      (try simp only [Act.put, sA, sB, sC])
                      refine wpAnyH_done (by kernel_rfl) ?_ _
                      go_wp2
                      go_ret
                      exact ⟨ret_bool (by first | (simp [*]; done) | (simp [*]; omega)), bel2 HB0.out (by first | exact HBr2.out | exact HBr1.out | exact HBr0.out)⟩
                    · skip
                      refine tk 58 ?_
                      (try simp only [Act.put, sA, sB, sC])
                      refine tk 59 ?_
                      (try simp only [Act.put, sA, sB, sC])
                      refine tk 60 ?_
                      (try simp only [Act.put, sA, sB, sC])
                      refine wpAnyH_done (by kernel_rfl) ?_ _
                      go_wp2
                      go_ret
                      exact ⟨ret_bool (by first | (simp [*]; done) | (simp [*]; omega)), bel2 HB0.out (by first | exact HBr2.out | exact HBr1.out | exact HBr0.out)⟩
                  · skip
                    refine tk 53 ?_
                    (try simp only [Act.put, sA, sB, sC])
                    refine tk 54 ?_
                    (try simp only [Act.put, sA, sB, sC])
                    refine tk 55 ?_
                    (try simp only [Act.put, sA, sB, sC])
                    refine sk 56 ?_
                    (try simp only [Act.put, sA, sB, sC])
                    refine sk 57 ?_
                    (try simp only [Act.put, sA, sB, sC])
                    refine sk 58 ?_
                    (try simp only [Act.put, sA, sB, sC])
                    refine tk 59 ?_
                    (try simp only [Act.put, sA, sB, sC])
                    refine tk 60 ?_
                    (try simp only [Act.put, sA, sB, sC])
                    refine wpAnyH_done (by kernel_rfl) ?_ _
                    go_wp2
                    go_ret
                    exact ⟨ret_bool (by first | (simp [*]; done) | (simp [*]; omega)), bel2 HB0.out (by first | exact HBr2.out | exact HBr1.out | exact HBr0.out)⟩
                · skip
                  refine tk 46 ?_
                  (try simp only [Act.put, sA, sB, sC])
                  refine tk 47 ?_
                  (try simp only [Act.put, sA, sB, sC])
                  refine tk 48 ?_
                  (try simp only [Act.put, sA, sB, sC])
                  refine tk 49 ?_
                  (try simp only [Act.put, sA, sB, sC])
                  refine tk 50 ?_
                  (try simp only [Act.put, sA, sB, sC])
                  refine sk 51 ?_
                  (try simp only [Act.put, sA, sB, sC])
                  refine sk 52 ?_
                  (try simp only [Act.put, sA, sB, sC])
                  refine sk 53 ?_
                  (try simp only [Act.put, sA, sB, sC])
                  refine tk 54 ?_
                  (try simp only [Act.put, sA, sB, sC])
                  refine tk 55 ?_
                  (try simp only [Act.put, sA, sB, sC])
                  refine sk 56 ?_
                  (try simp only [Act.put, sA, sB, sC])
                  refine sk 57 ?_
                  (try simp only [Act.put, sA, sB, sC])
                  refine sk 58 ?_
                  (try simp only [Act.put, sA, sB, sC])
                  refine tk 59 ?_
                  (try simp only [Act.put, sA, sB, sC])
                  refine tk 60 ?_
                  (try simp only [Act.put, sA, sB, sC])
                  refine wpAnyH_done (by kernel_rfl) ?_ _
                  go_wp2
                  go_ret
                  exact ⟨ret_bool (by first | (simp [*]; done) | (simp [*]; omega)), bel2 HB0.out (by first | exact HBr2.out | exact HBr1.out | exact HBr0.out)⟩
        · skip
          refine tk 21 ?_
          (try simp only [Act.put, sA, sB, sC])
          refine tk 22 ?_
          (try simp only [Act.put, sA, sB, sC])
          refine tk 23 ?_
          (try simp only [Act.put, sA, sB, sC])
          refine sk 24 ?_
          (try simp only [Act.put, sA, sB, sC])
          refine sk 25 ?_
          (try simp only [Act.put, sA, sB, sC])
          refine sk 26 ?_
          (try simp only [Act.put, sA, sB, sC])
          refine sk 27 ?_
          (try simp only [Act.put, sA, sB, sC])
          refine sk 28 ?_
          (try simp only [Act.put, sA, sB, sC])
          refine tk 29 ?_
          (try simp only [Act.put, sA, sB, sC])
          refine tk 30 ?_
          (try simp only [Act.put, sA, sB, sC])
          refine sk 31 ?_
          (try simp only [Act.put, sA, sB, sC])
          refine sk 32 ?_
          (try simp only [Act.put, sA, sB, sC])
          refine sk 33 ?_
          (try simp only [Act.put, sA, sB, sC])
          refine sk 34 ?_
          (try simp only [Act.put, sA, sB, sC])
          refine sk 35 ?_
          (try simp only [Act.put, sA, sB, sC])
          refine sk 36 ?_
          (try simp only [Act.put, sA, sB, sC])
          refine sk 37 ?_
          (try simp only [Act.put, sA, sB, sC])
          refine sk 38 ?_
          (try simp only [Act.put, sA, sB, sC])
          refine sk 39 ?_
          (try simp only [Act.put, sA, sB, sC])
          refine tk 40 ?_
          (try simp only [Act.put, sA, sB, sC])
          refine tk 41 ?_
          (try simp only [Act.put, sA, sB, sC])
          refine sk 42 ?_
          (try simp only [Act.put, sA, sB, sC])
          refine sk 43 ?_
          (try simp only [Act.put, sA, sB, sC])
          refine sk 44 ?_
          (try simp only [Act.put, sA, sB, sC])
          refine sk 45 ?_
          (try simp only [Act.put, sA, sB, sC])
          refine sk 46 ?_
          (try simp only [Act.put, sA, sB, sC])
          refine sk 47 ?_
          (try simp only [Act.put, sA, sB, sC])
          refine sk 48 ?_
          (try simp only [Act.put, sA, sB, sC])
          refine tk 49 ?_
          (try simp only [Act.put, sA, sB, sC])
          refine tk 50 ?_
          (try simp only [Act.put, sA, sB, sC])
          refine sk 51 ?_
          (try simp only [Act.put, sA, sB, sC])
          refine sk 52 ?_
          (try simp only [Act.put, sA, sB, sC])
          refine sk 53 ?_
          (try simp only [Act.put, sA, sB, sC])
          refine tk 54 ?_
          (try simp only [Act.put, sA, sB, sC])
          refine tk 55 ?_
          (try simp only [Act.put, sA, sB, sC])
          refine sk 56 ?_
          (try simp only [Act.put, sA, sB, sC])
          refine sk 57 ?_
          (try simp only [Act.put, sA, sB, sC])
          refine sk 58 ?_
          (try simp only [Act.put, sA, sB, sC])
          refine tk 59 ?_
          (try simp only [Act.put, sA, sB, sC])
          refine tk 60 ?_
          (try simp only [Act.put, sA, sB, sC])
          refine wpAnyH_done (by kernel_rfl) ?_ _
          go_wp2
          go_ret
          exact ⟨ret_bool (by first | (simp [*]; done) | (simp [*]; omega)), bel2 HB0.out (by first | exact HBr2.out | exact HBr1.out | exact HBr0.out)⟩
      · skip
        refine tk 13 ?_
        (try simp only [Act.put, sA, sB, sC])
        refine tk 14 ?_
        (try simp only [Act.put, sA, sB, sC])
        refine tk 15 ?_
        (try simp only [Act.put, sA, sB, sC])
        refine sk 16 ?_
        (try simp only [Act.put, sA, sB, sC])
        refine sk 17 ?_
        (try simp only [Act.put, sA, sB, sC])
        refine sk 18 ?_
        (try simp only [Act.put, sA, sB, sC])
        refine sk 19 ?_
        (try simp only [Act.put, sA, sB, sC])
        refine sk 20 ?_
        (try simp only [Act.put, sA, sB, sC])
        refine sk 21 ?_
        (try simp only [Act.put, sA, sB, sC])
        refine tk 22 ?_
        (try simp only [Act.put, sA, sB, sC])
        refine tk 23 ?_
        (try simp only [Act.put, sA, sB, sC])
        refine sk 24 ?_
        (try simp only [Act.put, sA, sB, sC])
        refine sk 25 ?_
        (try simp only [Act.put, sA, sB, sC])
        refine sk 26 ?_
        (try simp only [Act.put, sA, sB, sC])
        refine sk 27 ?_
        (try simp only [Act.put, sA, sB, sC])
        refine sk 28 ?_
        (try simp only [Act.put, sA, sB, sC])
        refine tk 29 ?_
        (try simp only [Act.put, sA, sB, sC])
        refine tk 30 ?_
        (try simp only [Act.put, sA, sB, sC])
        refine sk 31 ?_
        (try simp only [Act.put, sA, sB, sC])
        refine sk 32 ?_
        (try simp only [Act.put, sA, sB, sC])
        refine sk 33 ?_
        (try simp only [Act.put, sA, sB, sC])
        refine sk 34 ?_
        (try simp only [Act.put, sA, sB, sC])
        refine sk 35 ?_
        (try simp only [Act.put, sA, sB, sC])
        refine sk 36 ?_
        (try simp only [Act.put, sA, sB, sC])
        refine sk 37 ?_
        (try simp only [Act.put, sA, sB, sC])
        refine sk 38 ?_
        (try simp only [Act.put, sA, sB, sC])
        refine sk 39 ?_
        (try simp only [Act.put, sA, sB, sC])
        refine tk 40 ?_
        (try simp only [Act.put, sA, sB, sC])
        refine tk 41 ?_
        (try simp only [Act.put, sA, sB, sC])
        refine sk 42 ?_
        (try simp only [Act.put, sA, sB, sC])
        refine sk 43 ?_
        (try simp only [Act.put, sA, sB, sC])
        refine sk 44 ?_
        (try simp only [Act.put, sA, sB, sC])
        refine sk 45 ?_
        (try simp only [Act.put, sA, sB, sC])
        refine sk 46 ?_
        (try simp only [Act.put, sA, sB, sC])
        refine sk 47 ?_
        (try simp only [Act.put, sA, sB, sC])
        refine sk 48 ?_
        (try simp only [Act.put, sA, sB, sC])
        refine tk 49 ?_
        (try simp only [Act.put, sA, sB, sC])
        refine tk 50 ?_
        (try simp only [Act.put, sA, sB, sC])
        refine sk 51 ?_
        (try simp only [Act.put, sA, sB, sC])
        refine sk 52 ?_
        (try simp only [Act.put, sA, sB, sC])
        refine sk 53 ?_
        (try simp only [Act.put, sA, sB, sC])
        refine tk 54 ?_
        (try simp only [Act.put, sA, sB, sC])
        refine tk 55 ?_
        (try simp only [Act.put, sA, sB, sC])
        refine sk 56 ?_
        (try simp only [Act.put, sA, sB, sC])
        refine sk 57 ?_
        (try simp only [Act.put, sA, sB, sC])
        refine sk 58 ?_
        (try simp only [Act.put, sA, sB, sC])
        refine tk 59 ?_
        (try simp only [Act.put, sA, sB, sC])
        refine tk 60 ?_
        (try simp only [Act.put, sA, sB, sC])
        refine wpAnyH_done (by kernel_rfl) ?_ _
        go_wp2
        go_ret
        exact ⟨ret_bool (by first | (simp [*]; done) | (simp [*]; omega)), bel2 HB0.out (by first | exact HBr2.out | exact HBr1.out | exact HBr0.out)⟩
end Go.Proofs.YtachhcabgggimaaGreat

/- Layer 7: are two cases the same, by the document: where they are. (Made by gen/genklaw.py.) -/
namespace Go.Proofs.YtachhcabgggimaaGreat
open Go.RowKit
set_option linter.unusedVariables false
set_option linter.unusedSimpArgs false
set_option maxRecDepth 20000

end Go.Proofs.YtachhcabgggimaaGreat

/- Layer 6: the law's One and awake. -/
namespace Go.Proofs.YtachhcabgggimaaGreat
open Go.RowKit
set_option linter.unusedVariables false
set_option linter.unusedSimpArgs false
set_option maxRecDepth 20000

theorem heap_old (w : World) (o : Obj) (k : Nat) (h : k < w.heap.size) : (w.alloc o).heap[k]? = w.heap[k]? := (alloc1 w o).block k h
theorem six_worlds (w : World) (o0 o1 o2 o3 o4 o5 : Obj) :
    ((((((w.alloc o0).alloc o1).alloc o2).alloc o3).alloc o4).alloc o5).heap[w.heap.size]? = some o0 ∧
    ((((((w.alloc o0).alloc o1).alloc o2).alloc o3).alloc o4).alloc o5).heap[w.heap.size + 1 + 1]? = some o2 ∧
    ((((((w.alloc o0).alloc o1).alloc o2).alloc o3).alloc o4).alloc o5).heap[w.heap.size + 1 + 1 + 1]? = some o3 ∧
    ((((((w.alloc o0).alloc o1).alloc o2).alloc o3).alloc o4).alloc o5).heap[w.heap.size + 1 + 1 + 1 + 1]? = some o4 ∧
    ((((((w.alloc o0).alloc o1).alloc o2).alloc o3).alloc o4).alloc o5).heap[w.heap.size + 1 + 1 + 1 + 1 + 1]? = some o5 ∧
    Below w.heap.size w ((((((w.alloc o0).alloc o1).alloc o2).alloc o3).alloc o4).alloc o5) := by
  have n0 := heap_alloc_new w o0
  have n2 := heap_alloc_new ((w.alloc o0).alloc o1) o2
  have n3 := heap_alloc_new (((w.alloc o0).alloc o1).alloc o2) o3
  have n4 := heap_alloc_new ((((w.alloc o0).alloc o1).alloc o2).alloc o3) o4
  have n5 := heap_alloc_new (((((w.alloc o0).alloc o1).alloc o2).alloc o3).alloc o4) o5
  simp only [World.size_alloc] at n2 n3 n4 n5
  refine ⟨?_, ?_, ?_, ?_, n5, bel2 (bel2 (bel2 (bel2 (bel2 (alloc1 _ _) (alloc1 _ _)) (alloc1 _ _)) (alloc1 _ _)) (alloc1 _ _)) (alloc1 _ _)⟩
  · rw [heap_old _ _ _ (by simp only [World.size_alloc]; omega), heap_old _ _ _ (by simp only [World.size_alloc]; omega), heap_old _ _ _ (by simp only [World.size_alloc]; omega), heap_old _ _ _ (by simp only [World.size_alloc]; omega), heap_old _ _ _ (by simp only [World.size_alloc]; omega)]; exact n0
  · rw [heap_old _ _ _ (by simp only [World.size_alloc]; omega), heap_old _ _ _ (by simp only [World.size_alloc]; omega), heap_old _ _ _ (by simp only [World.size_alloc]; omega)]; exact n2
  · rw [heap_old _ _ _ (by simp only [World.size_alloc]; omega), heap_old _ _ _ (by simp only [World.size_alloc]; omega)]; exact n3
  · rw [heap_old _ _ _ (by simp only [World.size_alloc]; omega)]; exact n4
set_option maxHeartbeats 2000000 in
theorem One_any (w : World) : Calls Tryz.prog 37 #[] w (CtP ctOne w) := by
  have hsf := fun (w : World) (a : Addr) (m : Mode) (b : Nat) => run_store Tryz.prog w a (.float .f64 b) m rfl
  go_enter Tryz.func37, Tryz.ntmps37
  go_wp2
  generalize ho0 : Obj.cells #[Value.string { data := #[99] }, Value.slice (some { block := w.heap.size + 1 + 1, off := 0 }) 1 1, Value.slice (some { block := w.heap.size + 1 + 1 + 1 + 1, off := 0 }) 2 2, Value.slice (some { block := w.heap.size + 1 + 1 + 1 + 1 + 1, off := 0 }) 1 1] 33 = o0
  generalize ho2 : Obj.cells #[Value.string { data := #[110] }, Value.int IntKind.i64 1, Value.slice none 0 0, Value.int IntKind.i64 1, Value.int IntKind.i64 0, Value.bool false, Value.string { data := #[] }, Value.float FloatKind.f64 0] 83 = o2
  generalize ho3 : Obj.cells #[Value.int IntKind.i64 0, Value.int IntKind.i64 2] 3 = o3
  generalize ho4 : Obj.cells #[Value.string { data := #[115] }, Value.int IntKind.i64 0, Value.slice none 0 0, Value.string { data := #[116] }, Value.int IntKind.i64 1, Value.slice (some { block := w.heap.size + 1 + 1 + 1, off := 0 }) 2 2] 65 = o4
  generalize ho5 : Obj.cells #[Value.string { data := #[109] }, Value.int IntKind.i64 0, Value.int IntKind.i64 1, Value.int IntKind.i64 1, Value.slice none 0 0, Value.string { data := #[] }, Value.int IntKind.i64 2, Value.int IntKind.i64 0, Value.bool true, Value.string { data := #[] }, Value.float FloatKind.f64 0, Value.slice none 0 0, Value.int IntKind.i64 (-1)] 80 = o5
  generalize hW : (w.alloc o0).alloc _ = W1
  obtain ⟨k0, k2, k3, k4, k5, hb⟩ := six_worlds w o0 (.cells #[Value.int IntKind.i64 1, Value.slice none 0 0, Value.string { data := #[] }, Value.int IntKind.i64 2, Value.int IntKind.i64 0, Value.bool true, Value.string { data := #[] }, Value.float FloatKind.f64 0] 77) o2 o3 o4 o5
  rw [hW] at k0 k2 k3 k4 k5 hb
  generalize ((((W1.alloc o2).alloc o3).alloc o4).alloc o5) = W at *
  rw [← ho0] at k0
  rw [← ho2] at k2
  rw [← ho3] at k3
  rw [← ho4] at k4
  rw [← ho5] at k5
  have hlt : w.heap.size < W.heap.size := (Array.getElem?_eq_some_iff.1 k0).1
  have v0 := at_row k0 0 _ rfl
  have v1 := at_row k0 1 _ rfl
  have v2 := at_row k0 2 _ rfl
  have v3 := at_row k0 3 _ rfl
  clear ho0 ho2 ho3 ho4 ho5 hW
  exact bodyPost_ret (v := agC ⟨#[99]⟩ (some ⟨w.heap.size + 1 + 1, 0, none⟩) 1 1 (some ⟨w.heap.size + 1 + 1 + 1 + 1, 0, none⟩) 2 2 (some ⟨w.heap.size + 1 + 1 + 1 + 1 + 1, 0, none⟩) 1 1) (by simp [results, Tryz.results37, go_sem, v0, v1, v2, v3, hlt]) rfl
    ⟨_, _, _, _, _, _, rfl, ⟨fldk_rows W _ 1 _ none 0 (ss_none W) (by omega) k2, stgk_row W _ _ _ _ k3 k4, mvk_row W _ _ 1 2 true mvYes rfl k5⟩, hb⟩
end Go.Proofs.YtachhcabgggimaaGreat

/- Layer 7: rows of values, of ints are cloned; a case is opened. (Made by gen/gencase.py.) -/
namespace Go.Proofs.YtachhcabgggimaaGreat
open Go.RowKit
set_option linter.unusedVariables false
set_option linter.unusedSimpArgs false
set_option maxRecDepth 20000

abbrev vCells (v : Vl) : List Value := [.int .i64 v.k, .int .i64 v.i, .bool v.b, .string v.s, .float .f64 v.n]
theorem vCells_one (l : List Vl) : ∀ u ∈ l.flatMap vCells, u.oneCell' = true := fun u hu => by
  obtain ⟨v, -, hv⟩ := List.mem_flatMap.1 hu
  simp only [vCells, List.mem_cons, List.not_mem_nil, or_false] at hv
  rcases hv with rfl | rfl | rfl | rfl | rfl <;> rfl
theorem Vlp.cells {w : World} {p : Addr} {y : Vl} (h : Vlp w p y) : ∀ o u, (vCells y)[o]? = some u → w.cell? (p.add o) = some u := by
  obtain ⟨h0, h1, h2, h3, h4⟩ := h
  intro o u hu
  match o, hu with
  | 0, hu => injection hu with hu; subst hu; rw [Addr.add_zero']; exact h0
  | 1, hu => injection hu with hu; subst hu; rw [Addr.add_succ']; exact h1
  | 2, hu => injection hu with hu; subst hu; rw [Addr.add_succ']; exact h2
  | 3, hu => injection hu with hu; subst hu; rw [Addr.add_succ']; exact h3
  | 4, hu => injection hu with hu; subst hu; rw [Addr.add_succ']; exact h4
theorem VlK.rows {w : World} {A : Option Addr} {c : Nat} {l : List Vl} (h : VlK w A c l) : RowS w 5 (.slice A l.length c) l.length (l.flatMap vCells) := by
  obtain ⟨h1, h2, h3, h4⟩ := h
  refine ⟨A, c, rfl, flat_len vCells 5 (fun _ => rfl) l, fun ha => by have := h3 ha; omega, fun a ha j u hj => ?_⟩
  have hjl : j < l.length * 5 := by
    have := (List.getElem?_eq_some_iff.1 hj).1
    rwa [flat_len vCells 5 (fun _ => rfl) l] at this
  have hq : j / 5 < l.length := by omega
  rw [show j = j / 5 * 5 + j % 5 by omega, flat_get vCells 5 (fun _ => rfl) l _ _ hq (Nat.mod_lt _ (by decide))] at hj
  obtain ⟨ad, e1, -, e3⟩ := h4 _ hq
  rw [ha] at e1
  injection e1 with e1
  subst e1
  rw [show j = j / 5 * 5 + j % 5 by omega, ← add_add']
  exact e3.cells _ _ hj
theorem vlN_own {T : Nat → Prop} {w : World} {base : Nat} {v : Value} {n : Nat} {l : List Vl} (h : w.ownsRow base 55 5 v n (l.flatMap vCells)) (hT : ∀ b, base ≤ b → T b) : ∃ A c, v = .slice A l.length c ∧ VlN T w A c l := by
  obtain ⟨A, c, h1, h2⟩ := rowN_own vCells (fun _ => rfl) (by decide) id (R := Vlp) h hT fun q hq b i hc => ⟨hc 0 (by omega), hc 1 (by omega), hc 2 (by omega), hc 3 (by omega), hc 4 (by omega)⟩
  rw [List.map_id] at h1 h2
  exact ⟨A, c, h1, h2⟩
theorem map_intC : ∀ l : List Int, l.map (Value.int .i64) = l.flatMap intC
  | [] => rfl
  | x :: l => by rw [List.map_cons, List.flatMap_cons, map_intC l]; rfl
theorem isN_own {T : Nat → Prop} {w : World} {base : Nat} {v : Value} {n : Nat} {l : List Int} (h : w.ownsRow base 3 1 v n (l.map (Value.int .i64))) (hT : ∀ b, base ≤ b → T b) : ∃ A c, v = .slice A l.length c ∧ IsN T w A c l := by
  rw [map_intC] at h
  obtain ⟨A, c, h1, h2⟩ := rowN_own intC (fun _ => rfl) (by decide) id (R := IntP) h hT fun q hq b i hc => hc 0 Nat.one_pos
  rw [List.map_id] at h1 h2
  exact ⟨A, c, h1, h2⟩
theorem int_one (l : List Int) : ∀ u ∈ l.map (Value.int .i64), u.oneCell' = true := fun u hu => by
  obtain ⟨n, -, rfl⟩ := List.mem_map.1 hu
  rfl
theorem is_rows {w : World} {A : Option Addr} {c : Nat} {l : List Int} (h : Is w (.slice A l.length c) l) : RowS w 1 (.slice A l.length c) l.length (l.map (Value.int .i64)) := by
  obtain ⟨A', c', hv, hc, hm, hn, hx⟩ := h
  injection hv with e1 e2 e3
  subst e1 e3
  rw [List.length_map] at hc
  refine ⟨A, c, rfl, by simp, fun ha => ⟨by have := hn ha; omega, hn ha⟩, fun a ha j u hj => ?_⟩
  have hne : l.map (Value.int .i64) ≠ [] := fun e => by rw [e] at hj; simp at hj
  obtain ⟨ad, h1, h2, h3⟩ := hx hne
  rw [ha] at h1
  injection h1 with h1
  subst h1
  exact h3 j u hj
def ClV (l : List Vl) (w : World) (e : Ending) (w' : World) : Prop := ∃ v, e = .returned v ∧ w'.ownsRow w.heap.size 55 5 v l.length (l.flatMap vCells) ∧ Below w.heap.size w w'
def ClI (l : List Int) (w : World) (e : Ending) (w' : World) : Prop := ∃ v, e = .returned v ∧ w'.ownsRow w.heap.size 3 1 v l.length (l.map (Value.int .i64)) ∧ Below w.heap.size w w'
theorem infoVl : (Tryz.prog.info? 55).map (fun i => (i.zero, i.size, i.bytes)) = some (some (.agg #[.int .i64 0, .int .i64 0, .bool false, .string ⟨#[]⟩, .float .f64 0]), 5, 48) := by kernel_rfl
theorem infoIn : (Tryz.prog.info? 3).map (fun i => (i.zero, i.size, i.bytes)) = some (some (.int .i64 0), 1, 8) := by kernel_rfl
set_option maxHeartbeats 1000000 in
theorem cloneVl_any (A : Option Addr) (c : Nat) (l : List Vl) (w : World) (hv : VlK w A c l) (hl : l.length ≤ 1000) : Calls Tryz.prog 52 #[.slice A l.length c] w (ClV l w) := by
  obtain ⟨i1, hi1, hz1, hsz1, hby1⟩ := infoZ infoVl
  have hrows : RowS w 5 (.slice A l.length c) l.length (l.flatMap vCells) := hv.rows
  rcases A with _ | ad
  · obtain ⟨-, -, -, hn, -⟩ := id hrows
    have hl0 : l = [] := List.eq_nil_of_length_eq_zero (by obtain ⟨A', c', e, h1, h2, h3⟩ := hrows; injection e with e1 e2 e3; exact (h2 e1.symm).1)
    subst hl0
    clear hn hv hrows
    have he := fun (w : World) => Lib.run_eql_slice_nil (P := Tryz.prog) w 42 55 none 0 c 0 0 Tryz.underlying42
    simp only [List.length_nil]
    go_enter Tryz.func52, Tryz.ntmps52
    go_wp2
    go_ret
    exact ⟨_, rfl, World.ownsRow_nil _ _ _ _, Below.refl _ _⟩
  · have HR := Lib.hid hrows
    have HL := Lib.hid hl
    clear hv hrows hl
    have he := fun (w : World) => Lib.run_eql_slice_nil (P := Tryz.prog) w 42 55 (some ad) l.length c 0 0 Tryz.underlying42
    go_enter Tryz.func52, Tryz.ntmps52
    go_wp2_with (at_builtin; refine wpList_append_rows rfl (.tmp 5) (.tmp 6) 42 rfl w.heap.size 55 i1 (.agg #[.int .i64 0, .int .i64 0, .bool false, .string ⟨#[]⟩, .float .f64 0]) 5 48 Tryz.underlying42 hi1 hz1 hsz1 hby1 rfl (by decide) _ 0 [] rfl (World.ownsRow_made w #[] 0 (Nat.le_refl _) (Nat.zero_le _) rfl) _ l.length (l.flatMap vCells) rfl (HR.out.below (alloc1 _ _)) (vCells_one l) (by have := HL.out; unfold maxLen; omega) (by have := HL.out; omega) (by simp) ?_; intro v2 w2 hown2 hg2 hor2)
    go_ret
    refine ⟨_, rfl, by simpa using hown2, ?_⟩
    exact ((Below.refl w.heap.size w).alloc (Nat.le_refl _) _).grown hg2 (by simp) (by intro k h; injection h with h; simp only at h; omega)
set_option maxHeartbeats 1000000 in
theorem cloneIn_any (A : Option Addr) (c : Nat) (l : List Int) (w : World) (hv : Is w (.slice A l.length c) l) (hl : l.length ≤ 1000) : Calls Tryz.prog 53 #[.slice A l.length c] w (ClI l w) := by
  obtain ⟨i1, hi1, hz1, hsz1, hby1⟩ := infoZ infoIn
  have hrows : RowS w 1 (.slice A l.length c) l.length (l.map (Value.int .i64)) := is_rows hv
  rcases A with _ | ad
  · obtain ⟨-, -, -, hn, -⟩ := id hrows
    have hl0 : l = [] := List.eq_nil_of_length_eq_zero (by obtain ⟨A', c', e, h1, h2, h3⟩ := hrows; injection e with e1 e2 e3; exact (h2 e1.symm).1)
    subst hl0
    clear hn hv hrows
    have he := fun (w : World) => Lib.run_eql_slice_nil (P := Tryz.prog) w 43 3 none 0 c 0 0 Tryz.underlying43
    simp only [List.length_nil]
    go_enter Tryz.func53, Tryz.ntmps53
    go_wp2
    go_ret
    exact ⟨_, rfl, World.ownsRow_nil _ _ _ _, Below.refl _ _⟩
  · have HR := Lib.hid hrows
    have HL := Lib.hid hl
    clear hv hrows hl
    have he := fun (w : World) => Lib.run_eql_slice_nil (P := Tryz.prog) w 43 3 (some ad) l.length c 0 0 Tryz.underlying43
    go_enter Tryz.func53, Tryz.ntmps53
    go_wp2_with (at_builtin; refine wpList_append_rows rfl (.tmp 5) (.tmp 6) 43 rfl w.heap.size 3 i1 (.int .i64 0) 1 8 Tryz.underlying43 hi1 hz1 hsz1 hby1 rfl (by decide) _ 0 [] rfl (World.ownsRow_made w #[] 0 (Nat.le_refl _) (Nat.zero_le _) rfl) _ l.length (l.map (Value.int .i64)) rfl (HR.out.below (alloc1 _ _)) (int_one l) (by have := HL.out; unfold maxLen; omega) (by have := HL.out; omega) (by simp) ?_; intro v2 w2 hown2 hg2 hor2)
    go_ret
    refine ⟨_, rfl, by simpa using hown2, ?_⟩
    exact ((Below.refl w.heap.size w).alloc (Nat.le_refl _) _).grown hg2 (by simp) (by intro k h; injection h with h; simp only at h; omega)
end Go.Proofs.YtachhcabgggimaaGreat

/- Layer 7: a case is opened, by the program. (Made by gen/gencase.py.) -/
namespace Go.Proofs.YtachhcabgggimaaGreat
open Go.RowKit
set_option linter.unusedVariables false
set_option linter.unusedSimpArgs false
set_option maxRecDepth 20000

theorem CsN.nil (S : Nat → Prop) (w : World) (k : Cse) (hv : k.vals = []) (he : k.ends = []) : CsN S w k none 0 none 0 := ⟨by rw [hv]; exact RowN.nil _ _ _ _, by rw [he]; exact RowN.nil _ _ _ _⟩
theorem CsN.set8 {w W : World} {k : Cse} {VA : Option Addr} {vc : Nat} {EA : Option Addr} {ec : Nat} {rb : Nat} (hb : w.heap.size ≤ rb) (hn : CsN (fun b => rb < b) W k VA vc EA ec) (hB : Below w.heap.size w W) (u0 u1 u2 u3 u4 u5 u6 u7 : Value) :
    CsN (fun b => w.heap.size ≤ b) (set8 W rb u0 u1 u2 u3 u4 u5 u6 u7) k VA vc EA ec ∧ Below w.heap.size w (set8 W rb u0 u1 u2 u3 u4 u5 u6 u7) := by
  have ho := set8_only W rb u0 u1 u2 u3 u4 u5 u6 u7
  exact ⟨hn.move (fun b hb2 hl => ⟨ho.block b hl (by intro e; injection e with e; omega), by omega⟩) ho.size, hB.trans (ho.to_below hB.size hb)⟩
theorem GivesK.mk {w W : World} {r : Cse × Int} {VA : Option Addr} {vc : Nat} {EA : Option Addr} {ec : Nat} {rb : Nat} (hb : w.heap.size ≤ rb) (hn : CsN (fun b => rb < b) W r.1 VA vc EA ec) (hB : Below w.heap.size w W) (u0 u1 u2 u3 u4 u5 u6 u7 : Value) :
    GivesK r w (.returned (.tuple #[.agg (csK r.1 VA vc EA ec), .int .i64 r.2])) (Go.Proofs.YtachhcabgggimaaGreat.set8 W rb u0 u1 u2 u3 u4 u5 u6 u7) :=
  ⟨VA, vc, EA, ec, rfl, (CsN.set8 hb hn hB ..).1, (CsN.set8 hb hn hB ..).2⟩
structure NwI (w : World) (b : Nat) (id nm : ByteArray) (fs : List Fld) (wr : World) (k : Nat) (row : Value) : Prop where
  bx : wr.heap[b]? = some (.cells #[.string id, .string nm, .int .i64 0, row, .slice none 0 0, .bool false, .bool false, .int .i64 0] 45 (0, 0))
  own : wr.ownsRow (b + 1) 55 5 row k ((fs.take k).flatMap fun f => vCells f.y)
  bel : Below b w wr
theorem NwI.at4 {w : World} {b : Nat} {id nm : ByteArray} {fs : List Fld} {wr w4 : World} {k : Nat} {row : Value} {o1 o2 : Obj} (h : NwI w b id nm fs wr k row) (hgr : ((wr.alloc o1).alloc o2).grownBy w4 row.ownBlock) :
    w4.heap[b]? = some (.cells #[.string id, .string nm, .int .i64 0, row, .slice none 0 0, .bool false, .bool false, .int .i64 0] 45 (0, 0)) := by
  have hrow0 := h.own.lt
  have hb := heap_ltZ h.bx
  have hz3 : ((wr.alloc o1).alloc o2).heap.size = wr.heap.size + 2 := by simp
  rw [hgr.block b (by omega) (fun e => by have := (hrow0 b e.symm).1; omega)]
  exact ((alloc1 (wr.alloc o1) o2).block b (by simp; omega)).trans (((alloc1 wr o1).block b (by omega)).trans h.bx)
theorem NwI.next {w : World} {b : Nat} {id nm : ByteArray} {fs : List Fld} {wr w4 : World} {k : Nat} {row row' : Value} {o1 o2 : Obj} (h : NwI w b id nm fs wr k row) (hk : k < fs.length) (hw : w.heap.size ≤ b)
    (hown : w4.ownsRow (b + 1) 55 5 row' (k + 1) (((fs.take k).flatMap fun f => vCells f.y) ++ vCells fs[k].y)) (hgr : ((wr.alloc o1).alloc o2).grownBy w4 row.ownBlock) : NwI w b id nm fs (w4.setCell ⟨b, 3, none⟩ row') (k + 1) row' := by
  have hrow0 := h.own.lt
  have hb := heap_ltZ h.bx
  have hz4 := hgr.size
  have hz3 : ((wr.alloc o1).alloc o2).heap.size = wr.heap.size + 2 := by simp
  have hlow : ∀ m, m ≤ b → row.ownBlock ≠ some m := fun m hm e => by have := (hrow0 m e).1; omega
  have hkeep : ∀ m, m ≤ b → w4.heap[m]? = wr.heap[m]? := fun m hm => by
    rw [hgr.block m (by omega) (fun e => hlow m hm e.symm)]
    exact ((alloc1 (wr.alloc o1) o2).block m (by simp; omega)).trans ((alloc1 wr o1).block m (by omega))
  refine ⟨?_, ?_, ⟨?_, ?_, ?_, ?_, fun m hm => ?_⟩⟩
  · have h5 := setZ ((hkeep b (Nat.le_refl _)).trans h.bx) 3 row'
    simpa using h5
  · rw [List.take_succ_eq_append_getElem hk, List.flatMap_append, List.flatMap_cons, List.flatMap_nil, List.append_nil]
    exact ownsRow_setCell_below hown (a := ⟨b, 3, none⟩) (Nat.lt_succ_self b) row'
  · exact hgr.os.trans h.bel.os
  · exact hgr.tape.trans h.bel.tape
  · exact hgr.output.trans h.bel.output
  · have := h.bel.size; simp [World.setCell]; omega
  · rw [Below.heap_setCell w4 _ _ m (show m ≠ b by omega), hkeep m (by omega)]
    exact h.bel.block m hm
set_option maxHeartbeats 4000000 in
theorem kNew_any (ct : Ctr) (FA : Option Addr) (fc : Nat) (SA : Option Addr) (sc : Nat) (MA : Option Addr) (mc : Nat) (id : ByteArray) (w : World) (h : CtK w ct FA fc SA sc MA mc) :
    Calls Tryz.prog 20 #[agC ct.name FA ct.fs.length fc SA ct.ss.length sc MA ct.ms.length mc, .string id] w (GivesK (newK ct id) w) := by
  have hsf := fun (w : World) (a : Addr) (m : Mode) (b : Nat) => run_store Tryz.prog w a (.float .f64 b) m rfl
  have hb2 : Below w.heap.size w ((w.alloc (.cells #[.string ct.name, .slice FA ct.fs.length fc, .slice SA ct.ss.length sc, .slice MA ct.ms.length mc] 33)).alloc (.cells #[.string ⟨#[]⟩, .string ⟨#[]⟩, .int .i64 0, .slice none 0 0, .slice none 0 0, .bool false, .bool false, .int .i64 0] 45)) := (alloc1 _ _).trans ((alloc1 _ _).mono (by simp))
  have hbc2 := belowZ (heap_alloc_new w (.cells #[.string ct.name, .slice FA ct.fs.length fc, .slice SA ct.ss.length sc, .slice MA ct.ms.length mc] 33)) (alloc1 (w.alloc (.cells #[.string ct.name, .slice FA ct.fs.length fc, .slice SA ct.ss.length sc, .slice MA ct.ms.length mc] 33)) (.cells #[.string ⟨#[]⟩, .string ⟨#[]⟩, .int .i64 0, .slice none 0 0, .slice none 0 0, .bool false, .bool false, .int .i64 0] 45))
  have hbk := heap_alloc_new (w.alloc (.cells #[.string ct.name, .slice FA ct.fs.length fc, .slice SA ct.ss.length sc, .slice MA ct.ms.length mc] 33)) (.cells #[.string ⟨#[]⟩, .string ⟨#[]⟩, .int .i64 0, .slice none 0 0, .slice none 0 0, .bool false, .bool false, .int .i64 0] 45)
  rw [World.size_alloc] at hbk
  have HCK := Lib.hid (fun W (hb : Below w.heap.size w W) => cCheck_any ct FA fc SA sc MA mc W (h.below hb))
  have HN := Lib.hid (fun W => kName_any id W)
  have HF := Lib.hid (fun W (hb : Below w.heap.size w W) => h.f.below hb)
  have HB0 := Lib.hid hb2
  clear h hb2
  by_cases hc : checkC ct = 0
  case neg =>
    have hnk : newK ct id = (zK, 81) := by unfold newK; rw [if_neg hc]
    rw [hnk]
    have hcb : (checkC ct != 0) = true := by simpa using hc
    generalize checkC ct = ck at *
    clear hnk hc
    go_enter Tryz.func20, Tryz.ntmps20
    go_upto_region 1 with fail
    generalize (w.alloc (.cells #[.string ct.name, .slice FA ct.fs.length fc, .slice SA ct.ss.length sc, .slice MA ct.ms.length mc] 33)).alloc (.cells #[.string ⟨#[]⟩, .string ⟨#[]⟩, .int .i64 0, .slice none 0 0, .slice none 0 0, .bool false, .bool false, .int .i64 0] 45) = w0 at *
    have c0 := (heap_at hbc2 0).trans (rfl : _ = some (Value.string ct.name))
    have c1 := (heap_at hbc2 1).trans (rfl : _ = some (Value.slice FA ct.fs.length fc))
    have c2 := (heap_at hbc2 2).trans (rfl : _ = some (Value.slice SA ct.ss.length sc))
    have c3 := (heap_at hbc2 3).trans (rfl : _ = some (Value.slice MA ct.ms.length mc))
    have cf := heap_free hbc2
    have cl := heap_ltZ hbc2
    go_wp2_with fail
    refine (HCK.out _ HB0.out).mono ?_
    rintro _ w1 ⟨rfl, hb1⟩
    have hbk1 := belowZ hbk hb1
    have HB1 := Lib.hid (bel2 HB0.out hb1)
    clear hb1 hbk hbc2 c0 c1 c2 c3 cf cl
    have k0 := (heap_at hbk1 0).trans (rfl : _ = some (Value.string ⟨#[]⟩))
    have k1 := (heap_at hbk1 1).trans (rfl : _ = some (Value.string ⟨#[]⟩))
    have k2 := (heap_at hbk1 2).trans (rfl : _ = some (Value.int .i64 0))
    have k3 := (heap_at hbk1 3).trans (rfl : _ = some (Value.slice none 0 0))
    have k4 := (heap_at hbk1 4).trans (rfl : _ = some (Value.slice none 0 0))
    have k5 := (heap_at hbk1 5).trans (rfl : _ = some (Value.bool false))
    have k6 := (heap_at hbk1 6).trans (rfl : _ = some (Value.bool false))
    have k7 := (heap_at hbk1 7).trans (rfl : _ = some (Value.int .i64 0))
    have kf := heap_free hbk1
    have kl := heap_ltZ hbk1
    go_wp2
    exact bodyPost_ret (v := .tuple #[.agg (csK zK none 0 none 0), .int .i64 81]) (by simp [results, Tryz.results20, go_sem, k0, k1, k2, k3, k4, k5, k6, k7, kl, zK]) rfl (GivesK.mk (r := (zK, 81)) (Nat.le_succ _) (CsN.nil _ _ _ rfl rfl) HB1.out _ _ _ _ _ _ _ _)
  have hcb : (checkC ct != 0) = false := by simp [hc]
  by_cases hn : nameB id = true
  case neg =>
    have hnk : newK ct id = (zK, 50) := by unfold newK; rw [if_pos hc, if_neg hn]
    rw [hnk]
    have hnb : nameB id = false := by simpa using hn
    rw [hnb] at HN
    generalize checkC ct = ck at *
    clear hnk hc hn hnb
    go_enter Tryz.func20, Tryz.ntmps20
    go_upto_region 1 with fail
    generalize (w.alloc (.cells #[.string ct.name, .slice FA ct.fs.length fc, .slice SA ct.ss.length sc, .slice MA ct.ms.length mc] 33)).alloc (.cells #[.string ⟨#[]⟩, .string ⟨#[]⟩, .int .i64 0, .slice none 0 0, .slice none 0 0, .bool false, .bool false, .int .i64 0] 45) = w0 at *
    have c0 := (heap_at hbc2 0).trans (rfl : _ = some (Value.string ct.name))
    have c1 := (heap_at hbc2 1).trans (rfl : _ = some (Value.slice FA ct.fs.length fc))
    have c2 := (heap_at hbc2 2).trans (rfl : _ = some (Value.slice SA ct.ss.length sc))
    have c3 := (heap_at hbc2 3).trans (rfl : _ = some (Value.slice MA ct.ms.length mc))
    have cf := heap_free hbc2
    have cl := heap_ltZ hbc2
    go_wp2_with fail
    refine (HCK.out _ HB0.out).mono ?_
    rintro _ w1 ⟨rfl, hb1⟩
    have hbk1 := belowZ hbk hb1
    have HB1 := Lib.hid (bel2 HB0.out hb1)
    clear hb1 hbk hbc2 c0 c1 c2 c3 cf cl
    have k0 := (heap_at hbk1 0).trans (rfl : _ = some (Value.string ⟨#[]⟩))
    have k1 := (heap_at hbk1 1).trans (rfl : _ = some (Value.string ⟨#[]⟩))
    have k2 := (heap_at hbk1 2).trans (rfl : _ = some (Value.int .i64 0))
    have k3 := (heap_at hbk1 3).trans (rfl : _ = some (Value.slice none 0 0))
    have k4 := (heap_at hbk1 4).trans (rfl : _ = some (Value.slice none 0 0))
    have k5 := (heap_at hbk1 5).trans (rfl : _ = some (Value.bool false))
    have k6 := (heap_at hbk1 6).trans (rfl : _ = some (Value.bool false))
    have k7 := (heap_at hbk1 7).trans (rfl : _ = some (Value.int .i64 0))
    have kf := heap_free hbk1
    have kl := heap_ltZ hbk1
    go_wp2_with fail
    refine (HN.out _).mono ?_
    rintro _ w2 ⟨rfl, rfl⟩
    go_wp2
    exact bodyPost_ret (v := .tuple #[.agg (csK zK none 0 none 0), .int .i64 50]) (by simp [results, Tryz.results20, go_sem, k0, k1, k2, k3, k4, k5, k6, k7, kl, zK]) rfl (GivesK.mk (r := (zK, 50)) (Nat.le_succ _) (CsN.nil _ _ _ rfl rfl) HB1.out _ _ _ _ _ _ _ _)
  have hnk : newK ct id = (⟨id, ct.name, 0, ct.fs.map Fld.y, [], false, false, 0⟩, 0) := by unfold newK; rw [if_pos hc, if_pos hn]
  rw [hnk]
  have hf6 : ct.fs.length ≤ 6 := by
    obtain ⟨-, h2, -, -⟩ := check_parts hc
    unfold fieldsR at h2
    simp only [Bool.and_eq_true, decide_eq_true_eq] at h2
    omega
  rw [hn] at HN
  have HF6 := Lib.hid hf6
  generalize checkC ct = ck at *
  clear hnk hc hn hf6
  obtain ⟨i1, hi1, hz1, hsz1, hby1⟩ := infoZ infoVl
  go_enter Tryz.func20, Tryz.ntmps20
  go_upto_region 1 with fail
  generalize (w.alloc (.cells #[.string ct.name, .slice FA ct.fs.length fc, .slice SA ct.ss.length sc, .slice MA ct.ms.length mc] 33)).alloc (.cells #[.string ⟨#[]⟩, .string ⟨#[]⟩, .int .i64 0, .slice none 0 0, .slice none 0 0, .bool false, .bool false, .int .i64 0] 45) = w0 at *
  have c0 := (heap_at hbc2 0).trans (rfl : _ = some (Value.string ct.name))
  have c1 := (heap_at hbc2 1).trans (rfl : _ = some (Value.slice FA ct.fs.length fc))
  have c2 := (heap_at hbc2 2).trans (rfl : _ = some (Value.slice SA ct.ss.length sc))
  have c3 := (heap_at hbc2 3).trans (rfl : _ = some (Value.slice MA ct.ms.length mc))
  have cf := heap_free hbc2
  have cl := heap_ltZ hbc2
  go_wp2_with fail
  refine (HCK.out _ HB0.out).mono ?_
  rintro _ w1 ⟨rfl, hb1⟩
  have hbk1 := belowZ hbk hb1
  have hbc1 := belowZ hbc2 hb1
  have HB1 := Lib.hid (bel2 HB0.out hb1)
  clear hb1 hbk hbc2 c0 c1 c2 c3 cf cl
  have c0 := (heap_at hbc1 0).trans (rfl : _ = some (Value.string ct.name))
  have c1 := (heap_at hbc1 1).trans (rfl : _ = some (Value.slice FA ct.fs.length fc))
  have c2 := (heap_at hbc1 2).trans (rfl : _ = some (Value.slice SA ct.ss.length sc))
  have c3 := (heap_at hbc1 3).trans (rfl : _ = some (Value.slice MA ct.ms.length mc))
  have cf := heap_free hbc1
  have cl := heap_ltZ hbc1
  go_wp2_with fail
  refine (HN.out _).mono ?_
  rintro _ w2 ⟨rfl, rfl⟩
  have hwb : w.heap.size + 1 < w1.heap.size := heap_ltZ hbk1
  go_upto_region 6 with fail
  have HN0 := Lib.hid (show NwI w1 w1.heap.size id ct.name ct.fs (w1.alloc (.cells #[.string id, .string ct.name, .int .i64 0, .slice none 0 0, .slice none 0 0, .bool false, .bool false, .int .i64 0] 45)) 0 (.slice none 0 0) from ⟨heap_alloc_new _ _, World.ownsRow_nil _ _ _ _, alloc1 _ _⟩)
  generalize hw3 : w1.alloc (.cells #[.string id, .string ct.name, .int .i64 0, .slice none 0 0, .slice none 0 0, .bool false, .bool false, .int .i64 0] 45) = w3 at *
  generalize hbb : w1.heap.size = b at *
  have HBB := Lib.hid hbb
  have HWB := Lib.hid hwb
  have HBK := Lib.hid hbk1
  have HBC := Lib.hid (belowZ hbc1 (show Below w1.heap.size w1 w3 by rw [← hw3]; exact alloc1 _ _))
  clear hbb hwb hbk1 hbc1 hw3 c0 c1 c2 c3 cf cl
  have hx3 := HN0.out.bx
  have c0 := (heap_at HBC.out 0).trans (rfl : _ = some (Value.string ct.name))
  have c1 := (heap_at HBC.out 1).trans (rfl : _ = some (Value.slice FA ct.fs.length fc))
  have c2 := (heap_at HBC.out 2).trans (rfl : _ = some (Value.slice SA ct.ss.length sc))
  have c3 := (heap_at HBC.out 3).trans (rfl : _ = some (Value.slice MA ct.ms.length mc))
  have cf := heap_free HBC.out
  have cl := heap_ltZ HBC.out
  generalize hn : ct.fs.length = n at *
  have HNN := Lib.hid hn
  clear hn
  go_wp2
  go_loopw [24] (fun i wr => ∃ (k : Nat) (row : Value), k ≤ n ∧ i = .int .i64 k ∧ NwI w1 b id ct.name ct.fs wr k row) (fun i _ => n - (intOf i).toNat)
  case atStart => exact ⟨0, _, Nat.zero_le _, rfl, HN0.out⟩
  case round =>
    obtain ⟨k, row, hk, rfl, hi⟩ := hrel
    have HI := Lib.hid hi
    clear hi hx3 c0 c1 c2 c3 cf cl
    by_cases hlt : k < n
    · have hltI : (k : Int) < (n : Int) := by omega
      have hkf : k < ct.fs.length := by have := HNN.out; omega
      have hbel : Below w.heap.size w wr := bel2 HB1.out (show Below w1.heap.size w1 wr by rw [HBB.out]; exact HI.out.bel)
      obtain ⟨-, -, -, hfx⟩ := HF.out wr hbel
      obtain ⟨fa, hfa, hfb, QA, qc, ⟨p0, p1, p2, p3, p4, p5, p6, p7⟩, -⟩ := hfx k hkf
      subst hfa
      have hbx := HI.out.bx
      have hown := HI.out.own
      have HKF := Lib.hid hkf
      have HLT := Lib.hid hlt
      have x0 := (heap_at hbx 0).trans (rfl : _ = some (Value.string id))
      have x1 := (heap_at hbx 1).trans (rfl : _ = some (Value.string ct.name))
      have x2 := (heap_at hbx 2).trans (rfl : _ = some (Value.int .i64 0))
      have x3 := (heap_at hbx 3).trans (rfl : _ = some (row))
      have x4 := (heap_at hbx 4).trans (rfl : _ = some (Value.slice none 0 0))
      have x5 := (heap_at hbx 5).trans (rfl : _ = some (Value.bool false))
      have x6 := (heap_at hbx 6).trans (rfl : _ = some (Value.bool false))
      have x7 := (heap_at hbx 7).trans (rfl : _ = some (Value.int .i64 0))
      have xf := heap_free hbx
      have xl := heap_ltZ hbx
      have hfd : (ct.fs[k]).y = (ct.fs[k]).y := rfl
      generalize hf0 : ct.fs[k] = f at *
      have HF0 := Lib.hid hf0
      clear hf0 hfd hfx hlt hkf
      have HOW := Lib.hid ((hown.alloc (.cells #[.string f.f.name, .int .i64 f.f.kind, .slice QA f.en.length qc, .int .i64 f.y.k, .int .i64 f.y.i, .bool f.y.b, .string f.y.s, .float .f64 f.y.n] 83)).alloc (.cells (vCells f.y).toArray 55))
      have hrw := rows_one (wr.alloc (.cells #[.string f.f.name, .int .i64 f.f.kind, .slice QA f.en.length qc, .int .i64 f.y.k, .int .i64 f.y.i, .bool f.y.b, .string f.y.s, .float .f64 f.y.n] 83)) (vCells f.y) 55 5 rfl
      rw [World.size_alloc] at hrw
      have HRW := Lib.hid hrw
      have hb1 : k + 1 ≤ maxLen := by have := HF6.out; have := HLT.out; unfold maxLen; omega
      have hb2 : (k + 1) * 48 ≤ 140737488355328 := by have := HF6.out; have := HLT.out; omega
      have HBS := Lib.hid (And.intro hb1 hb2)
      have HONE := Lib.hid (show ∀ u ∈ vCells f.y, u.oneCell' = true from by have h := vCells_one [f.y]; simpa using h)
      have hbz : b + 1 ≤ ((wr.alloc (.cells #[.string f.f.name, .int .i64 f.f.kind, .slice QA f.en.length qc, .int .i64 f.y.k, .int .i64 f.y.i, .bool f.y.b, .string f.y.s, .float .f64 f.y.n] 83)).alloc (.cells (vCells f.y).toArray 55)).heap.size := by have := heap_ltZ hbx; simp only [World.size_alloc]; omega
      have HBZ := Lib.hid hbz
      clear hb1 hb2 hbz hrw hown
      have hn6 := HF6.out
      go_wp2_with (at_builtin; refine wpList_append_rows rfl (.tmp 29) (.tmp 32) 42 rfl (b + 1) 55 i1 (.agg #[.int .i64 0, .int .i64 0, .bool false, .string ⟨#[]⟩, .float .f64 0]) 5 48 Tryz.underlying42 hi1 hz1 hsz1 hby1 rfl (by decide) _ k _ rfl HOW.out _ 1 (vCells f.y) rfl HRW.out HONE.out HBS.out.1 HBS.out.2 HBZ.out ?_; intro v4 w4 hown4 hgr4 hor4; obtain ⟨A4, c4, rfl⟩ := own_sliceX hown4; have HNX := Lib.hid (NwI.next HI.out HKF.out (Nat.le_of_eq HBB.out) (by rw [← HF0.out] at hown4; exact hown4) hgr4); have hz4 := hgr4.size; have hbk4 := NwI.at4 HI.out hgr4; have x43 := (heap_at hbk4 3).trans (rfl : _ = some row); have x4f := heap_free hbk4; clear hown4 hgr4 hor4)
      go_roundw
      case rel =>
        have hl6 := HLT.out
        exact ⟨k + 1, _, by omega, by go_num, HNX.out⟩
      case measure =>
        have hl6 := HLT.out
        simp [intOf]; omega
    · obtain rfl : k = n := by omega
      have hltI : ¬ (k : Int) < (k : Int) := by omega
      have hown := HI.out.own
      rw [show (ct.fs.take k).flatMap (fun f => vCells f.y) = (ct.fs.map Fld.y).flatMap vCells by rw [← HNN.out, List.take_length, List.flatMap_map]] at hown
      have hlen : (ct.fs.map Fld.y).length = k := by rw [List.length_map]; exact HNN.out
      obtain ⟨A4, c4, rfl, hvn⟩ := vlN_own (T := fun m => w.heap.size + 1 < m) hown fun m hm => by have := HWB.out; omega
      have HVN := Lib.hid hvn
      have hbx := HI.out.bx
      have x0 := (heap_at hbx 0).trans (rfl : _ = some (Value.string id))
      have x1 := (heap_at hbx 1).trans (rfl : _ = some (Value.string ct.name))
      have x2 := (heap_at hbx 2).trans (rfl : _ = some (Value.int .i64 0))
      have x3 := (heap_at hbx 3).trans (rfl : _ = some (Value.slice A4 (ct.fs.map Fld.y).length c4))
      have x4 := (heap_at hbx 4).trans (rfl : _ = some (Value.slice none 0 0))
      have x5 := (heap_at hbx 5).trans (rfl : _ = some (Value.bool false))
      have x6 := (heap_at hbx 6).trans (rfl : _ = some (Value.bool false))
      have x7 := (heap_at hbx 7).trans (rfl : _ = some (Value.int .i64 0))
      have xf := heap_free hbx
      have xl := heap_ltZ hbx
      have hbk := (HI.out.bel.block (w.heap.size + 1) (by have := HWB.out; omega)).trans HBK.out
      have k0 := (heap_at hbk 0).trans (rfl : _ = some (Value.string ⟨#[]⟩))
      have k1 := (heap_at hbk 1).trans (rfl : _ = some (Value.string ⟨#[]⟩))
      have k2 := (heap_at hbk 2).trans (rfl : _ = some (Value.int .i64 0))
      have k3 := (heap_at hbk 3).trans (rfl : _ = some (Value.slice none 0 0))
      have k4 := (heap_at hbk 4).trans (rfl : _ = some (Value.slice none 0 0))
      have k5 := (heap_at hbk 5).trans (rfl : _ = some (Value.bool false))
      have k6 := (heap_at hbk 6).trans (rfl : _ = some (Value.bool false))
      have k7 := (heap_at hbk 7).trans (rfl : _ = some (Value.int .i64 0))
      have kf := heap_free hbk
      have kl := heap_ltZ hbk
      clear hown hvn hbx hbk
      go_wp2
      exact bodyPost_ret (v := .tuple #[.agg (csK ⟨id, ct.name, 0, ct.fs.map Fld.y, [], false, false, 0⟩ A4 c4 none 0), .int .i64 0]) (by simp [results, Tryz.results20, go_sem, k0, k1, k2, k3, k4, k5, k6, k7, kl, HNN.out]) rfl (GivesK.mk (r := (⟨id, ct.name, 0, ct.fs.map Fld.y, [], false, false, 0⟩, 0)) (Nat.le_succ _) ⟨HVN.out, RowN.nil _ _ _ _⟩ (bel2 HB1.out (show Below w1.heap.size w1 wr by rw [HBB.out]; exact HI.out.bel)) _ _ _ _ _ _ _ _)
end Go.Proofs.YtachhcabgggimaaGreat

/- Layer 7: what deeds stand on; barred, resume. (Made by gen/gendeed.py.) -/
namespace Go.Proofs.YtachhcabgggimaaGreat
open Go.RowKit
set_option linter.unusedVariables false
set_option linter.unusedSimpArgs false
set_option maxRecDepth 20000

abbrev csD (ct : Ctr) (FA : Option Addr) (fc : Nat) (SA : Option Addr) (sc : Nat) (MA : Option Addr) (mc : Nat) (nm : ByteArray) (v : Vl) (org : Int) : Array Value := #[.string ct.name, .slice FA ct.fs.length fc, .slice SA ct.ss.length sc, .slice MA ct.ms.length mc, .string nm, .int .i64 v.k, .int .i64 v.i, .bool v.b, .string v.s, .float .f64 v.n, .int .i64 org]
structure DdK (w : World) (base B : Nat) (k : Cse) (VA : Option Addr) (vc : Nat) (EA : Option Addr) (ec : Nat) : Prop where
  lt : B < base
  bz : base ≤ w.heap.size
  b : w.heap[B]? = some (.cells (csK k VA vc EA ec) 45 (0, 0))
  v : w.ownsRow base 55 5 (.slice VA k.vals.length vc) k.vals.length (k.vals.flatMap vCells)
  e : w.ownsRow base 3 1 (.slice EA k.ends.length ec) k.ends.length (k.ends.map (Value.int .i64))
theorem DdK.below {w w' : World} {base B : Nat} {k : Cse} {VA : Option Addr} {vc : Nat} {EA : Option Addr} {ec : Nat} (h : DdK w base B k VA vc EA ec) (hb : Below w.heap.size w w') : DdK w' base B k VA vc EA ec :=
  ⟨h.lt, Nat.le_trans h.bz hb.size, belowZ h.b hb, own_belowX h.v hb, own_belowX h.e hb⟩
theorem DdK.vlk {w : World} {base B : Nat} {k : Cse} {VA : Option Addr} {vc : Nat} {EA : Option Addr} {ec : Nat} (h : DdK w base B k VA vc EA ec) : VlN (fun b => base ≤ b) w VA vc k.vals := by
  obtain ⟨A, c, e, h2⟩ := vlN_own (T := fun b => base ≤ b) h.v fun b hb => hb
  injection e with e1 e2 e3
  subst e1 e3
  exact h2
theorem DdK.isn {w : World} {base B : Nat} {k : Cse} {VA : Option Addr} {vc : Nat} {EA : Option Addr} {ec : Nat} (h : DdK w base B k VA vc EA ec) : IsN (fun b => base ≤ b) w EA ec k.ends := by
  obtain ⟨A, c, e, h2⟩ := isN_own (T := fun b => base ≤ b) h.e fun b hb => hb
  injection e with e1 e2 e3
  subst e1 e3
  exact h2
theorem DdK.csn {w : World} {base B : Nat} {k : Cse} {VA : Option Addr} {vc : Nat} {EA : Option Addr} {ec : Nat} (h : DdK w base B k VA vc EA ec) : CsN (fun b => base ≤ b) w k VA vc EA ec := ⟨h.vlk, h.isn⟩
structure Frm (base B : Nat) (w w' : World) : Prop where
  os : w'.os = w.os
  tape : w'.tape = w.tape
  output : w'.output = w.output
  size : w.heap.size ≤ w'.heap.size
  block : ∀ m, m < base → m ≠ B → w'.heap[m]? = w.heap[m]?
theorem Frm.refl (base B : Nat) (w : World) : Frm base B w w := ⟨rfl, rfl, rfl, Nat.le_refl _, fun _ _ _ => rfl⟩
theorem Frm.of {base B : Nat} {w w' : World} (hz : base ≤ w.heap.size) (h : Below w.heap.size w w') : Frm base B w w' := ⟨h.os, h.tape, h.output, h.size, fun m hm _ => h.block m (by omega)⟩
theorem Frm.trans {base B : Nat} {w w1 w2 : World} (h : Frm base B w w1) (h2 : Frm base B w1 w2) : Frm base B w w2 := ⟨h2.os.trans h.os, h2.tape.trans h.tape, h2.output.trans h.output, Nat.le_trans h.size h2.size, fun m hm hB => (h2.block m hm hB).trans (h.block m hm hB)⟩
theorem Frm.drew {base B : Nat} {w w1 : World} (h : Frm base B w w1) : Frm base B w w1.drew := ⟨h.os, h.tape, h.output, h.size, h.block⟩
theorem Frm.setc {base B : Nat} {w w0 : World} (h : Frm base B w w0) (j : Nat) (u : Value) : Frm base B w (w0.setCell ⟨B, j, none⟩ u) :=
  ⟨h.os, h.tape, h.output, by simpa [World.setCell] using h.size, fun m hm hB => (Below.heap_setCell w0 _ u m hB).trans (h.block m hm hB)⟩
def StepP (base B : Nat) (r : Cse × Int) (w : World) (e : Ending) (w' : World) : Prop := ∃ VA vc EA ec, e = .returned (.int .i64 r.2) ∧ DdK w' base B r.1 VA vc EA ec ∧ Frm base B w w'
theorem StepP.stay {base B : Nat} {k : Cse} {n : Int} {w w' : World} {VA : Option Addr} {vc : Nat} {EA : Option Addr} {ec : Nat} (h : DdK w base B k VA vc EA ec) (hb : Below w.heap.size w w') : StepP base B (k, n) w (.returned (.int .i64 n)) w' := ⟨VA, vc, EA, ec, rfl, h.below hb, Frm.of h.bz hb⟩
theorem DdK.setc {w : World} {base B : Nat} {k k' : Cse} {VA : Option Addr} {vc : Nat} {EA : Option Addr} {ec : Nat} (h : DdK w base B k VA vc EA ec) (j : Nat) (u : Value) (hv : k'.vals = k.vals) (he : k'.ends = k.ends) (hc : (csK k VA vc EA ec).setIfInBounds j u = csK k' VA vc EA ec) : DdK (w.setCell ⟨B, j, none⟩ u) base B k' VA vc EA ec :=
  ⟨h.lt, by have := h.bz; simpa [World.setCell] using this, by rw [← hc]; exact setZ h.b j u, by rw [hv]; exact ownsRow_setCell_below h.v (a := ⟨B, j, none⟩) h.lt u, by rw [he]; exact ownsRow_setCell_below h.e (a := ⟨B, j, none⟩) h.lt u⟩
theorem DdK.setn {w : World} {base B : Nat} {k k' : Cse} {VA : Option Addr} {vc : Nat} {EA : Option Addr} {ec : Nat} (h : DdK w base B k VA vc EA ec) (hv : k'.vals = k.vals) (he : k'.ends = []) (hc : (csK k VA vc EA ec).setIfInBounds 4 (.slice none 0 0) = csK k' VA vc none 0) : DdK (w.setCell ⟨B, 4, none⟩ (.slice none 0 0)) base B k' VA vc none 0 :=
  ⟨h.lt, by have := h.bz; simpa [World.setCell] using this, by rw [← hc]; exact setZ h.b 4 _, by rw [hv]; exact ownsRow_setCell_below h.v (a := ⟨B, 4, none⟩) h.lt _, by rw [he]; exact World.ownsRow_nil _ _ _ _⟩
theorem barred_any (k : Cse) (VA : Option Addr) (vc : Nat) (EA : Option Addr) (ec : Nat) (d : Int) (h3 : 3 ≤ d) (h9 : d ≤ 9) (w : World) :
    Calls Tryz.prog 94 #[.agg (csK k VA vc EA ec), .int .i64 d] w (VMk (.int .i64 (barK k d)) w) := by
  obtain ⟨id, kc, st, vals, ends, su, sh, sp⟩ := k
  have hd : d = 3 ∨ d = 4 ∨ d = 5 ∨ d = 6 ∨ d = 7 ∨ d = 8 ∨ d = 9 := by omega
  clear h3 h9
  rcases hd with rfl | rfl | rfl | rfl | rfl | rfl | rfl
  all_goals
    cases su
    all_goals
      cases sh
      all_goals
        go_enter Tryz.func94, Tryz.ntmps94
        go_wp2
        go_ret
        exact ⟨rfl, alloc1 _ _⟩
theorem resume_any (k : Cse) (VA : Option Addr) (vc : Nat) (EA : Option Addr) (ec : Nat) (base B : Nat) (w : World) (h : DdK w base B k VA vc EA ec) :
    Calls Tryz.prog 98 #[.pointer (some ⟨B, 0, none⟩)] w (StepP base B (if k.susp = true then ({ k with susp := false }, 0) else (k, 75)) w) := by
  have hb := h.b
  have HD := Lib.hid h
  clear h
  obtain ⟨id, kc, st, vals, ends, su, sh, sp⟩ := k
  have k0 := (heap_at hb 0).trans (rfl : _ = some (Value.string id))
  have k1 := (heap_at hb 1).trans (rfl : _ = some (Value.string kc))
  have k2 := (heap_at hb 2).trans (rfl : _ = some (Value.int .i64 st))
  have k3 := (heap_at hb 3).trans (rfl : _ = some (Value.slice VA vals.length vc))
  have k4 := (heap_at hb 4).trans (rfl : _ = some (Value.slice EA ends.length ec))
  have k5 := (heap_at hb 5).trans (rfl : _ = some (Value.bool su))
  have k6 := (heap_at hb 6).trans (rfl : _ = some (Value.bool sh))
  have k7 := (heap_at hb 7).trans (rfl : _ = some (Value.int .i64 sp))
  have kf := heap_free hb
  have kl := heap_ltZ hb
  clear hb
  cases su
  · show Calls _ _ _ _ (StepP base B (⟨id, kc, st, vals, ends, false, sh, sp⟩, 75) w)
    go_enter Tryz.func98, Tryz.ntmps98
    go_wp2
    go_ret
    exact StepP.stay HD.out (Below.refl _ _)
  · show Calls _ _ _ _ (StepP base B (⟨id, kc, st, vals, ends, false, sh, sp⟩, 0) w)
    go_enter Tryz.func98, Tryz.ntmps98
    go_wp2
    go_ret
    exact ⟨VA, vc, EA, ec, rfl, HD.out.setc 5 _ rfl rfl rfl, (Frm.refl _ _ _).setc 5 _⟩
end Go.Proofs.YtachhcabgggimaaGreat

/- Layer 7: Right by the program; what an error leaves. (Made by gen/gendeed.py.) -/
namespace Go.Proofs.YtachhcabgggimaaGreat
open Go.RowKit
set_option linter.unusedVariables false
set_option linter.unusedSimpArgs false
set_option maxRecDepth 20000

theorem stepK_err {c : Ctr} {k : Cse} {d : Int} {nm : ByteArray} {v : Vl} {ev : Ex → Vl × Int} {org : Int} (h : (stepK c k d nm v ev org).2 ≠ 0) : (stepK c k d nm v ev org).1 = k := by
  unfold stepK at h ⊢
  by_cases hb : barK k d ≠ 0
  · rw [if_pos hb]
  rw [if_neg hb] at h ⊢
  by_cases e3 : d = 3
  · rw [if_pos e3] at h ⊢
    by_cases hno : (stgAt c k.stage).orgs ≠ [] ∧ memI org (stgAt c k.stage).orgs = false
    · rw [updK_org hno]
    by_cases hp : placeN nm (c.fs.map fun f => f.f.name) 0 < 0
    · rw [updK_neg hno hp]
    obtain ⟨j, hj, -, hf⟩ := place_at nm c.fs (fun f => f.f.name) hp
    rw [updK_at hno hp hf] at h ⊢
    by_cases hv : fitsV v (c.fs[j]).f.kind (c.fs[j]).en = 0
    · rw [if_pos hv] at h; exact absurd rfl h
    · rw [if_neg hv]
  rw [if_neg e3] at h ⊢
  by_cases e4 : d = 4
  · rw [if_pos e4] at h ⊢
    unfold endK at h ⊢
    by_cases ho : memI org (stgAt c k.stage).orgs = true
    · rw [if_pos ho] at h ⊢
      by_cases hn : memI org k.ends = true
      · rw [if_pos hn]
      · rw [if_neg hn] at h; exact absurd rfl h
    · rw [if_neg ho]
  rw [if_neg e4] at h ⊢
  by_cases e5 : d = 5
  · rw [if_pos e5] at h ⊢
    by_cases hp : placeN nm (c.ms.map Mv.name) 0 < 0
    · rw [advK_neg hp]
    obtain ⟨j, hj, -, hm⟩ := place_at nm c.ms Mv.name hp
    rw [advK_at hp hm] at h ⊢
    by_cases hy : mayK c k c.ms[j] ev org ≠ 0
    · rw [if_pos hy]
    rw [if_neg hy] at h ⊢
    by_cases he : (effK c ev (c.ms[j]).effs k.vals).2 ≠ 0
    · rw [if_pos he]
    · rw [if_neg he] at h; exact absurd rfl h
  rw [if_neg e5] at h ⊢
  by_cases e6 : d = 6
  · rw [if_pos e6] at h; exact absurd rfl h
  rw [if_neg e6] at h ⊢
  by_cases e7 : d = 7
  · rw [if_pos e7] at h ⊢
    by_cases hs : k.susp = true
    · rw [if_pos hs] at h; exact absurd rfl h
    · rw [if_neg hs]
  rw [if_neg e7] at h ⊢
  by_cases e8 : d = 8
  · rw [if_pos e8] at h ⊢
    by_cases hl : leadsK c k.stage = true
    · rw [if_pos hl]
    · rw [if_neg hl] at h; exact absurd rfl h
  rw [if_neg e8] at h
  exact absurd rfl h
set_option maxHeartbeats 2000000 in
theorem kRight_any (ct : Ctr) (FA : Option Addr) (fc : Nat) (SA : Option Addr) (sc : Nat) (MA : Option Addr) (mc : Nat) (k : Cse) (VA : Option Addr) (vc : Nat) (EA : Option Addr) (ec : Nat) (w : World) (h : CtK w ct FA fc SA sc MA mc) (hk : CsK w k VA vc EA ec) :
    Calls Tryz.prog 22 #[agC ct.name FA ct.fs.length fc SA ct.ss.length sc MA ct.ms.length mc, .agg (csK k VA vc EA ec)] w (VMk (.bool (rightK ct k)) w) := by
  have hb2 : Below w.heap.size w ((w.alloc (.cells #[.string ct.name, .slice FA ct.fs.length fc, .slice SA ct.ss.length sc, .slice MA ct.ms.length mc] 33)).alloc (.cells #[.string k.id, .string k.ctr, .int .i64 k.stage, .slice VA k.vals.length vc, .slice EA k.ends.length ec, .bool k.susp, .bool k.shut, .int .i64 k.steps] 45)) := (alloc1 _ _).trans ((alloc1 _ _).mono (by simp))
  have hbc := belowZ (heap_alloc_new w (.cells #[.string ct.name, .slice FA ct.fs.length fc, .slice SA ct.ss.length sc, .slice MA ct.ms.length mc] 33)) (alloc1 (w.alloc (.cells #[.string ct.name, .slice FA ct.fs.length fc, .slice SA ct.ss.length sc, .slice MA ct.ms.length mc] 33)) (.cells #[.string k.id, .string k.ctr, .int .i64 k.stage, .slice VA k.vals.length vc, .slice EA k.ends.length ec, .bool k.susp, .bool k.shut, .int .i64 k.steps] 45))
  have hbk := heap_alloc_new (w.alloc (.cells #[.string ct.name, .slice FA ct.fs.length fc, .slice SA ct.ss.length sc, .slice MA ct.ms.length mc] 33)) (.cells #[.string k.id, .string k.ctr, .int .i64 k.stage, .slice VA k.vals.length vc, .slice EA k.ends.length ec, .bool k.susp, .bool k.shut, .int .i64 k.steps] 45)
  rw [World.size_alloc] at hbk
  have HCK := Lib.hid (fun W (hb : Below w.heap.size w W) => cCheck_any ct FA fc SA sc MA mc W (h.below hb))
  have HRF := Lib.hid (fun W (hb : Below w.heap.size w W) => rightFor_any ct FA fc SA sc MA mc k VA vc EA ec W (h.below hb) (hk.below hb))
  have HB2 := Lib.hid hb2
  have HR1 := Lib.hid (show checkC ct ≠ 0 → rightK ct k = false from fun h => by unfold rightK; simp [h])
  have HR2 := Lib.hid (show checkC ct = 0 → rightK ct k = rightF ct k from fun h => by unfold rightK; simp [h])
  clear h hk hb2
  generalize rightK ct k = b at *
  generalize rightF ct k = b2 at *
  generalize checkC ct = y at *
  go_enter Tryz.func22, Tryz.ntmps22
  go_upto_region 1 with fail
  generalize (w.alloc (.cells #[.string ct.name, .slice FA ct.fs.length fc, .slice SA ct.ss.length sc, .slice MA ct.ms.length mc] 33)).alloc (.cells #[.string k.id, .string k.ctr, .int .i64 k.stage, .slice VA k.vals.length vc, .slice EA k.ends.length ec, .bool k.susp, .bool k.shut, .int .i64 k.steps] 45) = w1 at *
  have c0 := (heap_at hbc 0).trans (rfl : _ = some (Value.string ct.name))
  have c1 := (heap_at hbc 1).trans (rfl : _ = some (Value.slice FA ct.fs.length fc))
  have c2 := (heap_at hbc 2).trans (rfl : _ = some (Value.slice SA ct.ss.length sc))
  have c3 := (heap_at hbc 3).trans (rfl : _ = some (Value.slice MA ct.ms.length mc))
  have cf := heap_free hbc
  have cl := heap_ltZ hbc
  have k0 := (heap_at hbk 0).trans (rfl : _ = some (Value.string k.id))
  have k1 := (heap_at hbk 1).trans (rfl : _ = some (Value.string k.ctr))
  have k2 := (heap_at hbk 2).trans (rfl : _ = some (Value.int .i64 k.stage))
  have k3 := (heap_at hbk 3).trans (rfl : _ = some (Value.slice VA k.vals.length vc))
  have k4 := (heap_at hbk 4).trans (rfl : _ = some (Value.slice EA k.ends.length ec))
  have k5 := (heap_at hbk 5).trans (rfl : _ = some (Value.bool k.susp))
  have k6 := (heap_at hbk 6).trans (rfl : _ = some (Value.bool k.shut))
  have k7 := (heap_at hbk 7).trans (rfl : _ = some (Value.int .i64 k.steps))
  have kf := heap_free hbk
  have kl := heap_ltZ hbk
  by_cases hy : y = 0
  · have hb := HR2.out hy
    subst hb
    have hyb : (y == 0) = true := by simp [hy]
    have HBC := Lib.hid hbc
    have HBK := Lib.hid hbk
    clear hy hbc hbk
    go_wp2_with (first
      | (go_at_call 33; refine (HCK.out w1 HB2.out).mono ?_; rintro e w2 ⟨rfl, hb12⟩; have HB3 := Lib.hid (bel2 HB2.out hb12); have hc2 := belowZ HBC.out hb12; have hk2 := belowZ HBK.out hb12;
          have cc0 := (heap_at hc2 0).trans (rfl : _ = some (Value.string ct.name));
          have cc1 := (heap_at hc2 1).trans (rfl : _ = some (Value.slice FA ct.fs.length fc));
          have cc2 := (heap_at hc2 2).trans (rfl : _ = some (Value.slice SA ct.ss.length sc));
          have cc3 := (heap_at hc2 3).trans (rfl : _ = some (Value.slice MA ct.ms.length mc));
          have kk0 := (heap_at hk2 0).trans (rfl : _ = some (Value.string k.id));
          have kk1 := (heap_at hk2 1).trans (rfl : _ = some (Value.string k.ctr));
          have kk2 := (heap_at hk2 2).trans (rfl : _ = some (Value.int .i64 k.stage));
          have kk3 := (heap_at hk2 3).trans (rfl : _ = some (Value.slice VA k.vals.length vc));
          have kk4 := (heap_at hk2 4).trans (rfl : _ = some (Value.slice EA k.ends.length ec));
          have kk5 := (heap_at hk2 5).trans (rfl : _ = some (Value.bool k.susp));
          have kk6 := (heap_at hk2 6).trans (rfl : _ = some (Value.bool k.shut));
          have kk7 := (heap_at hk2 7).trans (rfl : _ = some (Value.int .i64 k.steps)); clear hb12 hc2 hk2)
      | (go_at_call 48; refine (HRF.out w2 HB3.out).mono ?_; rintro e w3 ⟨rfl, hb13⟩; have HB4 := Lib.hid (bel2 HB3.out hb13); clear hb13))
    go_ret
    exact ⟨rfl, HB4.out⟩
  · have hb := HR1.out hy
    subst hb
    have hyb : (y == 0) = false := by simpa using hy
    clear hy
    go_wp2_with (go_at_call 33; refine (HCK.out w1 HB2.out).mono ?_; rintro e w2 ⟨rfl, hb12⟩; have HB3 := Lib.hid (bel2 HB2.out hb12); clear hb12)
    go_ret
    exact ⟨rfl, HB3.out⟩
end Go.Proofs.YtachhcabgggimaaGreat

/- Layer 7: the stage that a case is in. (Made by gen/gendeed.py.) -/
namespace Go.Proofs.YtachhcabgggimaaGreat
open Go.RowKit
set_option linter.unusedVariables false
set_option linter.unusedSimpArgs false
set_option maxRecDepth 20000

def StgR (s : Stg) (w : World) (e : Ending) (w' : World) : Prop := ∃ A c, e = .returned (.agg #[.string s.name, .int .i64 s.need, .slice A s.orgs.length c]) ∧ Is w' (.slice A s.orgs.length c) s.orgs ∧ Below w.heap.size w w'
theorem below_setg {B b : Nat} {w w0 : World} (h : Below B w w0) (hb : B ≤ b) (j : Nat) (u : Value) : Below B w (w0.setCell ⟨b, j, none⟩ u) :=
  ⟨h.os, h.tape, h.output, by simpa [World.setCell] using h.size, fun m hm => (Below.heap_setCell w0 _ u m (show m ≠ b by omega)).trans (h.block m hm)⟩
theorem StgR.mk {s : Stg} {w W : World} {A : Option Addr} {c rb : Nat} (hso : Is w (.slice A s.orgs.length c) s.orgs) (hB : Below w.heap.size w W) (hb : w.heap.size ≤ rb) (u0 u1 u2 : Value) :
    StgR s w (.returned (.agg #[.string s.name, .int .i64 s.need, .slice A s.orgs.length c])) (((W.setCell ⟨rb, 0, none⟩ u0).setCell ⟨rb, 1, none⟩ u1).setCell ⟨rb, 2, none⟩ u2) :=
  have h := below_setg (below_setg (below_setg hB hb 0 u0) hb 1 u1) hb 2 u2
  ⟨A, c, rfl, Rd.below hso h (Nat.le_refl _), h⟩
theorem StgR.drew {s : Stg} {w w' : World} {e : Ending} (h : StgR s w e w') : StgR s w e w'.drew := by
  obtain ⟨A, c, h1, h2, h3⟩ := h
  exact ⟨A, c, h1, Rd.below h2 (Below.refl _ _).drew (Nat.le_refl _), h3.drew⟩
set_option maxHeartbeats 4000000 in
theorem dStage_any (ct : Ctr) (FA : Option Addr) (fc : Nat) (SA : Option Addr) (sc : Nat) (MA : Option Addr) (mc : Nat) (k : Cse) (VA : Option Addr) (vc : Nat) (EA : Option Addr) (ec : Nat) (nm : ByteArray) (v : Vl) (org : Int) (B : Nat) (w : World) (h : CtK w ct FA fc SA sc MA mc) (hb : w.heap[B]? = some (.cells (csK k VA vc EA ec) 45 (0, 0))) (h0 : 0 ≤ k.stage) (h1 : k.stage < (ct.ss.length : Int)) :
    Calls Tryz.prog 155 #[.agg (csD ct FA fc SA sc MA mc nm v org), .pointer (some ⟨B, 0, none⟩)] w (StgR (stgAt ct k.stage) w) := by
  obtain ⟨id, kc, st, vals, ends, su, sh, sp⟩ := k
  dsimp only at h0 h1 ⊢
  obtain ⟨j, rfl⟩ := Int.eq_ofNat_of_zero_le h0
  have hjl : j < ct.ss.length := by omega
  clear h0
  have hb2 : Below w.heap.size w ((w.alloc (.cells #[.string ct.name, .slice FA ct.fs.length fc, .slice SA ct.ss.length sc, .slice MA ct.ms.length mc, .string nm, .int .i64 v.k, .int .i64 v.i, .bool v.b, .string v.s, .float .f64 v.n, .int .i64 org] 95)).alloc (.cells #[.string ⟨#[]⟩, .int .i64 0, .slice none 0 0] 65)) := (alloc1 _ _).trans ((alloc1 _ _).mono (by simp))
  have hbd := belowZ (heap_alloc_new w (.cells #[.string ct.name, .slice FA ct.fs.length fc, .slice SA ct.ss.length sc, .slice MA ct.ms.length mc, .string nm, .int .i64 v.k, .int .i64 v.i, .bool v.b, .string v.s, .float .f64 v.n, .int .i64 org] 95)) (alloc1 (w.alloc (.cells #[.string ct.name, .slice FA ct.fs.length fc, .slice SA ct.ss.length sc, .slice MA ct.ms.length mc, .string nm, .int .i64 v.k, .int .i64 v.i, .bool v.b, .string v.s, .float .f64 v.n, .int .i64 org] 95)) (.cells #[.string ⟨#[]⟩, .int .i64 0, .slice none 0 0] 65))
  have hbs := heap_alloc_new (w.alloc (.cells #[.string ct.name, .slice FA ct.fs.length fc, .slice SA ct.ss.length sc, .slice MA ct.ms.length mc, .string nm, .int .i64 v.k, .int .i64 v.i, .bool v.b, .string v.s, .float .f64 v.n, .int .i64 org] 95)) (.cells #[.string ⟨#[]⟩, .int .i64 0, .slice none 0 0] 65)
  rw [World.size_alloc] at hbs
  have hbk := belowZ hb hb2
  obtain ⟨sd, A, c, rfl, hsl, t0, t1, t2, hso⟩ := stg_at h.s hjl
  have s0 := (hb2.cell (by rw [block_add]; exact hsl)).trans t0
  have s1 := keepc hb2 (by rw [block_add]; exact hsl) t1
  have s2 := keepc hb2 (by rw [block_add]; exact hsl) t2
  have HSO := Lib.hid hso
  have HB := Lib.hid hb2
  clear hb2 hso hb h t0 t1 t2
  generalize stgAt ct (j : Int) = s at *
  go_enter Tryz.func155, Tryz.ntmps155
  go_upto_region 1 with fail
  generalize (w.alloc (.cells #[.string ct.name, .slice FA ct.fs.length fc, .slice (some sd) ct.ss.length sc, .slice MA ct.ms.length mc, .string nm, .int .i64 v.k, .int .i64 v.i, .bool v.b, .string v.s, .float .f64 v.n, .int .i64 org] 95)).alloc (.cells #[.string ⟨#[]⟩, .int .i64 0, .slice none 0 0] 65) = w1 at *
  have d0 := (heap_at hbd 0).trans (rfl : _ = some (Value.string ct.name))
  have d1 := (heap_at hbd 1).trans (rfl : _ = some (Value.slice FA ct.fs.length fc))
  have d2 := (heap_at hbd 2).trans (rfl : _ = some (Value.slice (some sd) ct.ss.length sc))
  have d3 := (heap_at hbd 3).trans (rfl : _ = some (Value.slice MA ct.ms.length mc))
  have d4 := (heap_at hbd 4).trans (rfl : _ = some (Value.string nm))
  have d5 := (heap_at hbd 5).trans (rfl : _ = some (Value.int .i64 v.k))
  have d6 := (heap_at hbd 6).trans (rfl : _ = some (Value.int .i64 v.i))
  have d7 := (heap_at hbd 7).trans (rfl : _ = some (Value.bool v.b))
  have d8 := (heap_at hbd 8).trans (rfl : _ = some (Value.string v.s))
  have d9 := (heap_at hbd 9).trans (rfl : _ = some (Value.float .f64 v.n))
  have d10 := (heap_at hbd 10).trans (rfl : _ = some (Value.int .i64 org))
  have df := heap_free hbd
  have dl := heap_ltZ hbd
  have r0 := (heap_at hbs 0).trans (rfl : _ = some (Value.string ⟨#[]⟩))
  have r1 := (heap_at hbs 1).trans (rfl : _ = some (Value.int .i64 0))
  have r2 := (heap_at hbs 2).trans (rfl : _ = some (Value.slice none 0 0))
  have rf := heap_free hbs
  have rl := heap_ltZ hbs
  have k0 := (heap_at hbk 0).trans (rfl : _ = some (Value.string id))
  have k1 := (heap_at hbk 1).trans (rfl : _ = some (Value.string kc))
  have k2 := (heap_at hbk 2).trans (rfl : _ = some (Value.int .i64 j))
  have k3 := (heap_at hbk 3).trans (rfl : _ = some (Value.slice VA vals.length vc))
  have k4 := (heap_at hbk 4).trans (rfl : _ = some (Value.slice EA ends.length ec))
  have k5 := (heap_at hbk 5).trans (rfl : _ = some (Value.bool su))
  have k6 := (heap_at hbk 6).trans (rfl : _ = some (Value.bool sh))
  have k7 := (heap_at hbk 7).trans (rfl : _ = some (Value.int .i64 sp))
  have kf := heap_free hbk
  have kl := heap_ltZ hbk
  clear hbd hbs hbk
  go_region
  all_goals
    go_wp2
    exact bodyPost_ret (v := .agg #[.string s.name, .int .i64 s.need, .slice A s.orgs.length c]) (by simp [results, Tryz.results155, go_sem, r0, r1, r2, rl]) rfl (StgR.mk HSO.out HB.out.drew (Nat.le_succ _) _ _ _)
end Go.Proofs.YtachhcabgggimaaGreat

/- Layer 7: slices.Insert, slices.BinarySearch at []int: the shelf's contracts, laid. -/
namespace Go.Proofs.YtachhcabgggimaaGreat
open Go.RowKit Go.Shelf
set_option linter.unusedVariables false
set_option linter.unusedSimpArgs false
set_option maxRecDepth 20000

def renF : FuncId → FuncId
  | 21 => 157
  | 25 => 156
  | 27 => 205
  | 28 => 206
  | 31 => 203
  | 32 => 204
  | 35 => 236
  | 37 => 235
  | 39 => 253
  | n => n
def renT : TypeId → TypeId
  | 0 => 0
  | 3 => 3
  | 4 => 4
  | 22 => 43
  | 40 => 214
  | n => n
def renI : Ren := ⟨renF, renT, fun n => n⟩
theorem lay_insert : Lays2.n21 Tryz.prog renI where
  mixed := by kernel_rfl
  f21 := by kernel_rfl
  f27 := by kernel_rfl
  f28 := by kernel_rfl
  f35 := by kernel_rfl
  f39 := by kernel_rfl
  t0 := by kernel_rfl
  a0 := fun w => by kernel_rfl
  z0 := fun w => by kernel_rfl
  v0 := fun w => by kernel_rfl
  t3 := by kernel_rfl
  a3 := fun w => by kernel_rfl
  z3 := fun w => by kernel_rfl
  v3 := fun w => by kernel_rfl
  t4 := by kernel_rfl
  a4 := fun w => by kernel_rfl
  z4 := fun w => by kernel_rfl
  v4 := fun w => by kernel_rfl
  t22 := by kernel_rfl
  a22 := fun w => by kernel_rfl
  z22 := fun w => by kernel_rfl
  v22 := fun w => by kernel_rfl
  i3 := by kernel_rfl
theorem lay_search : Lays2.n25 Tryz.prog renI where
  mixed := by kernel_rfl
  f25 := by kernel_rfl
  f31 := by kernel_rfl
  f32 := by kernel_rfl
  f37 := by kernel_rfl
  t0 := by kernel_rfl
  a0 := fun w => by kernel_rfl
  z0 := fun w => by kernel_rfl
  v0 := fun w => by kernel_rfl
  t3 := by kernel_rfl
  a3 := fun w => by kernel_rfl
  z3 := fun w => by kernel_rfl
  v3 := fun w => by kernel_rfl
  t4 := by kernel_rfl
  a4 := fun w => by kernel_rfl
  z4 := fun w => by kernel_rfl
  v4 := fun w => by kernel_rfl
  t22 := by kernel_rfl
  a22 := fun w => by kernel_rfl
  z22 := fun w => by kernel_rfl
  v22 := fun w => by kernel_rfl
  t40 := by kernel_rfl
  a40 := fun w => by kernel_rfl
  z40 := fun w => by kernel_rfl
  v40 := fun w => by kernel_rfl
end Go.Proofs.YtachhcabgggimaaGreat
