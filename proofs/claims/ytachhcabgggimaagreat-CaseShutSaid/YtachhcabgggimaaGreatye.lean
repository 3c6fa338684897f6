/- ye: KRight2 KSame CAw KClone KNew KDeed KDo0 KStage KLay (made by shake.py). -/
import Derived.Deep.RegionHeld3
import Derived.BigQuiet
import Derived.Shelf.Spec.SlicesInsert
import Derived.Shelf.Spec.SlicesInsertGrow
import Derived.Shelf.Slices.SearchI
import Derived.Shelf.Slices.Empties
import Derived.Test.YtachhcabgggimaaGreatyd
/- Layer 7: rightFor, Right, by the program. (Made by gen/gencase.py.) -/
namespace Go.Proofs.YtachhcabgggimaaGreat
open Go.RowKit
set_option linter.unusedVariables false
set_option linter.unusedSimpArgs false
set_option maxRecDepth 20000

theorem stg_at {w : World} {SA : Option Addr} {sc : Nat} {ct : Ctr} (h : StgK w SA sc ct.ss) {j : Nat} (hj : j < ct.ss.length) : ∃ (ad : Addr) (A : Option Addr) (c : Nat), SA = some ad ∧ ad.block < w.heap.size ∧ w.cell? (ad.add (j * 3)) = some (.string (stgAt ct (j : Int)).name) ∧
    w.cell? ⟨(ad.add (j * 3)).block, (ad.add (j * 3)).off + 1, none⟩ = some (.int .i64 (stgAt ct (j : Int)).need) ∧ w.cell? ⟨(ad.add (j * 3)).block, (ad.add (j * 3)).off + 2, none⟩ = some (.slice A (stgAt ct (j : Int)).orgs.length c) ∧ Is w (.slice A (stgAt ct (j : Int)).orgs.length c) (stgAt ct (j : Int)).orgs := by
  obtain ⟨-, -, -, h4⟩ := h
  obtain ⟨ad, e1, e2, A, c, e3, e4, e5, e6⟩ := h4 j hj
  have hs : stgAt ct (j : Int) = ct.ss[j] := by
    unfold stgAt
    rw [Int.toNat_natCast, List.getElem?_eq_getElem hj]
    rfl
  rw [hs]
  exact ⟨ad, A, c, e1, e2, e3, e4, e5, e6⟩
set_option maxHeartbeats 16000000 in
theorem rightFor_any (ct : Ctr) (FA : Option Addr) (fc : Nat) (SA : Option Addr) (sc : Nat) (MA : Option Addr) (mc : Nat) (k : Cse) (VA : Option Addr) (vc : Nat) (EA : Option Addr) (ec : Nat) (w : World) (hc : CtK w ct FA fc SA sc MA mc) (hk : CsK w k VA vc EA ec) :
    Calls Tryz.prog 48 #[agC ct.name FA ct.fs.length fc SA ct.ss.length sc MA ct.ms.length mc, .agg (csK k VA vc EA ec)] w (VMk (.bool (rightF ct k)) w) := by
  obtain ⟨id, kc, st, vals, ends, su, sh, sp⟩ := k
  obtain ⟨hv, he⟩ := hk
  dsimp only at hv he ⊢
  have hRF : rightF ct ⟨id, kc, st, vals, ends, su, sh, sp⟩ = (nameB id && (kc.toList == ct.name.toList) && (decide (0 ≤ st) && decide (st < (ct.ss.length : Int))) && ((vals.length == ct.fs.length) && fitK vals ct.fs) && endsR (stgAt ct st).orgs (-1) ends && !(su && sh) && (decide (0 ≤ sp) && decide (sp ≤ 1099511627776))) := rfl
  rw [hRF]
  clear hRF
  have hb2 : Below w.heap.size w ((w.alloc (.cells #[.string ct.name, .slice FA ct.fs.length fc, .slice SA ct.ss.length sc, .slice MA ct.ms.length mc] 33)).alloc (.cells #[.string id, .string kc, .int .i64 st, .slice VA vals.length vc, .slice EA ends.length ec, .bool su, .bool sh, .int .i64 sp] 45)) := (alloc1 _ _).trans ((alloc1 _ _).mono (by simp))
  have hbc := (heap_alloc_new w (.cells #[.string ct.name, .slice FA ct.fs.length fc, .slice SA ct.ss.length sc, .slice MA ct.ms.length mc] 33))
  have hbc2 := belowZ hbc (alloc1 (w.alloc (.cells #[.string ct.name, .slice FA ct.fs.length fc, .slice SA ct.ss.length sc, .slice MA ct.ms.length mc] 33)) (.cells #[.string id, .string kc, .int .i64 st, .slice VA vals.length vc, .slice EA ends.length ec, .bool su, .bool sh, .int .i64 sp] 45))
  have hbk := heap_alloc_new (w.alloc (.cells #[.string ct.name, .slice FA ct.fs.length fc, .slice SA ct.ss.length sc, .slice MA ct.ms.length mc] 33)) (.cells #[.string id, .string kc, .int .i64 st, .slice VA vals.length vc, .slice EA ends.length ec, .bool su, .bool sh, .int .i64 sp] 45)
  rw [World.size_alloc] at hbk
  have HN := Lib.hid (fun W => kName_any id W)
  have HFT := Lib.hid (fun W (hb : Below w.heap.size w W) => fitAll_any VA vc vals FA fc ct.fs W (hv.below hb (Nat.le_refl _)) (hc.f.below hb))
  have HSS := Lib.hid (fun W (hb : Below w.heap.size w W) => hc.s.below hb)
  have HEE := Lib.hid (fun W (hb : Below w.heap.size w W) => Rd.below he hb (Nat.le_refl _))
  have HB0 := Lib.hid hb2
  clear hv he hc hb2 hbc
  generalize nameB id = b0 at *
  generalize ((vals.length == ct.fs.length) && fitK vals ct.fs) = b4 at *
  generalize hh1 : (kc.toList == ct.name.toList) = b1 at *
  go_enter Tryz.func48, Tryz.ntmps48
  go_upto_region 1 with fail
  generalize (w.alloc (.cells #[.string ct.name, .slice FA ct.fs.length fc, .slice SA ct.ss.length sc, .slice MA ct.ms.length mc] 33)).alloc (.cells #[.string id, .string kc, .int .i64 st, .slice VA vals.length vc, .slice EA ends.length ec, .bool su, .bool sh, .int .i64 sp] 45) = w1 at *
  have c0 := (heap_at hbc2 0).trans (rfl : _ = some (Value.string ct.name))
  have c1 := (heap_at hbc2 1).trans (rfl : _ = some (Value.slice FA ct.fs.length fc))
  have c2 := (heap_at hbc2 2).trans (rfl : _ = some (Value.slice SA ct.ss.length sc))
  have c3 := (heap_at hbc2 3).trans (rfl : _ = some (Value.slice MA ct.ms.length mc))
  have k0 := (heap_at hbk 0).trans (rfl : _ = some (Value.string id))
  have k1 := (heap_at hbk 1).trans (rfl : _ = some (Value.string kc))
  have k2 := (heap_at hbk 2).trans (rfl : _ = some (Value.int .i64 st))
  have k3 := (heap_at hbk 3).trans (rfl : _ = some (Value.slice VA vals.length vc))
  have k4 := (heap_at hbk 4).trans (rfl : _ = some (Value.slice EA ends.length ec))
  have k5 := (heap_at hbk 5).trans (rfl : _ = some (Value.bool su))
  have k6 := (heap_at hbk 6).trans (rfl : _ = some (Value.bool sh))
  have k7 := (heap_at hbk 7).trans (rfl : _ = some (Value.int .i64 sp))
  clear hbc2 hbk
  have HK := Lib.hid (show ∀ W, Below w1.heap.size w1 W → (fun W => Below w1.heap.size w1 W ∧ W.cell? ⟨w.heap.size, 0, none⟩ = some (.string ct.name) ∧ W.cell? ⟨w.heap.size, 1, none⟩ = some (.slice FA ct.fs.length fc) ∧ W.cell? ⟨w.heap.size, 2, none⟩ = some (.slice SA ct.ss.length sc) ∧ W.cell? ⟨w.heap.size, 3, none⟩ = some (.slice MA ct.ms.length mc) ∧ W.cell? ⟨(w.heap.size + 1), 0, none⟩ = some (.string id) ∧ W.cell? ⟨(w.heap.size + 1), 1, none⟩ = some (.string kc) ∧ W.cell? ⟨(w.heap.size + 1), 2, none⟩ = some (.int .i64 st) ∧ W.cell? ⟨(w.heap.size + 1), 3, none⟩ = some (.slice VA vals.length vc) ∧ W.cell? ⟨(w.heap.size + 1), 4, none⟩ = some (.slice EA ends.length ec) ∧ W.cell? ⟨(w.heap.size + 1), 5, none⟩ = some (.bool su) ∧ W.cell? ⟨(w.heap.size + 1), 6, none⟩ = some (.bool sh) ∧ W.cell? ⟨(w.heap.size + 1), 7, none⟩ = some (.int .i64 sp)) W from fun W h => ⟨h, (h.cell (World.block_lt_of_cell? _ _ c0)).trans c0, (h.cell (World.block_lt_of_cell? _ _ c1)).trans c1, (h.cell (World.block_lt_of_cell? _ _ c2)).trans c2, (h.cell (World.block_lt_of_cell? _ _ c3)).trans c3, (h.cell (World.block_lt_of_cell? _ _ k0)).trans k0, (h.cell (World.block_lt_of_cell? _ _ k1)).trans k1, (h.cell (World.block_lt_of_cell? _ _ k2)).trans k2, (h.cell (World.block_lt_of_cell? _ _ k3)).trans k3, (h.cell (World.block_lt_of_cell? _ _ k4)).trans k4, (h.cell (World.block_lt_of_cell? _ _ k5)).trans k5, (h.cell (World.block_lt_of_cell? _ _ k6)).trans k6, (h.cell (World.block_lt_of_cell? _ _ k7)).trans k7⟩)
  have HBr0 := Lib.hid (show Below w1.heap.size w1 w1.drew from (Below.refl _ _).drew)
  clear c0 c1 c2 c3 k0 k1 k2 k3 k4 k5 k6 k7
  refine wp_region_held_drew (S := (fun W => Below w1.heap.size w1 W ∧ W.cell? ⟨w.heap.size, 0, none⟩ = some (.string ct.name) ∧ W.cell? ⟨w.heap.size, 1, none⟩ = some (.slice FA ct.fs.length fc) ∧ W.cell? ⟨w.heap.size, 2, none⟩ = some (.slice SA ct.ss.length sc) ∧ W.cell? ⟨w.heap.size, 3, none⟩ = some (.slice MA ct.ms.length mc) ∧ W.cell? ⟨(w.heap.size + 1), 0, none⟩ = some (.string id) ∧ W.cell? ⟨(w.heap.size + 1), 1, none⟩ = some (.string kc) ∧ W.cell? ⟨(w.heap.size + 1), 2, none⟩ = some (.int .i64 st) ∧ W.cell? ⟨(w.heap.size + 1), 3, none⟩ = some (.slice VA vals.length vc) ∧ W.cell? ⟨(w.heap.size + 1), 4, none⟩ = some (.slice EA ends.length ec) ∧ W.cell? ⟨(w.heap.size + 1), 5, none⟩ = some (.bool su) ∧ W.cell? ⟨(w.heap.size + 1), 6, none⟩ = some (.bool sh) ∧ W.cell? ⟨(w.heap.size + 1), 7, none⟩ = some (.int .i64 sp))) (by kernel_rfl) (HK.out _ HBr0.out) (fun hHeld => ?_)
  refine wpAnyH_take (i := 0) (oi := ?e1) (v := ?v1) ?a1 (by kernel_rfl) (by kernel_rfl) (by kernel_rfl) ?b1 (Or.inl ⟨?c1, ?d1⟩) (by assumption) ?f1
  case a1 => (simp only [gA, gB, gC]; rfl)
  case b1 => exact fun _ _ _ h => h
  case c1 => rfl
  case d1 => (intro w z; (try dsimp only at z); go_simp; try with_reducible rfl)
  (try simp only [Act.put, sA, sB, sC])
  refine wpAnyH_take (i := 1) (oi := ?e2) (v := ?v2) ?a2 (by kernel_rfl) (by kernel_rfl) (by kernel_rfl) ?b2 (Or.inl ⟨?c2, ?d2⟩) (by assumption) ?f2
  case a2 => (simp only [gA, gB, gC]; rfl)
  case b2 => exact fun _ _ _ h => h
  case c2 => rfl
  case d2 => (intro w z; (try dsimp only at z); go_simp; try with_reducible rfl)
  (try simp only [Act.put, sA, sB, sC])
  refine wpAnyH_ready (rs := [2]) (by kernel_rfl) (by simp) ?_
  refine AllReadyH.cons (o := ?o3) ?g3 (fun K hK => ?j3) AllReadyH.nil
  case g3 => (simp only [gA, gB, gC]; rfl)
  go_simp
  refine (HN.out _).mono ?_
  rintro e w_ ⟨rfl, rfl⟩
  refine hK.out _ _ ?_ (fun hHeld => ?_)
  · (try dsimp only); (first | assumption | exact HK.out _ HBr2.out | exact HK.out _ HBr1.out | exact HK.out _ HBr0.out)
  clear hK K
  (try simp only [Act.put, sA, sB, sC])
  cases b0
  · skip
    refine wpAnyH_take (i := 3) (oi := ?e4) (v := ?v4) ?a4 (by kernel_rfl) (by kernel_rfl) (by kernel_rfl) ?b4 (Or.inl ⟨?c4, ?d4⟩) (by assumption) ?f4
    case a4 => (simp only [gA, gB, gC]; rfl)
    case b4 => exact fun _ _ _ h => h
    case c4 => rfl
    case d4 => (intro w z; (try dsimp only at z); go_simp; try with_reducible rfl)
    (try simp only [Act.put, sA, sB, sC])
    refine wpAnyH_take (i := 4) (oi := ?e5) (v := undef) ?a5 (by kernel_rfl) (by kernel_rfl) (by kernel_rfl) ?b5 (Or.inr ⟨?c5, rfl⟩) (by assumption) ?f5
    case a5 => (simp only [gA, gB, gC]; rfl)
    case b5 => exact fun _ _ _ h => h
    case c5 => rfl
    (try simp only [Act.put, sA, sB, sC])
    refine wpAnyH_take (i := 5) (oi := ?e6) (v := undef) ?a6 (by kernel_rfl) (by kernel_rfl) (by kernel_rfl) ?b6 (Or.inr ⟨?c6, rfl⟩) (by assumption) ?f6
    case a6 => (simp only [gA, gB, gC]; rfl)
    case b6 => exact fun _ _ _ h => h
    case c6 => rfl
    (try simp only [Act.put, sA, sB, sC])
    refine wpAnyH_take (i := 6) (oi := ?e7) (v := undef) ?a7 (by kernel_rfl) (by kernel_rfl) (by kernel_rfl) ?b7 (Or.inr ⟨?c7, rfl⟩) (by assumption) ?f7
    case a7 => (simp only [gA, gB, gC]; rfl)
    case b7 => exact fun _ _ _ h => h
    case c7 => rfl
    (try simp only [Act.put, sA, sB, sC])
    refine wpAnyH_take (i := 7) (oi := ?e8) (v := undef) ?a8 (by kernel_rfl) (by kernel_rfl) (by kernel_rfl) ?b8 (Or.inr ⟨?c8, rfl⟩) (by assumption) ?f8
    case a8 => (simp only [gA, gB, gC]; rfl)
    case b8 => exact fun _ _ _ h => h
    case c8 => rfl
    (try simp only [Act.put, sA, sB, sC])
    refine wpAnyH_take (i := 8) (oi := ?e9) (v := undef) ?a9 (by kernel_rfl) (by kernel_rfl) (by kernel_rfl) ?b9 (Or.inr ⟨?c9, rfl⟩) (by assumption) ?f9
    case a9 => (simp only [gA, gB, gC]; rfl)
    case b9 => exact fun _ _ _ h => h
    case c9 => rfl
    (try simp only [Act.put, sA, sB, sC])
    refine wpAnyH_take (i := 9) (oi := ?e10) (v := ?v10) ?a10 (by kernel_rfl) (by kernel_rfl) (by kernel_rfl) ?b10 (Or.inl ⟨?c10, ?d10⟩) (by assumption) ?f10
    case a10 => (simp only [gA, gB, gC]; rfl)
    case b10 => exact fun _ _ _ h => h
    case c10 => rfl
    case d10 => (intro w z; (try dsimp only at z); go_simp; try with_reducible rfl)
    (try simp only [Act.put, sA, sB, sC])
    refine wpAnyH_take (i := 10) (oi := ?e11) (v := ?v11) ?a11 (by kernel_rfl) (by kernel_rfl) (by kernel_rfl) ?b11 (Or.inl ⟨?c11, ?d11⟩) (by assumption) ?f11
    case a11 => (simp only [gA, gB, gC]; rfl)
    case b11 => exact fun _ _ _ h => h
    case c11 => rfl
    case d11 => (intro w z; (try dsimp only at z); go_simp; try with_reducible rfl)
    (try simp only [Act.put, sA, sB, sC])
    refine wpAnyH_take (i := 11) (oi := ?e12) (v := undef) ?a12 (by kernel_rfl) (by kernel_rfl) (by kernel_rfl) ?b12 (Or.inr ⟨?c12, rfl⟩) (by assumption) ?f12
    case a12 => (simp only [gA, gB, gC]; rfl)
    case b12 => exact fun _ _ _ h => h
    case c12 => rfl
    (try simp only [Act.put, sA, sB, sC])
    refine wpAnyH_take (i := 12) (oi := ?e13) (v := undef) ?a13 (by kernel_rfl) (by kernel_rfl) (by kernel_rfl) ?b13 (Or.inr ⟨?c13, rfl⟩) (by assumption) ?f13
    case a13 => (simp only [gA, gB, gC]; rfl)
    case b13 => exact fun _ _ _ h => h
    case c13 => rfl
    (try simp only [Act.put, sA, sB, sC])
    refine wpAnyH_take (i := 13) (oi := ?e14) (v := undef) ?a14 (by kernel_rfl) (by kernel_rfl) (by kernel_rfl) ?b14 (Or.inr ⟨?c14, rfl⟩) (by assumption) ?f14
    case a14 => (simp only [gA, gB, gC]; rfl)
    case b14 => exact fun _ _ _ h => h
    case c14 => rfl
    (try simp only [Act.put, sA, sB, sC])
    refine wpAnyH_take (i := 14) (oi := ?e15) (v := ?v15) ?a15 (by kernel_rfl) (by kernel_rfl) (by kernel_rfl) ?b15 (Or.inl ⟨?c15, ?d15⟩) (by assumption) ?f15
    case a15 => (simp only [gA, gB, gC]; rfl)
    case b15 => exact fun _ _ _ h => h
    case c15 => rfl
    case d15 => (intro w z; (try dsimp only at z); go_simp; try with_reducible rfl)
    (try simp only [Act.put, sA, sB, sC])
    refine wpAnyH_take (i := 15) (oi := ?e16) (v := ?v16) ?a16 (by kernel_rfl) (by kernel_rfl) (by kernel_rfl) ?b16 (Or.inl ⟨?c16, ?d16⟩) (by assumption) ?f16
    case a16 => (simp only [gA, gB, gC]; rfl)
    case b16 => exact fun _ _ _ h => h
    case c16 => rfl
    case d16 => (intro w z; (try dsimp only at z); go_simp; try with_reducible rfl)
    (try simp only [Act.put, sA, sB, sC])
    refine wpAnyH_take (i := 16) (oi := ?e17) (v := undef) ?a17 (by kernel_rfl) (by kernel_rfl) (by kernel_rfl) ?b17 (Or.inr ⟨?c17, rfl⟩) (by assumption) ?f17
    case a17 => (simp only [gA, gB, gC]; rfl)
    case b17 => exact fun _ _ _ h => h
    case c17 => rfl
    (try simp only [Act.put, sA, sB, sC])
    refine wpAnyH_take (i := 17) (oi := ?e18) (v := undef) ?a18 (by kernel_rfl) (by kernel_rfl) (by kernel_rfl) ?b18 (Or.inr ⟨?c18, rfl⟩) (by assumption) ?f18
    case a18 => (simp only [gA, gB, gC]; rfl)
    case b18 => exact fun _ _ _ h => h
    case c18 => rfl
    (try simp only [Act.put, sA, sB, sC])
    refine wpAnyH_take (i := 18) (oi := ?e19) (v := undef) ?a19 (by kernel_rfl) (by kernel_rfl) (by kernel_rfl) ?b19 (Or.inr ⟨?c19, rfl⟩) (by assumption) ?f19
    case a19 => (simp only [gA, gB, gC]; rfl)
    case b19 => exact fun _ _ _ h => h
    case c19 => rfl
    (try simp only [Act.put, sA, sB, sC])
    refine wpAnyH_take (i := 19) (oi := ?e20) (v := undef) ?a20 (by kernel_rfl) (by kernel_rfl) (by kernel_rfl) ?b20 (Or.inr ⟨?c20, rfl⟩) (by assumption) ?f20
    case a20 => (simp only [gA, gB, gC]; rfl)
    case b20 => exact fun _ _ _ h => h
    case c20 => rfl
    (try simp only [Act.put, sA, sB, sC])
    refine wpAnyH_take (i := 20) (oi := ?e21) (v := undef) ?a21 (by kernel_rfl) (by kernel_rfl) (by kernel_rfl) ?b21 (Or.inr ⟨?c21, rfl⟩) (by assumption) ?f21
    case a21 => (simp only [gA, gB, gC]; rfl)
    case b21 => exact fun _ _ _ h => h
    case c21 => rfl
    (try simp only [Act.put, sA, sB, sC])
    refine wpAnyH_take (i := 21) (oi := ?e22) (v := undef) ?a22 (by kernel_rfl) (by kernel_rfl) (by kernel_rfl) ?b22 (Or.inr ⟨?c22, rfl⟩) (by assumption) ?f22
    case a22 => (simp only [gA, gB, gC]; rfl)
    case b22 => exact fun _ _ _ h => h
    case c22 => rfl
    (try simp only [Act.put, sA, sB, sC])
    refine wpAnyH_take (i := 22) (oi := ?e23) (v := ?v23) ?a23 (by kernel_rfl) (by kernel_rfl) (by kernel_rfl) ?b23 (Or.inl ⟨?c23, ?d23⟩) (by assumption) ?f23
    case a23 => (simp only [gA, gB, gC]; rfl)
    case b23 => exact fun _ _ _ h => h
    case c23 => rfl
    case d23 => (intro w z; (try dsimp only at z); go_simp; try with_reducible rfl)
    (try simp only [Act.put, sA, sB, sC])
    refine wpAnyH_take (i := 23) (oi := ?e24) (v := ?v24) ?a24 (by kernel_rfl) (by kernel_rfl) (by kernel_rfl) ?b24 (Or.inl ⟨?c24, ?d24⟩) (by assumption) ?f24
    case a24 => (simp only [gA, gB, gC]; rfl)
    case b24 => exact fun _ _ _ h => h
    case c24 => rfl
    case d24 => (intro w z; (try dsimp only at z); go_simp; try with_reducible rfl)
    (try simp only [Act.put, sA, sB, sC])
    refine wpAnyH_take (i := 24) (oi := ?e25) (v := undef) ?a25 (by kernel_rfl) (by kernel_rfl) (by kernel_rfl) ?b25 (Or.inr ⟨?c25, rfl⟩) (by assumption) ?f25
    case a25 => (simp only [gA, gB, gC]; rfl)
    case b25 => exact fun _ _ _ h => h
    case c25 => rfl
    (try simp only [Act.put, sA, sB, sC])
    refine wpAnyH_take (i := 25) (oi := ?e26) (v := undef) ?a26 (by kernel_rfl) (by kernel_rfl) (by kernel_rfl) ?b26 (Or.inr ⟨?c26, rfl⟩) (by assumption) ?f26
    case a26 => (simp only [gA, gB, gC]; rfl)
    case b26 => exact fun _ _ _ h => h
    case c26 => rfl
    (try simp only [Act.put, sA, sB, sC])
    refine wpAnyH_take (i := 26) (oi := ?e27) (v := undef) ?a27 (by kernel_rfl) (by kernel_rfl) (by kernel_rfl) ?b27 (Or.inr ⟨?c27, rfl⟩) (by assumption) ?f27
    case a27 => (simp only [gA, gB, gC]; rfl)
    case b27 => exact fun _ _ _ h => h
    case c27 => rfl
    (try simp only [Act.put, sA, sB, sC])
    refine wpAnyH_take (i := 27) (oi := ?e28) (v := undef) ?a28 (by kernel_rfl) (by kernel_rfl) (by kernel_rfl) ?b28 (Or.inr ⟨?c28, rfl⟩) (by assumption) ?f28
    case a28 => (simp only [gA, gB, gC]; rfl)
    case b28 => exact fun _ _ _ h => h
    case c28 => rfl
    (try simp only [Act.put, sA, sB, sC])
    refine wpAnyH_take (i := 28) (oi := ?e29) (v := undef) ?a29 (by kernel_rfl) (by kernel_rfl) (by kernel_rfl) ?b29 (Or.inr ⟨?c29, rfl⟩) (by assumption) ?f29
    case a29 => (simp only [gA, gB, gC]; rfl)
    case b29 => exact fun _ _ _ h => h
    case c29 => rfl
    (try simp only [Act.put, sA, sB, sC])
    refine wpAnyH_take (i := 29) (oi := ?e30) (v := ?v30) ?a30 (by kernel_rfl) (by kernel_rfl) (by kernel_rfl) ?b30 (Or.inl ⟨?c30, ?d30⟩) (by assumption) ?f30
    case a30 => (simp only [gA, gB, gC]; rfl)
    case b30 => exact fun _ _ _ h => h
    case c30 => rfl
    case d30 => (intro w z; (try dsimp only at z); go_simp; try with_reducible rfl)
    (try simp only [Act.put, sA, sB, sC])
    refine wpAnyH_take (i := 30) (oi := ?e31) (v := ?v31) ?a31 (by kernel_rfl) (by kernel_rfl) (by kernel_rfl) ?b31 (Or.inl ⟨?c31, ?d31⟩) (by assumption) ?f31
    case a31 => (simp only [gA, gB, gC]; rfl)
    case b31 => exact fun _ _ _ h => h
    case c31 => rfl
    case d31 => (intro w z; (try dsimp only at z); go_simp; try with_reducible rfl)
    (try simp only [Act.put, sA, sB, sC])
    refine wpAnyH_take (i := 31) (oi := ?e32) (v := undef) ?a32 (by kernel_rfl) (by kernel_rfl) (by kernel_rfl) ?b32 (Or.inr ⟨?c32, rfl⟩) (by assumption) ?f32
    case a32 => (simp only [gA, gB, gC]; rfl)
    case b32 => exact fun _ _ _ h => h
    case c32 => rfl
    (try simp only [Act.put, sA, sB, sC])
    refine wpAnyH_take (i := 32) (oi := ?e33) (v := undef) ?a33 (by kernel_rfl) (by kernel_rfl) (by kernel_rfl) ?b33 (Or.inr ⟨?c33, rfl⟩) (by assumption) ?f33
    case a33 => (simp only [gA, gB, gC]; rfl)
    case b33 => exact fun _ _ _ h => h
    case c33 => rfl
    (try simp only [Act.put, sA, sB, sC])
    refine wpAnyH_take (i := 33) (oi := ?e34) (v := undef) ?a34 (by kernel_rfl) (by kernel_rfl) (by kernel_rfl) ?b34 (Or.inr ⟨?c34, rfl⟩) (by assumption) ?f34
    case a34 => (simp only [gA, gB, gC]; rfl)
    case b34 => exact fun _ _ _ h => h
    case c34 => rfl
    (try simp only [Act.put, sA, sB, sC])
    refine wpAnyH_take (i := 34) (oi := ?e35) (v := undef) ?a35 (by kernel_rfl) (by kernel_rfl) (by kernel_rfl) ?b35 (Or.inr ⟨?c35, rfl⟩) (by assumption) ?f35
    case a35 => (simp only [gA, gB, gC]; rfl)
    case b35 => exact fun _ _ _ h => h
    case c35 => rfl
    (try simp only [Act.put, sA, sB, sC])
    refine wpAnyH_take (i := 35) (oi := ?e36) (v := undef) ?a36 (by kernel_rfl) (by kernel_rfl) (by kernel_rfl) ?b36 (Or.inr ⟨?c36, rfl⟩) (by assumption) ?f36
    case a36 => (simp only [gA, gB, gC]; rfl)
    case b36 => exact fun _ _ _ h => h
    case c36 => rfl
    (try simp only [Act.put, sA, sB, sC])
    refine wpAnyH_take (i := 36) (oi := ?e37) (v := undef) ?a37 (by kernel_rfl) (by kernel_rfl) (by kernel_rfl) ?b37 (Or.inr ⟨?c37, rfl⟩) (by assumption) ?f37
    case a37 => (simp only [gA, gB, gC]; rfl)
    case b37 => exact fun _ _ _ h => h
    case c37 => rfl
    (try simp only [Act.put, sA, sB, sC])
    refine wpAnyH_take (i := 37) (oi := ?e38) (v := undef) ?a38 (by kernel_rfl) (by kernel_rfl) (by kernel_rfl) ?b38 (Or.inr ⟨?c38, rfl⟩) (by assumption) ?f38
    case a38 => (simp only [gA, gB, gC]; rfl)
    case b38 => exact fun _ _ _ h => h
    case c38 => rfl
    (try simp only [Act.put, sA, sB, sC])
    refine wpAnyH_take (i := 38) (oi := ?e39) (v := undef) ?a39 (by kernel_rfl) (by kernel_rfl) (by kernel_rfl) ?b39 (Or.inr ⟨?c39, rfl⟩) (by assumption) ?f39
    case a39 => (simp only [gA, gB, gC]; rfl)
    case b39 => exact fun _ _ _ h => h
    case c39 => rfl
    (try simp only [Act.put, sA, sB, sC])
    refine wpAnyH_take (i := 39) (oi := ?e40) (v := undef) ?a40 (by kernel_rfl) (by kernel_rfl) (by kernel_rfl) ?b40 (Or.inr ⟨?c40, rfl⟩) (by assumption) ?f40
    case a40 => (simp only [gA, gB, gC]; rfl)
    case b40 => exact fun _ _ _ h => h
    case c40 => rfl
    (try simp only [Act.put, sA, sB, sC])
    refine wpAnyH_take (i := 40) (oi := ?e41) (v := ?v41) ?a41 (by kernel_rfl) (by kernel_rfl) (by kernel_rfl) ?b41 (Or.inl ⟨?c41, ?d41⟩) (by assumption) ?f41
    case a41 => (simp only [gA, gB, gC]; rfl)
    case b41 => exact fun _ _ _ h => h
    case c41 => rfl
    case d41 => (intro w z; (try dsimp only at z); go_simp; try with_reducible rfl)
    (try simp only [Act.put, sA, sB, sC])
    refine wpAnyH_take (i := 41) (oi := ?e42) (v := ?v42) ?a42 (by kernel_rfl) (by kernel_rfl) (by kernel_rfl) ?b42 (Or.inl ⟨?c42, ?d42⟩) (by assumption) ?f42
    case a42 => (simp only [gA, gB, gC]; rfl)
    case b42 => exact fun _ _ _ h => h
    case c42 => rfl
    case d42 => (intro w z; (try dsimp only at z); go_simp; try with_reducible rfl)
    (try simp only [Act.put, sA, sB, sC])
    refine wpAnyH_take (i := 42) (oi := ?e43) (v := undef) ?a43 (by kernel_rfl) (by kernel_rfl) (by kernel_rfl) ?b43 (Or.inr ⟨?c43, rfl⟩) (by assumption) ?f43
    case a43 => (simp only [gA, gB, gC]; rfl)
    case b43 => exact fun _ _ _ h => h
    case c43 => rfl
    (try simp only [Act.put, sA, sB, sC])
    refine wpAnyH_take (i := 43) (oi := ?e44) (v := undef) ?a44 (by kernel_rfl) (by kernel_rfl) (by kernel_rfl) ?b44 (Or.inr ⟨?c44, rfl⟩) (by assumption) ?f44
    case a44 => (simp only [gA, gB, gC]; rfl)
    case b44 => exact fun _ _ _ h => h
    case c44 => rfl
    (try simp only [Act.put, sA, sB, sC])
    refine wpAnyH_take (i := 44) (oi := ?e45) (v := undef) ?a45 (by kernel_rfl) (by kernel_rfl) (by kernel_rfl) ?b45 (Or.inr ⟨?c45, rfl⟩) (by assumption) ?f45
    case a45 => (simp only [gA, gB, gC]; rfl)
    case b45 => exact fun _ _ _ h => h
    case c45 => rfl
    (try simp only [Act.put, sA, sB, sC])
    refine wpAnyH_take (i := 45) (oi := ?e46) (v := undef) ?a46 (by kernel_rfl) (by kernel_rfl) (by kernel_rfl) ?b46 (Or.inr ⟨?c46, rfl⟩) (by assumption) ?f46
    case a46 => (simp only [gA, gB, gC]; rfl)
    case b46 => exact fun _ _ _ h => h
    case c46 => rfl
    (try simp only [Act.put, sA, sB, sC])
    refine wpAnyH_take (i := 46) (oi := ?e47) (v := undef) ?a47 (by kernel_rfl) (by kernel_rfl) (by kernel_rfl) ?b47 (Or.inr ⟨?c47, rfl⟩) (by assumption) ?f47
    case a47 => (simp only [gA, gB, gC]; rfl)
    case b47 => exact fun _ _ _ h => h
    case c47 => rfl
    (try simp only [Act.put, sA, sB, sC])
    refine wpAnyH_take (i := 47) (oi := ?e48) (v := undef) ?a48 (by kernel_rfl) (by kernel_rfl) (by kernel_rfl) ?b48 (Or.inr ⟨?c48, rfl⟩) (by assumption) ?f48
    case a48 => (simp only [gA, gB, gC]; rfl)
    case b48 => exact fun _ _ _ h => h
    case c48 => rfl
    (try simp only [Act.put, sA, sB, sC])
    refine wpAnyH_take (i := 48) (oi := ?e49) (v := undef) ?a49 (by kernel_rfl) (by kernel_rfl) (by kernel_rfl) ?b49 (Or.inr ⟨?c49, rfl⟩) (by assumption) ?f49
    case a49 => (simp only [gA, gB, gC]; rfl)
    case b49 => exact fun _ _ _ h => h
    case c49 => rfl
    (try simp only [Act.put, sA, sB, sC])
    refine wpAnyH_take (i := 49) (oi := ?e50) (v := ?v50) ?a50 (by kernel_rfl) (by kernel_rfl) (by kernel_rfl) ?b50 (Or.inl ⟨?c50, ?d50⟩) (by assumption) ?f50
    case a50 => (simp only [gA, gB, gC]; rfl)
    case b50 => exact fun _ _ _ h => h
    case c50 => rfl
    case d50 => (intro w z; (try dsimp only at z); go_simp; try with_reducible rfl)
    (try simp only [Act.put, sA, sB, sC])
    refine wpAnyH_take (i := 50) (oi := ?e51) (v := ?v51) ?a51 (by kernel_rfl) (by kernel_rfl) (by kernel_rfl) ?b51 (Or.inl ⟨?c51, ?d51⟩) (by assumption) ?f51
    case a51 => (simp only [gA, gB, gC]; rfl)
    case b51 => exact fun _ _ _ h => h
    case c51 => rfl
    case d51 => (intro w z; (try dsimp only at z); go_simp; try with_reducible rfl)
    (try simp only [Act.put, sA, sB, sC])
    refine wpAnyH_take (i := 51) (oi := ?e52) (v := undef) ?a52 (by kernel_rfl) (by kernel_rfl) (by kernel_rfl) ?b52 (Or.inr ⟨?c52, rfl⟩) (by assumption) ?f52
    case a52 => (simp only [gA, gB, gC]; rfl)
    case b52 => exact fun _ _ _ h => h
    case c52 => rfl
    (try simp only [Act.put, sA, sB, sC])
    refine wpAnyH_take (i := 52) (oi := ?e53) (v := undef) ?a53 (by kernel_rfl) (by kernel_rfl) (by kernel_rfl) ?b53 (Or.inr ⟨?c53, rfl⟩) (by assumption) ?f53
    case a53 => (simp only [gA, gB, gC]; rfl)
    case b53 => exact fun _ _ _ h => h
    case c53 => rfl
    (try simp only [Act.put, sA, sB, sC])
    refine wpAnyH_take (i := 53) (oi := ?e54) (v := undef) ?a54 (by kernel_rfl) (by kernel_rfl) (by kernel_rfl) ?b54 (Or.inr ⟨?c54, rfl⟩) (by assumption) ?f54
    case a54 => (simp only [gA, gB, gC]; rfl)
    case b54 => exact fun _ _ _ h => h
    case c54 => rfl
    (try simp only [Act.put, sA, sB, sC])
    refine wpAnyH_take (i := 54) (oi := ?e55) (v := ?v55) ?a55 (by kernel_rfl) (by kernel_rfl) (by kernel_rfl) ?b55 (Or.inl ⟨?c55, ?d55⟩) (by assumption) ?f55
    case a55 => (simp only [gA, gB, gC]; rfl)
    case b55 => exact fun _ _ _ h => h
    case c55 => rfl
    case d55 => (intro w z; (try dsimp only at z); go_simp; try with_reducible rfl)
    (try simp only [Act.put, sA, sB, sC])
    refine wpAnyH_take (i := 55) (oi := ?e56) (v := ?v56) ?a56 (by kernel_rfl) (by kernel_rfl) (by kernel_rfl) ?b56 (Or.inl ⟨?c56, ?d56⟩) (by assumption) ?f56
    case a56 => (simp only [gA, gB, gC]; rfl)
    case b56 => exact fun _ _ _ h => h
    case c56 => rfl
    case d56 => (intro w z; (try dsimp only at z); go_simp; try with_reducible rfl)
    (try simp only [Act.put, sA, sB, sC])
    refine wpAnyH_take (i := 56) (oi := ?e57) (v := undef) ?a57 (by kernel_rfl) (by kernel_rfl) (by kernel_rfl) ?b57 (Or.inr ⟨?c57, rfl⟩) (by assumption) ?f57
    case a57 => (simp only [gA, gB, gC]; rfl)
    case b57 => exact fun _ _ _ h => h
    case c57 => rfl
    (try simp only [Act.put, sA, sB, sC])
    refine wpAnyH_take (i := 57) (oi := ?e58) (v := undef) ?a58 (by kernel_rfl) (by kernel_rfl) (by kernel_rfl) ?b58 (Or.inr ⟨?c58, rfl⟩) (by assumption) ?f58
    case a58 => (simp only [gA, gB, gC]; rfl)
    case b58 => exact fun _ _ _ h => h
    case c58 => rfl
    (try simp only [Act.put, sA, sB, sC])
    refine wpAnyH_take (i := 58) (oi := ?e59) (v := undef) ?a59 (by kernel_rfl) (by kernel_rfl) (by kernel_rfl) ?b59 (Or.inr ⟨?c59, rfl⟩) (by assumption) ?f59
    case a59 => (simp only [gA, gB, gC]; rfl)
    case b59 => exact fun _ _ _ h => h
    case c59 => rfl
    (try simp only [Act.put, sA, sB, sC])
    refine wpAnyH_take (i := 59) (oi := ?e60) (v := ?v60) ?a60 (by kernel_rfl) (by kernel_rfl) (by kernel_rfl) ?b60 (Or.inl ⟨?c60, ?d60⟩) (by assumption) ?f60
    case a60 => (simp only [gA, gB, gC]; rfl)
    case b60 => exact fun _ _ _ h => h
    case c60 => rfl
    case d60 => (intro w z; (try dsimp only at z); go_simp; try with_reducible rfl)
    (try simp only [Act.put, sA, sB, sC])
    refine wpAnyH_take (i := 60) (oi := ?e61) (v := ?v61) ?a61 (by kernel_rfl) (by kernel_rfl) (by kernel_rfl) ?b61 (Or.inl ⟨?c61, ?d61⟩) (by assumption) ?f61
    case a61 => (simp only [gA, gB, gC]; rfl)
    case b61 => exact fun _ _ _ h => h
    case c61 => rfl
    case d61 => (intro w z; (try dsimp only at z); go_simp; try with_reducible rfl)
    (try simp only [Act.put, sA, sB, sC])
    refine wpAnyH_done (by kernel_rfl) ?_ _
    go_wp2
    go_ret
    exact ⟨ret_bool (by first | (simp [*]; done) | (simp [*]; omega)), bel2 HB0.out (by first | exact HBr2.out | exact HBr1.out | exact HBr0.out)⟩
  · skip
    refine wpAnyH_take (i := 3) (oi := ?e62) (v := ?v62) ?a62 (by kernel_rfl) (by kernel_rfl) (by kernel_rfl) ?b62 (Or.inl ⟨?c62, ?d62⟩) (by assumption) ?f62
    case a62 => (simp only [gA, gB, gC]; rfl)
    case b62 => exact fun _ _ _ h => h
    case c62 => rfl
    case d62 => (intro w z; (try dsimp only at z); go_simp; try with_reducible rfl)
    (try simp only [Act.put, sA, sB, sC])
    refine wpAnyH_take (i := 4) (oi := ?e63) (v := ?v63) ?a63 (by kernel_rfl) (by kernel_rfl) (by kernel_rfl) ?b63 (Or.inl ⟨?c63, ?d63⟩) (by assumption) ?f63
    case a63 => (simp only [gA, gB, gC]; rfl)
    case b63 => exact fun _ _ _ h => h
    case c63 => rfl
    case d63 => (intro w z; (try dsimp only at z); go_simp; try with_reducible rfl)
    (try simp only [Act.put, sA, sB, sC])
    refine wpAnyH_take (i := 5) (oi := ?e64) (v := ?v64) ?a64 (by kernel_rfl) (by kernel_rfl) (by kernel_rfl) ?b64 (Or.inl ⟨?c64, ?d64⟩) (by assumption) ?f64
    case a64 => (simp only [gA, gB, gC]; rfl)
    case b64 => exact fun _ _ _ h => h
    case c64 => rfl
    case d64 => (intro w z; (try dsimp only at z); go_simp; try with_reducible rfl)
    (try simp only [Act.put, sA, sB, sC])
    refine wpAnyH_take (i := 6) (oi := ?e65) (v := ?v65) ?a65 (by kernel_rfl) (by kernel_rfl) (by kernel_rfl) ?b65 (Or.inl ⟨?c65, ?d65⟩) (by assumption) ?f65
    case a65 => (simp only [gA, gB, gC]; rfl)
    case b65 => exact fun _ _ _ h => h
    case c65 => rfl
    case d65 => (intro w z; (try dsimp only at z); go_simp; try with_reducible rfl)
    (try simp only [Act.put, sA, sB, sC])
    refine wpAnyH_take (i := 7) (oi := ?e66) (v := ?v66) ?a66 (by kernel_rfl) (by kernel_rfl) (by kernel_rfl) ?b66 (Or.inl ⟨?c66, ?d66⟩) (by assumption) ?f66
    case a66 => (simp only [gA, gB, gC]; rfl)
    case b66 => exact fun _ _ _ h => h
    case c66 => rfl
    case d66 => (intro w z; (try dsimp only at z); go_simp; try with_reducible rfl)
    (try simp only [Act.put, sA, sB, sC])
    cases h1 : b1
    · skip
      refine wpAnyH_take (i := 8) (oi := ?e67) (v := ?v67) ?a67 (by kernel_rfl) (by kernel_rfl) (by kernel_rfl) ?b67 (Or.inl ⟨?c67, ?d67⟩) (by assumption) ?f67
      case a67 => (simp only [gA, gB, gC]; rfl)
      case b67 => exact fun _ _ _ h => h
      case c67 => rfl
      case d67 => (intro w z; (try dsimp only at z); go_simp; try with_reducible rfl)
      (try simp only [Act.put, sA, sB, sC])
      refine wpAnyH_take (i := 9) (oi := ?e68) (v := ?v68) ?a68 (by kernel_rfl) (by kernel_rfl) (by kernel_rfl) ?b68 (Or.inl ⟨?c68, ?d68⟩) (by assumption) ?f68
      case a68 => (simp only [gA, gB, gC]; rfl)
      case b68 => exact fun _ _ _ h => h
      case c68 => rfl
      case d68 => (intro w z; (try dsimp only at z); go_simp; try with_reducible rfl)
      (try simp only [Act.put, sA, sB, sC])
      refine wpAnyH_take (i := 10) (oi := ?e69) (v := ?v69) ?a69 (by kernel_rfl) (by kernel_rfl) (by kernel_rfl) ?b69 (Or.inl ⟨?c69, ?d69⟩) (by assumption) ?f69
      case a69 => (simp only [gA, gB, gC]; rfl)
      case b69 => exact fun _ _ _ h => h
      case c69 => rfl
      case d69 => (intro w z; (try dsimp only at z); go_simp; try with_reducible rfl)
      (try simp only [Act.put, sA, sB, sC])
      refine wpAnyH_take (i := 11) (oi := ?e70) (v := undef) ?a70 (by kernel_rfl) (by kernel_rfl) (by kernel_rfl) ?b70 (Or.inr ⟨?c70, rfl⟩) (by assumption) ?f70
      case a70 => (simp only [gA, gB, gC]; rfl)
      case b70 => exact fun _ _ _ h => h
      case c70 => rfl
      (try simp only [Act.put, sA, sB, sC])
      refine wpAnyH_take (i := 12) (oi := ?e71) (v := undef) ?a71 (by kernel_rfl) (by kernel_rfl) (by kernel_rfl) ?b71 (Or.inr ⟨?c71, rfl⟩) (by assumption) ?f71
      case a71 => (simp only [gA, gB, gC]; rfl)
      case b71 => exact fun _ _ _ h => h
      case c71 => rfl
      (try simp only [Act.put, sA, sB, sC])
      refine wpAnyH_take (i := 13) (oi := ?e72) (v := undef) ?a72 (by kernel_rfl) (by kernel_rfl) (by kernel_rfl) ?b72 (Or.inr ⟨?c72, rfl⟩) (by assumption) ?f72
      case a72 => (simp only [gA, gB, gC]; rfl)
      case b72 => exact fun _ _ _ h => h
      case c72 => rfl
      (try simp only [Act.put, sA, sB, sC])
      refine wpAnyH_take (i := 14) (oi := ?e73) (v := ?v73) ?a73 (by kernel_rfl) (by kernel_rfl) (by kernel_rfl) ?b73 (Or.inl ⟨?c73, ?d73⟩) (by assumption) ?f73
      case a73 => (simp only [gA, gB, gC]; rfl)
      case b73 => exact fun _ _ _ h => h
      case c73 => rfl
      case d73 => (intro w z; (try dsimp only at z); go_simp; try with_reducible rfl)
      (try simp only [Act.put, sA, sB, sC])
      refine wpAnyH_take (i := 15) (oi := ?e74) (v := ?v74) ?a74 (by kernel_rfl) (by kernel_rfl) (by kernel_rfl) ?b74 (Or.inl ⟨?c74, ?d74⟩) (by assumption) ?f74
      case a74 => (simp only [gA, gB, gC]; rfl)
      case b74 => exact fun _ _ _ h => h
      case c74 => rfl
      case d74 => (intro w z; (try dsimp only at z); go_simp; try with_reducible rfl)
      (try simp only [Act.put, sA, sB, sC])
      refine wpAnyH_take (i := 16) (oi := ?e75) (v := undef) ?a75 (by kernel_rfl) (by kernel_rfl) (by kernel_rfl) ?b75 (Or.inr ⟨?c75, rfl⟩) (by assumption) ?f75
      case a75 => (simp only [gA, gB, gC]; rfl)
      case b75 => exact fun _ _ _ h => h
      case c75 => rfl
      (try simp only [Act.put, sA, sB, sC])
      refine wpAnyH_take (i := 17) (oi := ?e76) (v := undef) ?a76 (by kernel_rfl) (by kernel_rfl) (by kernel_rfl) ?b76 (Or.inr ⟨?c76, rfl⟩) (by assumption) ?f76
      case a76 => (simp only [gA, gB, gC]; rfl)
      case b76 => exact fun _ _ _ h => h
      case c76 => rfl
      (try simp only [Act.put, sA, sB, sC])
      refine wpAnyH_take (i := 18) (oi := ?e77) (v := undef) ?a77 (by kernel_rfl) (by kernel_rfl) (by kernel_rfl) ?b77 (Or.inr ⟨?c77, rfl⟩) (by assumption) ?f77
      case a77 => (simp only [gA, gB, gC]; rfl)
      case b77 => exact fun _ _ _ h => h
      case c77 => rfl
      (try simp only [Act.put, sA, sB, sC])
      refine wpAnyH_take (i := 19) (oi := ?e78) (v := undef) ?a78 (by kernel_rfl) (by kernel_rfl) (by kernel_rfl) ?b78 (Or.inr ⟨?c78, rfl⟩) (by assumption) ?f78
      case a78 => (simp only [gA, gB, gC]; rfl)
      case b78 => exact fun _ _ _ h => h
      case c78 => rfl
      (try simp only [Act.put, sA, sB, sC])
      refine wpAnyH_take (i := 20) (oi := ?e79) (v := undef) ?a79 (by kernel_rfl) (by kernel_rfl) (by kernel_rfl) ?b79 (Or.inr ⟨?c79, rfl⟩) (by assumption) ?f79
      case a79 => (simp only [gA, gB, gC]; rfl)
      case b79 => exact fun _ _ _ h => h
      case c79 => rfl
      (try simp only [Act.put, sA, sB, sC])
      refine wpAnyH_take (i := 21) (oi := ?e80) (v := undef) ?a80 (by kernel_rfl) (by kernel_rfl) (by kernel_rfl) ?b80 (Or.inr ⟨?c80, rfl⟩) (by assumption) ?f80
      case a80 => (simp only [gA, gB, gC]; rfl)
      case b80 => exact fun _ _ _ h => h
      case c80 => rfl
      (try simp only [Act.put, sA, sB, sC])
      refine wpAnyH_take (i := 22) (oi := ?e81) (v := ?v81) ?a81 (by kernel_rfl) (by kernel_rfl) (by kernel_rfl) ?b81 (Or.inl ⟨?c81, ?d81⟩) (by assumption) ?f81
      case a81 => (simp only [gA, gB, gC]; rfl)
      case b81 => exact fun _ _ _ h => h
      case c81 => rfl
      case d81 => (intro w z; (try dsimp only at z); go_simp; try with_reducible rfl)
      (try simp only [Act.put, sA, sB, sC])
      refine wpAnyH_take (i := 23) (oi := ?e82) (v := ?v82) ?a82 (by kernel_rfl) (by kernel_rfl) (by kernel_rfl) ?b82 (Or.inl ⟨?c82, ?d82⟩) (by assumption) ?f82
      case a82 => (simp only [gA, gB, gC]; rfl)
      case b82 => exact fun _ _ _ h => h
      case c82 => rfl
      case d82 => (intro w z; (try dsimp only at z); go_simp; try with_reducible rfl)
      (try simp only [Act.put, sA, sB, sC])
      refine wpAnyH_take (i := 24) (oi := ?e83) (v := undef) ?a83 (by kernel_rfl) (by kernel_rfl) (by kernel_rfl) ?b83 (Or.inr ⟨?c83, rfl⟩) (by assumption) ?f83
      case a83 => (simp only [gA, gB, gC]; rfl)
      case b83 => exact fun _ _ _ h => h
      case c83 => rfl
      (try simp only [Act.put, sA, sB, sC])
      refine wpAnyH_take (i := 25) (oi := ?e84) (v := undef) ?a84 (by kernel_rfl) (by kernel_rfl) (by kernel_rfl) ?b84 (Or.inr ⟨?c84, rfl⟩) (by assumption) ?f84
      case a84 => (simp only [gA, gB, gC]; rfl)
      case b84 => exact fun _ _ _ h => h
      case c84 => rfl
      (try simp only [Act.put, sA, sB, sC])
      refine wpAnyH_take (i := 26) (oi := ?e85) (v := undef) ?a85 (by kernel_rfl) (by kernel_rfl) (by kernel_rfl) ?b85 (Or.inr ⟨?c85, rfl⟩) (by assumption) ?f85
      case a85 => (simp only [gA, gB, gC]; rfl)
      case b85 => exact fun _ _ _ h => h
      case c85 => rfl
      (try simp only [Act.put, sA, sB, sC])
      refine wpAnyH_take (i := 27) (oi := ?e86) (v := undef) ?a86 (by kernel_rfl) (by kernel_rfl) (by kernel_rfl) ?b86 (Or.inr ⟨?c86, rfl⟩) (by assumption) ?f86
      case a86 => (simp only [gA, gB, gC]; rfl)
      case b86 => exact fun _ _ _ h => h
      case c86 => rfl
      (try simp only [Act.put, sA, sB, sC])
      refine wpAnyH_take (i := 28) (oi := ?e87) (v := undef) ?a87 (by kernel_rfl) (by kernel_rfl) (by kernel_rfl) ?b87 (Or.inr ⟨?c87, rfl⟩) (by assumption) ?f87
      case a87 => (simp only [gA, gB, gC]; rfl)
      case b87 => exact fun _ _ _ h => h
      case c87 => rfl
      (try simp only [Act.put, sA, sB, sC])
      refine wpAnyH_take (i := 29) (oi := ?e88) (v := ?v88) ?a88 (by kernel_rfl) (by kernel_rfl) (by kernel_rfl) ?b88 (Or.inl ⟨?c88, ?d88⟩) (by assumption) ?f88
      case a88 => (simp only [gA, gB, gC]; rfl)
      case b88 => exact fun _ _ _ h => h
      case c88 => rfl
      case d88 => (intro w z; (try dsimp only at z); go_simp; try with_reducible rfl)
      (try simp only [Act.put, sA, sB, sC])
      refine wpAnyH_take (i := 30) (oi := ?e89) (v := ?v89) ?a89 (by kernel_rfl) (by kernel_rfl) (by kernel_rfl) ?b89 (Or.inl ⟨?c89, ?d89⟩) (by assumption) ?f89
      case a89 => (simp only [gA, gB, gC]; rfl)
      case b89 => exact fun _ _ _ h => h
      case c89 => rfl
      case d89 => (intro w z; (try dsimp only at z); go_simp; try with_reducible rfl)
      (try simp only [Act.put, sA, sB, sC])
      refine wpAnyH_take (i := 31) (oi := ?e90) (v := undef) ?a90 (by kernel_rfl) (by kernel_rfl) (by kernel_rfl) ?b90 (Or.inr ⟨?c90, rfl⟩) (by assumption) ?f90
      case a90 => (simp only [gA, gB, gC]; rfl)
      case b90 => exact fun _ _ _ h => h
      case c90 => rfl
      (try simp only [Act.put, sA, sB, sC])
      refine wpAnyH_take (i := 32) (oi := ?e91) (v := undef) ?a91 (by kernel_rfl) (by kernel_rfl) (by kernel_rfl) ?b91 (Or.inr ⟨?c91, rfl⟩) (by assumption) ?f91
      case a91 => (simp only [gA, gB, gC]; rfl)
      case b91 => exact fun _ _ _ h => h
      case c91 => rfl
      (try simp only [Act.put, sA, sB, sC])
      refine wpAnyH_take (i := 33) (oi := ?e92) (v := undef) ?a92 (by kernel_rfl) (by kernel_rfl) (by kernel_rfl) ?b92 (Or.inr ⟨?c92, rfl⟩) (by assumption) ?f92
      case a92 => (simp only [gA, gB, gC]; rfl)
      case b92 => exact fun _ _ _ h => h
      case c92 => rfl
      (try simp only [Act.put, sA, sB, sC])
      refine wpAnyH_take (i := 34) (oi := ?e93) (v := undef) ?a93 (by kernel_rfl) (by kernel_rfl) (by kernel_rfl) ?b93 (Or.inr ⟨?c93, rfl⟩) (by assumption) ?f93
      case a93 => (simp only [gA, gB, gC]; rfl)
      case b93 => exact fun _ _ _ h => h
      case c93 => rfl
      (try simp only [Act.put, sA, sB, sC])
      refine wpAnyH_take (i := 35) (oi := ?e94) (v := undef) ?a94 (by kernel_rfl) (by kernel_rfl) (by kernel_rfl) ?b94 (Or.inr ⟨?c94, rfl⟩) (by assumption) ?f94
      case a94 => (simp only [gA, gB, gC]; rfl)
      case b94 => exact fun _ _ _ h => h
      case c94 => rfl
      (try simp only [Act.put, sA, sB, sC])
      refine wpAnyH_take (i := 36) (oi := ?e95) (v := undef) ?a95 (by kernel_rfl) (by kernel_rfl) (by kernel_rfl) ?b95 (Or.inr ⟨?c95, rfl⟩) (by assumption) ?f95
      case a95 => (simp only [gA, gB, gC]; rfl)
      case b95 => exact fun _ _ _ h => h
      case c95 => rfl
      (try simp only [Act.put, sA, sB, sC])
      refine wpAnyH_take (i := 37) (oi := ?e96) (v := undef) ?a96 (by kernel_rfl) (by kernel_rfl) (by kernel_rfl) ?b96 (Or.inr ⟨?c96, rfl⟩) (by assumption) ?f96
      case a96 => (simp only [gA, gB, gC]; rfl)
      case b96 => exact fun _ _ _ h => h
      case c96 => rfl
      (try simp only [Act.put, sA, sB, sC])
      refine wpAnyH_take (i := 38) (oi := ?e97) (v := undef) ?a97 (by kernel_rfl) (by kernel_rfl) (by kernel_rfl) ?b97 (Or.inr ⟨?c97, rfl⟩) (by assumption) ?f97
      case a97 => (simp only [gA, gB, gC]; rfl)
      case b97 => exact fun _ _ _ h => h
      case c97 => rfl
      (try simp only [Act.put, sA, sB, sC])
      refine wpAnyH_take (i := 39) (oi := ?e98) (v := undef) ?a98 (by kernel_rfl) (by kernel_rfl) (by kernel_rfl) ?b98 (Or.inr ⟨?c98, rfl⟩) (by assumption) ?f98
      case a98 => (simp only [gA, gB, gC]; rfl)
      case b98 => exact fun _ _ _ h => h
      case c98 => rfl
      (try simp only [Act.put, sA, sB, sC])
      refine wpAnyH_take (i := 40) (oi := ?e99) (v := ?v99) ?a99 (by kernel_rfl) (by kernel_rfl) (by kernel_rfl) ?b99 (Or.inl ⟨?c99, ?d99⟩) (by assumption) ?f99
      case a99 => (simp only [gA, gB, gC]; rfl)
      case b99 => exact fun _ _ _ h => h
      case c99 => rfl
      case d99 => (intro w z; (try dsimp only at z); go_simp; try with_reducible rfl)
      (try simp only [Act.put, sA, sB, sC])
      refine wpAnyH_take (i := 41) (oi := ?e100) (v := ?v100) ?a100 (by kernel_rfl) (by kernel_rfl) (by kernel_rfl) ?b100 (Or.inl ⟨?c100, ?d100⟩) (by assumption) ?f100
      case a100 => (simp only [gA, gB, gC]; rfl)
      case b100 => exact fun _ _ _ h => h
      case c100 => rfl
      case d100 => (intro w z; (try dsimp only at z); go_simp; try with_reducible rfl)
      (try simp only [Act.put, sA, sB, sC])
      refine wpAnyH_take (i := 42) (oi := ?e101) (v := undef) ?a101 (by kernel_rfl) (by kernel_rfl) (by kernel_rfl) ?b101 (Or.inr ⟨?c101, rfl⟩) (by assumption) ?f101
      case a101 => (simp only [gA, gB, gC]; rfl)
      case b101 => exact fun _ _ _ h => h
      case c101 => rfl
      (try simp only [Act.put, sA, sB, sC])
      refine wpAnyH_take (i := 43) (oi := ?e102) (v := undef) ?a102 (by kernel_rfl) (by kernel_rfl) (by kernel_rfl) ?b102 (Or.inr ⟨?c102, rfl⟩) (by assumption) ?f102
      case a102 => (simp only [gA, gB, gC]; rfl)
      case b102 => exact fun _ _ _ h => h
      case c102 => rfl
      (try simp only [Act.put, sA, sB, sC])
      refine wpAnyH_take (i := 44) (oi := ?e103) (v := undef) ?a103 (by kernel_rfl) (by kernel_rfl) (by kernel_rfl) ?b103 (Or.inr ⟨?c103, rfl⟩) (by assumption) ?f103
      case a103 => (simp only [gA, gB, gC]; rfl)
      case b103 => exact fun _ _ _ h => h
      case c103 => rfl
      (try simp only [Act.put, sA, sB, sC])
      refine wpAnyH_take (i := 45) (oi := ?e104) (v := undef) ?a104 (by kernel_rfl) (by kernel_rfl) (by kernel_rfl) ?b104 (Or.inr ⟨?c104, rfl⟩) (by assumption) ?f104
      case a104 => (simp only [gA, gB, gC]; rfl)
      case b104 => exact fun _ _ _ h => h
      case c104 => rfl
      (try simp only [Act.put, sA, sB, sC])
      refine wpAnyH_take (i := 46) (oi := ?e105) (v := undef) ?a105 (by kernel_rfl) (by kernel_rfl) (by kernel_rfl) ?b105 (Or.inr ⟨?c105, rfl⟩) (by assumption) ?f105
      case a105 => (simp only [gA, gB, gC]; rfl)
      case b105 => exact fun _ _ _ h => h
      case c105 => rfl
      (try simp only [Act.put, sA, sB, sC])
      refine wpAnyH_take (i := 47) (oi := ?e106) (v := undef) ?a106 (by kernel_rfl) (by kernel_rfl) (by kernel_rfl) ?b106 (Or.inr ⟨?c106, rfl⟩) (by assumption) ?f106
      case a106 => (simp only [gA, gB, gC]; rfl)
      case b106 => exact fun _ _ _ h => h
      case c106 => rfl
      (try simp only [Act.put, sA, sB, sC])
      refine wpAnyH_take (i := 48) (oi := ?e107) (v := undef) ?a107 (by kernel_rfl) (by kernel_rfl) (by kernel_rfl) ?b107 (Or.inr ⟨?c107, rfl⟩) (by assumption) ?f107
      case a107 => (simp only [gA, gB, gC]; rfl)
      case b107 => exact fun _ _ _ h => h
      case c107 => rfl
      (try simp only [Act.put, sA, sB, sC])
      refine wpAnyH_take (i := 49) (oi := ?e108) (v := ?v108) ?a108 (by kernel_rfl) (by kernel_rfl) (by kernel_rfl) ?b108 (Or.inl ⟨?c108, ?d108⟩) (by assumption) ?f108
      case a108 => (simp only [gA, gB, gC]; rfl)
      case b108 => exact fun _ _ _ h => h
      case c108 => rfl
      case d108 => (intro w z; (try dsimp only at z); go_simp; try with_reducible rfl)
      (try simp only [Act.put, sA, sB, sC])
      refine wpAnyH_take (i := 50) (oi := ?e109) (v := ?v109) ?a109 (by kernel_rfl) (by kernel_rfl) (by kernel_rfl) ?b109 (Or.inl ⟨?c109, ?d109⟩) (by assumption) ?f109
      case a109 => (simp only [gA, gB, gC]; rfl)
      case b109 => exact fun _ _ _ h => h
      case c109 => rfl
      case d109 => (intro w z; (try dsimp only at z); go_simp; try with_reducible rfl)
      (try simp only [Act.put, sA, sB, sC])
      refine wpAnyH_take (i := 51) (oi := ?e110) (v := undef) ?a110 (by kernel_rfl) (by kernel_rfl) (by kernel_rfl) ?b110 (Or.inr ⟨?c110, rfl⟩) (by assumption) ?f110
      case a110 => (simp only [gA, gB, gC]; rfl)
      case b110 => exact fun _ _ _ h => h
      case c110 => rfl
      (try simp only [Act.put, sA, sB, sC])
      refine wpAnyH_take (i := 52) (oi := ?e111) (v := undef) ?a111 (by kernel_rfl) (by kernel_rfl) (by kernel_rfl) ?b111 (Or.inr ⟨?c111, rfl⟩) (by assumption) ?f111
      case a111 => (simp only [gA, gB, gC]; rfl)
      case b111 => exact fun _ _ _ h => h
      case c111 => rfl
      (try simp only [Act.put, sA, sB, sC])
      refine wpAnyH_take (i := 53) (oi := ?e112) (v := undef) ?a112 (by kernel_rfl) (by kernel_rfl) (by kernel_rfl) ?b112 (Or.inr ⟨?c112, rfl⟩) (by assumption) ?f112
      case a112 => (simp only [gA, gB, gC]; rfl)
      case b112 => exact fun _ _ _ h => h
      case c112 => rfl
      (try simp only [Act.put, sA, sB, sC])
      refine wpAnyH_take (i := 54) (oi := ?e113) (v := ?v113) ?a113 (by kernel_rfl) (by kernel_rfl) (by kernel_rfl) ?b113 (Or.inl ⟨?c113, ?d113⟩) (by assumption) ?f113
      case a113 => (simp only [gA, gB, gC]; rfl)
      case b113 => exact fun _ _ _ h => h
      case c113 => rfl
      case d113 => (intro w z; (try dsimp only at z); go_simp; try with_reducible rfl)
      (try simp only [Act.put, sA, sB, sC])
      refine wpAnyH_take (i := 55) (oi := ?e114) (v := ?v114) ?a114 (by kernel_rfl) (by kernel_rfl) (by kernel_rfl) ?b114 (Or.inl ⟨?c114, ?d114⟩) (by assumption) ?f114
      case a114 => (simp only [gA, gB, gC]; rfl)
      case b114 => exact fun _ _ _ h => h
      case c114 => rfl
      case d114 => (intro w z; (try dsimp only at z); go_simp; try with_reducible rfl)
      (try simp only [Act.put, sA, sB, sC])
      refine wpAnyH_take (i := 56) (oi := ?e115) (v := undef) ?a115 (by kernel_rfl) (by kernel_rfl) (by kernel_rfl) ?b115 (Or.inr ⟨?c115, rfl⟩) (by assumption) ?f115
      case a115 => (simp only [gA, gB, gC]; rfl)
      case b115 => exact fun _ _ _ h => h
      case c115 => rfl
      (try simp only [Act.put, sA, sB, sC])
      refine wpAnyH_take (i := 57) (oi := ?e116) (v := undef) ?a116 (by kernel_rfl) (by kernel_rfl) (by kernel_rfl) ?b116 (Or.inr ⟨?c116, rfl⟩) (by assumption) ?f116
      case a116 => (simp only [gA, gB, gC]; rfl)
      case b116 => exact fun _ _ _ h => h
      case c116 => rfl
      (try simp only [Act.put, sA, sB, sC])
      refine wpAnyH_take (i := 58) (oi := ?e117) (v := undef) ?a117 (by kernel_rfl) (by kernel_rfl) (by kernel_rfl) ?b117 (Or.inr ⟨?c117, rfl⟩) (by assumption) ?f117
      case a117 => (simp only [gA, gB, gC]; rfl)
      case b117 => exact fun _ _ _ h => h
      case c117 => rfl
      (try simp only [Act.put, sA, sB, sC])
      refine wpAnyH_take (i := 59) (oi := ?e118) (v := ?v118) ?a118 (by kernel_rfl) (by kernel_rfl) (by kernel_rfl) ?b118 (Or.inl ⟨?c118, ?d118⟩) (by assumption) ?f118
      case a118 => (simp only [gA, gB, gC]; rfl)
      case b118 => exact fun _ _ _ h => h
      case c118 => rfl
      case d118 => (intro w z; (try dsimp only at z); go_simp; try with_reducible rfl)
      (try simp only [Act.put, sA, sB, sC])
      refine wpAnyH_take (i := 60) (oi := ?e119) (v := ?v119) ?a119 (by kernel_rfl) (by kernel_rfl) (by kernel_rfl) ?b119 (Or.inl ⟨?c119, ?d119⟩) (by assumption) ?f119
      case a119 => (simp only [gA, gB, gC]; rfl)
      case b119 => exact fun _ _ _ h => h
      case c119 => rfl
      case d119 => (intro w z; (try dsimp only at z); go_simp; try with_reducible rfl)
      (try simp only [Act.put, sA, sB, sC])
      refine wpAnyH_done (by kernel_rfl) ?_ _
      go_wp2
      go_ret
      exact ⟨ret_bool (by first | (simp [*]; done) | (simp [*]; omega)), bel2 HB0.out (by first | exact HBr2.out | exact HBr1.out | exact HBr0.out)⟩
    · skip
      refine wpAnyH_take (i := 8) (oi := ?e120) (v := ?v120) ?a120 (by kernel_rfl) (by kernel_rfl) (by kernel_rfl) ?b120 (Or.inl ⟨?c120, ?d120⟩) (by assumption) ?f120
      case a120 => (simp only [gA, gB, gC]; rfl)
      case b120 => exact fun _ _ _ h => h
      case c120 => rfl
      case d120 => (intro w z; (try dsimp only at z); go_simp; try with_reducible rfl)
      (try simp only [Act.put, sA, sB, sC])
      refine wpAnyH_take (i := 9) (oi := ?e121) (v := ?v121) ?a121 (by kernel_rfl) (by kernel_rfl) (by kernel_rfl) ?b121 (Or.inl ⟨?c121, ?d121⟩) (by assumption) ?f121
      case a121 => (simp only [gA, gB, gC]; rfl)
      case b121 => exact fun _ _ _ h => h
      case c121 => rfl
      case d121 => (intro w z; (try dsimp only at z); go_simp; try with_reducible rfl)
      (try simp only [Act.put, sA, sB, sC])
      refine wpAnyH_take (i := 10) (oi := ?e122) (v := ?v122) ?a122 (by kernel_rfl) (by kernel_rfl) (by kernel_rfl) ?b122 (Or.inl ⟨?c122, ?d122⟩) (by assumption) ?f122
      case a122 => (simp only [gA, gB, gC]; rfl)
      case b122 => exact fun _ _ _ h => h
      case c122 => rfl
      case d122 => (intro w z; (try dsimp only at z); go_simp; try with_reducible rfl)
      (try simp only [Act.put, sA, sB, sC])
      refine wpAnyH_take (i := 11) (oi := ?e123) (v := ?v123) ?a123 (by kernel_rfl) (by kernel_rfl) (by kernel_rfl) ?b123 (Or.inl ⟨?c123, ?d123⟩) (by assumption) ?f123
      case a123 => (simp only [gA, gB, gC]; rfl)
      case b123 => exact fun _ _ _ h => h
      case c123 => rfl
      case d123 => (intro w z; (try dsimp only at z); go_simp; try with_reducible rfl)
      (try simp only [Act.put, sA, sB, sC])
      refine wpAnyH_take (i := 12) (oi := ?e124) (v := ?v124) ?a124 (by kernel_rfl) (by kernel_rfl) (by kernel_rfl) ?b124 (Or.inl ⟨?c124, ?d124⟩) (by assumption) ?f124
      case a124 => (simp only [gA, gB, gC]; rfl)
      case b124 => exact fun _ _ _ h => h
      case c124 => rfl
      case d124 => (intro w z; (try dsimp only at z); go_simp; try with_reducible rfl)
      (try simp only [Act.put, sA, sB, sC])
      by_cases h2 : (0 : Int) ≤ st
      · skip
        obtain ⟨j, rfl⟩ := Int.eq_ofNat_of_zero_le h2
        refine wpAnyH_take (i := 13) (oi := ?e125) (v := ?v125) ?a125 (by kernel_rfl) (by kernel_rfl) (by kernel_rfl) ?b125 (Or.inl ⟨?c125, ?d125⟩) (by assumption) ?f125
        case a125 => (simp only [gA, gB, gC]; rfl)
        case b125 => exact fun _ _ _ h => h
        case c125 => rfl
        case d125 => (intro w z; (try dsimp only at z); go_simp; try with_reducible rfl)
        (try simp only [Act.put, sA, sB, sC])
        refine wpAnyH_take (i := 14) (oi := ?e126) (v := ?v126) ?a126 (by kernel_rfl) (by kernel_rfl) (by kernel_rfl) ?b126 (Or.inl ⟨?c126, ?d126⟩) (by assumption) ?f126
        case a126 => (simp only [gA, gB, gC]; rfl)
        case b126 => exact fun _ _ _ h => h
        case c126 => rfl
        case d126 => (intro w z; (try dsimp only at z); go_simp; try with_reducible rfl)
        (try simp only [Act.put, sA, sB, sC])
        refine wpAnyH_take (i := 15) (oi := ?e127) (v := ?v127) ?a127 (by kernel_rfl) (by kernel_rfl) (by kernel_rfl) ?b127 (Or.inl ⟨?c127, ?d127⟩) (by assumption) ?f127
        case a127 => (simp only [gA, gB, gC]; rfl)
        case b127 => exact fun _ _ _ h => h
        case c127 => rfl
        case d127 => (intro w z; (try dsimp only at z); go_simp; try with_reducible rfl)
        (try simp only [Act.put, sA, sB, sC])
        refine wpAnyH_take (i := 16) (oi := ?e128) (v := ?v128) ?a128 (by kernel_rfl) (by kernel_rfl) (by kernel_rfl) ?b128 (Or.inl ⟨?c128, ?d128⟩) (by assumption) ?f128
        case a128 => (simp only [gA, gB, gC]; rfl)
        case b128 => exact fun _ _ _ h => h
        case c128 => rfl
        case d128 => (intro w z; (try dsimp only at z); go_simp; try with_reducible rfl)
        (try simp only [Act.put, sA, sB, sC])
        refine wpAnyH_take (i := 17) (oi := ?e129) (v := ?v129) ?a129 (by kernel_rfl) (by kernel_rfl) (by kernel_rfl) ?b129 (Or.inl ⟨?c129, ?d129⟩) (by assumption) ?f129
        case a129 => (simp only [gA, gB, gC]; rfl)
        case b129 => exact fun _ _ _ h => h
        case c129 => rfl
        case d129 => (intro w z; (try dsimp only at z); go_simp; try with_reducible rfl)
        (try simp only [Act.put, sA, sB, sC])
        refine wpAnyH_take (i := 18) (oi := ?e130) (v := ?v130) ?a130 (by kernel_rfl) (by kernel_rfl) (by kernel_rfl) ?b130 (Or.inl ⟨?c130, ?d130⟩) (by assumption) ?f130
        case a130 => (simp only [gA, gB, gC]; rfl)
        case b130 => exact fun _ _ _ h => h
        case c130 => rfl
        case d130 => (intro w z; (try dsimp only at z); go_simp; try with_reducible rfl)
        (try simp only [Act.put, sA, sB, sC])
        refine wpAnyH_take (i := 19) (oi := ?e131) (v := ?v131) ?a131 (by kernel_rfl) (by kernel_rfl) (by kernel_rfl) ?b131 (Or.inl ⟨?c131, ?d131⟩) (by assumption) ?f131
        case a131 => (simp only [gA, gB, gC]; rfl)
        case b131 => exact fun _ _ _ h => h
        case c131 => rfl
        case d131 => (intro w z; (try dsimp only at z); go_simp; try with_reducible rfl)
        (try simp only [Act.put, sA, sB, sC])
        refine wpAnyH_take (i := 20) (oi := ?e132) (v := ?v132) ?a132 (by kernel_rfl) (by kernel_rfl) (by kernel_rfl) ?b132 (Or.inl ⟨?c132, ?d132⟩) (by assumption) ?f132
        case a132 => (simp only [gA, gB, gC]; rfl)
        case b132 => exact fun _ _ _ h => h
        case c132 => rfl
        case d132 => (intro w z; (try dsimp only at z); go_simp; try with_reducible rfl)
        (try simp only [Act.put, sA, sB, sC])
        by_cases h3 : (j : Int) < (ct.ss.length : Int)
        · skip
          have hjl : j < ct.ss.length := by omega
          refine wpAnyH_take (i := 21) (oi := ?e133) (v := ?v133) ?a133 (by kernel_rfl) (by kernel_rfl) (by kernel_rfl) ?b133 (Or.inl ⟨?c133, ?d133⟩) (by assumption) ?f133
          case a133 => (simp only [gA, gB, gC]; rfl)
          case b133 => exact fun _ _ _ h => h
          case c133 => rfl
          case d133 => (intro w z; (try dsimp only at z); go_simp; try with_reducible rfl)
          (try simp only [Act.put, sA, sB, sC])
          refine wpAnyH_take (i := 22) (oi := ?e134) (v := ?v134) ?a134 (by kernel_rfl) (by kernel_rfl) (by kernel_rfl) ?b134 (Or.inl ⟨?c134, ?d134⟩) (by assumption) ?f134
          case a134 => (simp only [gA, gB, gC]; rfl)
          case b134 => exact fun _ _ _ h => h
          case c134 => rfl
          case d134 => (intro w z; (try dsimp only at z); go_simp; try with_reducible rfl)
          (try simp only [Act.put, sA, sB, sC])
          refine wpAnyH_take (i := 23) (oi := ?e135) (v := ?v135) ?a135 (by kernel_rfl) (by kernel_rfl) (by kernel_rfl) ?b135 (Or.inl ⟨?c135, ?d135⟩) (by assumption) ?f135
          case a135 => (simp only [gA, gB, gC]; rfl)
          case b135 => exact fun _ _ _ h => h
          case c135 => rfl
          case d135 => (intro w z; (try dsimp only at z); go_simp; try with_reducible rfl)
          (try simp only [Act.put, sA, sB, sC])
          refine wpAnyH_take (i := 24) (oi := ?e136) (v := ?v136) ?a136 (by kernel_rfl) (by kernel_rfl) (by kernel_rfl) ?b136 (Or.inl ⟨?c136, ?d136⟩) (by assumption) ?f136
          case a136 => (simp only [gA, gB, gC]; rfl)
          case b136 => exact fun _ _ _ h => h
          case c136 => rfl
          case d136 => (intro w z; (try dsimp only at z); go_simp; try with_reducible rfl)
          (try simp only [Act.put, sA, sB, sC])
          refine wpAnyH_take (i := 25) (oi := ?e137) (v := ?v137) ?a137 (by kernel_rfl) (by kernel_rfl) (by kernel_rfl) ?b137 (Or.inl ⟨?c137, ?d137⟩) (by assumption) ?f137
          case a137 => (simp only [gA, gB, gC]; rfl)
          case b137 => exact fun _ _ _ h => h
          case c137 => rfl
          case d137 => (intro w z; (try dsimp only at z); go_simp; try with_reducible rfl)
          (try simp only [Act.put, sA, sB, sC])
          refine wpAnyH_take (i := 26) (oi := ?e138) (v := ?v138) ?a138 (by kernel_rfl) (by kernel_rfl) (by kernel_rfl) ?b138 (Or.inl ⟨?c138, ?d138⟩) (by assumption) ?f138
          case a138 => (simp only [gA, gB, gC]; rfl)
          case b138 => exact fun _ _ _ h => h
          case c138 => rfl
          case d138 => (intro w z; (try dsimp only at z); go_simp; try with_reducible rfl)
          (try simp only [Act.put, sA, sB, sC])
          refine wpAnyH_take (i := 27) (oi := ?e139) (v := ?v139) ?a139 (by kernel_rfl) (by kernel_rfl) (by kernel_rfl) ?b139 (Or.inl ⟨?c139, ?d139⟩) (by assumption) ?f139
          case a139 => (simp only [gA, gB, gC]; rfl)
          case b139 => exact fun _ _ _ h => h
          case c139 => rfl
          case d139 => (intro w z; (try dsimp only at z); go_simp; try with_reducible rfl)
          (try simp only [Act.put, sA, sB, sC])
          refine wpAnyH_ready (rs := [28]) (by kernel_rfl) (by simp) ?_
          refine AllReadyH.cons (o := ?o140) ?g140 (fun K hK => ?j140) AllReadyH.nil
          case g140 => (simp only [gA, gB, gC]; rfl)
          go_simp
          refine (HFT.out _ (bel2 HB0.out HBr0.out)).mono ?_
          rintro e wr1 ⟨rfl, hbr1⟩
          have HBr1 := Lib.hid (bel2 HBr0.out hbr1)
          clear hbr1
          refine hK.out _ _ ?_ (fun hHeld => ?_)
          · (try dsimp only); (first | assumption | exact HK.out _ HBr2.out | exact HK.out _ HBr1.out | exact HK.out _ HBr0.out)
          clear hK K
          (try simp only [Act.put, sA, sB, sC])
          cases b4
          · skip
            refine wpAnyH_take (i := 29) (oi := ?e141) (v := ?v141) ?a141 (by kernel_rfl) (by kernel_rfl) (by kernel_rfl) ?b141 (Or.inl ⟨?c141, ?d141⟩) (by assumption) ?f141
            case a141 => (simp only [gA, gB, gC]; rfl)
            case b141 => exact fun _ _ _ h => h
            case c141 => rfl
            case d141 => (intro w z; (try dsimp only at z); go_simp; try with_reducible rfl)
            (try simp only [Act.put, sA, sB, sC])
            refine wpAnyH_take (i := 30) (oi := ?e142) (v := ?v142) ?a142 (by kernel_rfl) (by kernel_rfl) (by kernel_rfl) ?b142 (Or.inl ⟨?c142, ?d142⟩) (by assumption) ?f142
            case a142 => (simp only [gA, gB, gC]; rfl)
            case b142 => exact fun _ _ _ h => h
            case c142 => rfl
            case d142 => (intro w z; (try dsimp only at z); go_simp; try with_reducible rfl)
            (try simp only [Act.put, sA, sB, sC])
            refine wpAnyH_take (i := 31) (oi := ?e143) (v := undef) ?a143 (by kernel_rfl) (by kernel_rfl) (by kernel_rfl) ?b143 (Or.inr ⟨?c143, rfl⟩) (by assumption) ?f143
            case a143 => (simp only [gA, gB, gC]; rfl)
            case b143 => exact fun _ _ _ h => h
            case c143 => rfl
            (try simp only [Act.put, sA, sB, sC])
            refine wpAnyH_take (i := 32) (oi := ?e144) (v := undef) ?a144 (by kernel_rfl) (by kernel_rfl) (by kernel_rfl) ?b144 (Or.inr ⟨?c144, rfl⟩) (by assumption) ?f144
            case a144 => (simp only [gA, gB, gC]; rfl)
            case b144 => exact fun _ _ _ h => h
            case c144 => rfl
            (try simp only [Act.put, sA, sB, sC])
            refine wpAnyH_take (i := 33) (oi := ?e145) (v := undef) ?a145 (by kernel_rfl) (by kernel_rfl) (by kernel_rfl) ?b145 (Or.inr ⟨?c145, rfl⟩) (by assumption) ?f145
            case a145 => (simp only [gA, gB, gC]; rfl)
            case b145 => exact fun _ _ _ h => h
            case c145 => rfl
            (try simp only [Act.put, sA, sB, sC])
            refine wpAnyH_take (i := 34) (oi := ?e146) (v := undef) ?a146 (by kernel_rfl) (by kernel_rfl) (by kernel_rfl) ?b146 (Or.inr ⟨?c146, rfl⟩) (by assumption) ?f146
            case a146 => (simp only [gA, gB, gC]; rfl)
            case b146 => exact fun _ _ _ h => h
            case c146 => rfl
            (try simp only [Act.put, sA, sB, sC])
            refine wpAnyH_take (i := 35) (oi := ?e147) (v := undef) ?a147 (by kernel_rfl) (by kernel_rfl) (by kernel_rfl) ?b147 (Or.inr ⟨?c147, rfl⟩) (by assumption) ?f147
            case a147 => (simp only [gA, gB, gC]; rfl)
            case b147 => exact fun _ _ _ h => h
            case c147 => rfl
            (try simp only [Act.put, sA, sB, sC])
            refine wpAnyH_take (i := 36) (oi := ?e148) (v := undef) ?a148 (by kernel_rfl) (by kernel_rfl) (by kernel_rfl) ?b148 (Or.inr ⟨?c148, rfl⟩) (by assumption) ?f148
            case a148 => (simp only [gA, gB, gC]; rfl)
            case b148 => exact fun _ _ _ h => h
            case c148 => rfl
            (try simp only [Act.put, sA, sB, sC])
            refine wpAnyH_take (i := 37) (oi := ?e149) (v := undef) ?a149 (by kernel_rfl) (by kernel_rfl) (by kernel_rfl) ?b149 (Or.inr ⟨?c149, rfl⟩) (by assumption) ?f149
            case a149 => (simp only [gA, gB, gC]; rfl)
            case b149 => exact fun _ _ _ h => h
            case c149 => rfl
            (try simp only [Act.put, sA, sB, sC])
            refine wpAnyH_take (i := 38) (oi := ?e150) (v := undef) ?a150 (by kernel_rfl) (by kernel_rfl) (by kernel_rfl) ?b150 (Or.inr ⟨?c150, rfl⟩) (by assumption) ?f150
            case a150 => (simp only [gA, gB, gC]; rfl)
            case b150 => exact fun _ _ _ h => h
            case c150 => rfl
            (try simp only [Act.put, sA, sB, sC])
            refine wpAnyH_take (i := 39) (oi := ?e151) (v := undef) ?a151 (by kernel_rfl) (by kernel_rfl) (by kernel_rfl) ?b151 (Or.inr ⟨?c151, rfl⟩) (by assumption) ?f151
            case a151 => (simp only [gA, gB, gC]; rfl)
            case b151 => exact fun _ _ _ h => h
            case c151 => rfl
            (try simp only [Act.put, sA, sB, sC])
            refine wpAnyH_take (i := 40) (oi := ?e152) (v := ?v152) ?a152 (by kernel_rfl) (by kernel_rfl) (by kernel_rfl) ?b152 (Or.inl ⟨?c152, ?d152⟩) (by assumption) ?f152
            case a152 => (simp only [gA, gB, gC]; rfl)
            case b152 => exact fun _ _ _ h => h
            case c152 => rfl
            case d152 => (intro w z; (try dsimp only at z); go_simp; try with_reducible rfl)
            (try simp only [Act.put, sA, sB, sC])
            refine wpAnyH_take (i := 41) (oi := ?e153) (v := ?v153) ?a153 (by kernel_rfl) (by kernel_rfl) (by kernel_rfl) ?b153 (Or.inl ⟨?c153, ?d153⟩) (by assumption) ?f153
            case a153 => (simp only [gA, gB, gC]; rfl)
            case b153 => exact fun _ _ _ h => h
            case c153 => rfl
            case d153 => (intro w z; (try dsimp only at z); go_simp; try with_reducible rfl)
            (try simp only [Act.put, sA, sB, sC])
            refine wpAnyH_take (i := 42) (oi := ?e154) (v := undef) ?a154 (by kernel_rfl) (by kernel_rfl) (by kernel_rfl) ?b154 (Or.inr ⟨?c154, rfl⟩) (by assumption) ?f154
            case a154 => (simp only [gA, gB, gC]; rfl)
            case b154 => exact fun _ _ _ h => h
            case c154 => rfl
            (try simp only [Act.put, sA, sB, sC])
            refine wpAnyH_take (i := 43) (oi := ?e155) (v := undef) ?a155 (by kernel_rfl) (by kernel_rfl) (by kernel_rfl) ?b155 (Or.inr ⟨?c155, rfl⟩) (by assumption) ?f155
            case a155 => (simp only [gA, gB, gC]; rfl)
            case b155 => exact fun _ _ _ h => h
            case c155 => rfl
            (try simp only [Act.put, sA, sB, sC])
            refine wpAnyH_take (i := 44) (oi := ?e156) (v := undef) ?a156 (by kernel_rfl) (by kernel_rfl) (by kernel_rfl) ?b156 (Or.inr ⟨?c156, rfl⟩) (by assumption) ?f156
            case a156 => (simp only [gA, gB, gC]; rfl)
            case b156 => exact fun _ _ _ h => h
            case c156 => rfl
            (try simp only [Act.put, sA, sB, sC])
            refine wpAnyH_take (i := 45) (oi := ?e157) (v := undef) ?a157 (by kernel_rfl) (by kernel_rfl) (by kernel_rfl) ?b157 (Or.inr ⟨?c157, rfl⟩) (by assumption) ?f157
            case a157 => (simp only [gA, gB, gC]; rfl)
            case b157 => exact fun _ _ _ h => h
            case c157 => rfl
            (try simp only [Act.put, sA, sB, sC])
            refine wpAnyH_take (i := 46) (oi := ?e158) (v := undef) ?a158 (by kernel_rfl) (by kernel_rfl) (by kernel_rfl) ?b158 (Or.inr ⟨?c158, rfl⟩) (by assumption) ?f158
            case a158 => (simp only [gA, gB, gC]; rfl)
            case b158 => exact fun _ _ _ h => h
            case c158 => rfl
            (try simp only [Act.put, sA, sB, sC])
            refine wpAnyH_take (i := 47) (oi := ?e159) (v := undef) ?a159 (by kernel_rfl) (by kernel_rfl) (by kernel_rfl) ?b159 (Or.inr ⟨?c159, rfl⟩) (by assumption) ?f159
            case a159 => (simp only [gA, gB, gC]; rfl)
            case b159 => exact fun _ _ _ h => h
            case c159 => rfl
            (try simp only [Act.put, sA, sB, sC])
            refine wpAnyH_take (i := 48) (oi := ?e160) (v := undef) ?a160 (by kernel_rfl) (by kernel_rfl) (by kernel_rfl) ?b160 (Or.inr ⟨?c160, rfl⟩) (by assumption) ?f160
            case a160 => (simp only [gA, gB, gC]; rfl)
            case b160 => exact fun _ _ _ h => h
            case c160 => rfl
            (try simp only [Act.put, sA, sB, sC])
            refine wpAnyH_take (i := 49) (oi := ?e161) (v := ?v161) ?a161 (by kernel_rfl) (by kernel_rfl) (by kernel_rfl) ?b161 (Or.inl ⟨?c161, ?d161⟩) (by assumption) ?f161
            case a161 => (simp only [gA, gB, gC]; rfl)
            case b161 => exact fun _ _ _ h => h
            case c161 => rfl
            case d161 => (intro w z; (try dsimp only at z); go_simp; try with_reducible rfl)
            (try simp only [Act.put, sA, sB, sC])
            refine wpAnyH_take (i := 50) (oi := ?e162) (v := ?v162) ?a162 (by kernel_rfl) (by kernel_rfl) (by kernel_rfl) ?b162 (Or.inl ⟨?c162, ?d162⟩) (by assumption) ?f162
            case a162 => (simp only [gA, gB, gC]; rfl)
            case b162 => exact fun _ _ _ h => h
            case c162 => rfl
            case d162 => (intro w z; (try dsimp only at z); go_simp; try with_reducible rfl)
            (try simp only [Act.put, sA, sB, sC])
            refine wpAnyH_take (i := 51) (oi := ?e163) (v := undef) ?a163 (by kernel_rfl) (by kernel_rfl) (by kernel_rfl) ?b163 (Or.inr ⟨?c163, rfl⟩) (by assumption) ?f163
            case a163 => (simp only [gA, gB, gC]; rfl)
            case b163 => exact fun _ _ _ h => h
            case c163 => rfl
            (try simp only [Act.put, sA, sB, sC])
            refine wpAnyH_take (i := 52) (oi := ?e164) (v := undef) ?a164 (by kernel_rfl) (by kernel_rfl) (by kernel_rfl) ?b164 (Or.inr ⟨?c164, rfl⟩) (by assumption) ?f164
            case a164 => (simp only [gA, gB, gC]; rfl)
            case b164 => exact fun _ _ _ h => h
            case c164 => rfl
            (try simp only [Act.put, sA, sB, sC])
            refine wpAnyH_take (i := 53) (oi := ?e165) (v := undef) ?a165 (by kernel_rfl) (by kernel_rfl) (by kernel_rfl) ?b165 (Or.inr ⟨?c165, rfl⟩) (by assumption) ?f165
            case a165 => (simp only [gA, gB, gC]; rfl)
            case b165 => exact fun _ _ _ h => h
            case c165 => rfl
            (try simp only [Act.put, sA, sB, sC])
            refine wpAnyH_take (i := 54) (oi := ?e166) (v := ?v166) ?a166 (by kernel_rfl) (by kernel_rfl) (by kernel_rfl) ?b166 (Or.inl ⟨?c166, ?d166⟩) (by assumption) ?f166
            case a166 => (simp only [gA, gB, gC]; rfl)
            case b166 => exact fun _ _ _ h => h
            case c166 => rfl
            case d166 => (intro w z; (try dsimp only at z); go_simp; try with_reducible rfl)
            (try simp only [Act.put, sA, sB, sC])
            refine wpAnyH_take (i := 55) (oi := ?e167) (v := ?v167) ?a167 (by kernel_rfl) (by kernel_rfl) (by kernel_rfl) ?b167 (Or.inl ⟨?c167, ?d167⟩) (by assumption) ?f167
            case a167 => (simp only [gA, gB, gC]; rfl)
            case b167 => exact fun _ _ _ h => h
            case c167 => rfl
            case d167 => (intro w z; (try dsimp only at z); go_simp; try with_reducible rfl)
            (try simp only [Act.put, sA, sB, sC])
            refine wpAnyH_take (i := 56) (oi := ?e168) (v := undef) ?a168 (by kernel_rfl) (by kernel_rfl) (by kernel_rfl) ?b168 (Or.inr ⟨?c168, rfl⟩) (by assumption) ?f168
            case a168 => (simp only [gA, gB, gC]; rfl)
            case b168 => exact fun _ _ _ h => h
            case c168 => rfl
            (try simp only [Act.put, sA, sB, sC])
            refine wpAnyH_take (i := 57) (oi := ?e169) (v := undef) ?a169 (by kernel_rfl) (by kernel_rfl) (by kernel_rfl) ?b169 (Or.inr ⟨?c169, rfl⟩) (by assumption) ?f169
            case a169 => (simp only [gA, gB, gC]; rfl)
            case b169 => exact fun _ _ _ h => h
            case c169 => rfl
            (try simp only [Act.put, sA, sB, sC])
            refine wpAnyH_take (i := 58) (oi := ?e170) (v := undef) ?a170 (by kernel_rfl) (by kernel_rfl) (by kernel_rfl) ?b170 (Or.inr ⟨?c170, rfl⟩) (by assumption) ?f170
            case a170 => (simp only [gA, gB, gC]; rfl)
            case b170 => exact fun _ _ _ h => h
            case c170 => rfl
            (try simp only [Act.put, sA, sB, sC])
            refine wpAnyH_take (i := 59) (oi := ?e171) (v := ?v171) ?a171 (by kernel_rfl) (by kernel_rfl) (by kernel_rfl) ?b171 (Or.inl ⟨?c171, ?d171⟩) (by assumption) ?f171
            case a171 => (simp only [gA, gB, gC]; rfl)
            case b171 => exact fun _ _ _ h => h
            case c171 => rfl
            case d171 => (intro w z; (try dsimp only at z); go_simp; try with_reducible rfl)
            (try simp only [Act.put, sA, sB, sC])
            refine wpAnyH_take (i := 60) (oi := ?e172) (v := ?v172) ?a172 (by kernel_rfl) (by kernel_rfl) (by kernel_rfl) ?b172 (Or.inl ⟨?c172, ?d172⟩) (by assumption) ?f172
            case a172 => (simp only [gA, gB, gC]; rfl)
            case b172 => exact fun _ _ _ h => h
            case c172 => rfl
            case d172 => (intro w z; (try dsimp only at z); go_simp; try with_reducible rfl)
            (try simp only [Act.put, sA, sB, sC])
            refine wpAnyH_done (by kernel_rfl) ?_ _
            go_wp2
            go_ret
            exact ⟨ret_bool (by first | (simp [*]; done) | (simp [*]; omega)), bel2 HB0.out (by first | exact HBr2.out | exact HBr1.out | exact HBr0.out)⟩
          · skip
            obtain ⟨sd, A, c, rfl, hsl, s0, s1, s2, hso⟩ := stg_at (HSS.out _ (bel2 HB0.out HBr1.out)) hjl
            have HEN := Lib.hid (rightEnds_any EA ec ends (stgAt ct j) A c wr1 (HEE.out _ (bel2 HB0.out HBr1.out)) hso)
            generalize endsR (stgAt ct (j : Int)).orgs (-1) ends = b5 at *
            generalize stgAt ct (j : Int) = sg at *
            clear hso
            refine wpAnyH_take (i := 29) (oi := ?e173) (v := ?v173) ?a173 (by kernel_rfl) (by kernel_rfl) (by kernel_rfl) ?b173 (Or.inl ⟨?c173, ?d173⟩) (by assumption) ?f173
            case a173 => (simp only [gA, gB, gC]; rfl)
            case b173 => exact fun _ _ _ h => h
            case c173 => rfl
            case d173 => (intro w z; (try dsimp only at z); go_simp; try with_reducible rfl)
            (try simp only [Act.put, sA, sB, sC])
            refine wpAnyH_take (i := 30) (oi := ?e174) (v := ?v174) ?a174 (by kernel_rfl) (by kernel_rfl) (by kernel_rfl) ?b174 (Or.inl ⟨?c174, ?d174⟩) (by assumption) ?f174
            case a174 => (simp only [gA, gB, gC]; rfl)
            case b174 => exact fun _ _ _ h => h
            case c174 => rfl
            case d174 => (intro w z; (try dsimp only at z); go_simp; try with_reducible rfl)
            (try simp only [Act.put, sA, sB, sC])
            refine wpAnyH_take (i := 31) (oi := ?e175) (v := ?v175) ?a175 (by kernel_rfl) (by kernel_rfl) (by kernel_rfl) ?b175 (Or.inl ⟨?c175, ?d175⟩) (by assumption) ?f175
            case a175 => (simp only [gA, gB, gC]; rfl)
            case b175 => exact fun _ _ _ h => h
            case c175 => rfl
            case d175 => (intro w z; (try dsimp only at z); go_simp; try with_reducible rfl)
            (try simp only [Act.put, sA, sB, sC])
            refine wpAnyH_take (i := 32) (oi := ?e176) (v := ?v176) ?a176 (by kernel_rfl) (by kernel_rfl) (by kernel_rfl) ?b176 (Or.inl ⟨?c176, ?d176⟩) (by assumption) ?f176
            case a176 => (simp only [gA, gB, gC]; rfl)
            case b176 => exact fun _ _ _ h => h
            case c176 => rfl
            case d176 => (intro w z; (try dsimp only at z); go_simp; try with_reducible rfl)
            (try simp only [Act.put, sA, sB, sC])
            refine wpAnyH_take (i := 33) (oi := ?e177) (v := ?v177) ?a177 (by kernel_rfl) (by kernel_rfl) (by kernel_rfl) ?b177 (Or.inl ⟨?c177, ?d177⟩) (by assumption) ?f177
            case a177 => (simp only [gA, gB, gC]; rfl)
            case b177 => exact fun _ _ _ h => h
            case c177 => rfl
            case d177 => (intro w z; (try dsimp only at z); go_simp; try with_reducible rfl)
            (try simp only [Act.put, sA, sB, sC])
            refine wpAnyH_take (i := 34) (oi := ?e178) (v := ?v178) ?a178 (by kernel_rfl) (by kernel_rfl) (by kernel_rfl) ?b178 (Or.inl ⟨?c178, ?d178⟩) (by assumption) ?f178
            case a178 => (simp only [gA, gB, gC]; rfl)
            case b178 => exact fun _ _ _ h => h
            case c178 => rfl
            case d178 => (intro w z; (try dsimp only at z); go_simp; try with_reducible rfl)
            (try simp only [Act.put, sA, sB, sC])
            refine wpAnyH_take (i := 35) (oi := ?e179) (v := ?v179) ?a179 (by kernel_rfl) (by kernel_rfl) (by kernel_rfl) ?b179 (Or.inl ⟨?c179, ?d179⟩) (by assumption) ?f179
            case a179 => (simp only [gA, gB, gC]; rfl)
            case b179 => exact fun _ _ _ h => h
            case c179 => rfl
            case d179 => (intro w z; (try dsimp only at z); go_simp; try with_reducible rfl)
            (try simp only [Act.put, sA, sB, sC])
            refine wpAnyH_take (i := 36) (oi := ?e180) (v := ?v180) ?a180 (by kernel_rfl) (by kernel_rfl) (by kernel_rfl) ?b180 (Or.inl ⟨?c180, ?d180⟩) (by assumption) ?f180
            case a180 => (simp only [gA, gB, gC]; rfl)
            case b180 => exact fun _ _ _ h => h
            case c180 => rfl
            case d180 => (intro w z; (try dsimp only at z); go_simp; try with_reducible rfl)
            (try simp only [Act.put, sA, sB, sC])
            refine wpAnyH_take (i := 37) (oi := ?e181) (v := ?v181) ?a181 (by kernel_rfl) (by kernel_rfl) (by kernel_rfl) ?b181 (Or.inl ⟨?c181, ?d181⟩) (by assumption) ?f181
            case a181 => (simp only [gA, gB, gC]; rfl)
            case b181 => exact fun _ _ _ h => h
            case c181 => rfl
            case d181 => (intro w z; (try dsimp only at z); go_simp; try with_reducible rfl)
            (try simp only [Act.put, sA, sB, sC])
            refine wpAnyH_ready (rs := [38]) (by kernel_rfl) (by simp) ?_
            refine AllReadyH.cons (o := ?o182) ?g182 (fun K hK => ?j182) AllReadyH.nil
            case g182 => (simp only [gA, gB, gC]; rfl)
            go_simp
            refine hK.out _ _ ?_ (fun hHeld => ?_)
            · (try dsimp only); (first | assumption | exact HK.out _ HBr2.out | exact HK.out _ HBr1.out | exact HK.out _ HBr0.out)
            clear hK K
            (try simp only [Act.put, sA, sB, sC])
            refine wpAnyH_ready (rs := [39]) (by kernel_rfl) (by simp) ?_
            refine AllReadyH.cons (o := ?o183) ?g183 (fun K hK => ?j183) AllReadyH.nil
            case g183 => (simp only [gA, gB, gC]; rfl)
            go_simp
            refine HEN.out.mono ?_
            rintro e wr2 ⟨rfl, hbr2⟩
            have HBr2 := Lib.hid (bel2 HBr1.out hbr2)
            clear hbr2
            refine hK.out _ _ ?_ (fun hHeld => ?_)
            · (try dsimp only); (first | assumption | exact HK.out _ HBr2.out | exact HK.out _ HBr1.out | exact HK.out _ HBr0.out)
            clear hK K
            (try simp only [Act.put, sA, sB, sC])
            cases b5
            · skip
              refine wpAnyH_take (i := 40) (oi := ?e184) (v := ?v184) ?a184 (by kernel_rfl) (by kernel_rfl) (by kernel_rfl) ?b184 (Or.inl ⟨?c184, ?d184⟩) (by assumption) ?f184
              case a184 => (simp only [gA, gB, gC]; rfl)
              case b184 => exact fun _ _ _ h => h
              case c184 => rfl
              case d184 => (intro w z; (try dsimp only at z); go_simp; try with_reducible rfl)
              (try simp only [Act.put, sA, sB, sC])
              refine wpAnyH_take (i := 41) (oi := ?e185) (v := ?v185) ?a185 (by kernel_rfl) (by kernel_rfl) (by kernel_rfl) ?b185 (Or.inl ⟨?c185, ?d185⟩) (by assumption) ?f185
              case a185 => (simp only [gA, gB, gC]; rfl)
              case b185 => exact fun _ _ _ h => h
              case c185 => rfl
              case d185 => (intro w z; (try dsimp only at z); go_simp; try with_reducible rfl)
              (try simp only [Act.put, sA, sB, sC])
              refine wpAnyH_take (i := 42) (oi := ?e186) (v := undef) ?a186 (by kernel_rfl) (by kernel_rfl) (by kernel_rfl) ?b186 (Or.inr ⟨?c186, rfl⟩) (by assumption) ?f186
              case a186 => (simp only [gA, gB, gC]; rfl)
              case b186 => exact fun _ _ _ h => h
              case c186 => rfl
              (try simp only [Act.put, sA, sB, sC])
              refine wpAnyH_take (i := 43) (oi := ?e187) (v := undef) ?a187 (by kernel_rfl) (by kernel_rfl) (by kernel_rfl) ?b187 (Or.inr ⟨?c187, rfl⟩) (by assumption) ?f187
              case a187 => (simp only [gA, gB, gC]; rfl)
              case b187 => exact fun _ _ _ h => h
              case c187 => rfl
              (try simp only [Act.put, sA, sB, sC])
              refine wpAnyH_take (i := 44) (oi := ?e188) (v := undef) ?a188 (by kernel_rfl) (by kernel_rfl) (by kernel_rfl) ?b188 (Or.inr ⟨?c188, rfl⟩) (by assumption) ?f188
              case a188 => (simp only [gA, gB, gC]; rfl)
              case b188 => exact fun _ _ _ h => h
              case c188 => rfl
              (try simp only [Act.put, sA, sB, sC])
              refine wpAnyH_take (i := 45) (oi := ?e189) (v := undef) ?a189 (by kernel_rfl) (by kernel_rfl) (by kernel_rfl) ?b189 (Or.inr ⟨?c189, rfl⟩) (by assumption) ?f189
              case a189 => (simp only [gA, gB, gC]; rfl)
              case b189 => exact fun _ _ _ h => h
              case c189 => rfl
              (try simp only [Act.put, sA, sB, sC])
              refine wpAnyH_take (i := 46) (oi := ?e190) (v := undef) ?a190 (by kernel_rfl) (by kernel_rfl) (by kernel_rfl) ?b190 (Or.inr ⟨?c190, rfl⟩) (by assumption) ?f190
              case a190 => (simp only [gA, gB, gC]; rfl)
              case b190 => exact fun _ _ _ h => h
              case c190 => rfl
              (try simp only [Act.put, sA, sB, sC])
              refine wpAnyH_take (i := 47) (oi := ?e191) (v := undef) ?a191 (by kernel_rfl) (by kernel_rfl) (by kernel_rfl) ?b191 (Or.inr ⟨?c191, rfl⟩) (by assumption) ?f191
              case a191 => (simp only [gA, gB, gC]; rfl)
              case b191 => exact fun _ _ _ h => h
              case c191 => rfl
              (try simp only [Act.put, sA, sB, sC])
              refine wpAnyH_take (i := 48) (oi := ?e192) (v := undef) ?a192 (by kernel_rfl) (by kernel_rfl) (by kernel_rfl) ?b192 (Or.inr ⟨?c192, rfl⟩) (by assumption) ?f192
              case a192 => (simp only [gA, gB, gC]; rfl)
              case b192 => exact fun _ _ _ h => h
              case c192 => rfl
              (try simp only [Act.put, sA, sB, sC])
              refine wpAnyH_take (i := 49) (oi := ?e193) (v := ?v193) ?a193 (by kernel_rfl) (by kernel_rfl) (by kernel_rfl) ?b193 (Or.inl ⟨?c193, ?d193⟩) (by assumption) ?f193
              case a193 => (simp only [gA, gB, gC]; rfl)
              case b193 => exact fun _ _ _ h => h
              case c193 => rfl
              case d193 => (intro w z; (try dsimp only at z); go_simp; try with_reducible rfl)
              (try simp only [Act.put, sA, sB, sC])
              refine wpAnyH_take (i := 50) (oi := ?e194) (v := ?v194) ?a194 (by kernel_rfl) (by kernel_rfl) (by kernel_rfl) ?b194 (Or.inl ⟨?c194, ?d194⟩) (by assumption) ?f194
              case a194 => (simp only [gA, gB, gC]; rfl)
              case b194 => exact fun _ _ _ h => h
              case c194 => rfl
              case d194 => (intro w z; (try dsimp only at z); go_simp; try with_reducible rfl)
              (try simp only [Act.put, sA, sB, sC])
              refine wpAnyH_take (i := 51) (oi := ?e195) (v := undef) ?a195 (by kernel_rfl) (by kernel_rfl) (by kernel_rfl) ?b195 (Or.inr ⟨?c195, rfl⟩) (by assumption) ?f195
              case a195 => (simp only [gA, gB, gC]; rfl)
              case b195 => exact fun _ _ _ h => h
              case c195 => rfl
              (try simp only [Act.put, sA, sB, sC])
              refine wpAnyH_take (i := 52) (oi := ?e196) (v := undef) ?a196 (by kernel_rfl) (by kernel_rfl) (by kernel_rfl) ?b196 (Or.inr ⟨?c196, rfl⟩) (by assumption) ?f196
              case a196 => (simp only [gA, gB, gC]; rfl)
              case b196 => exact fun _ _ _ h => h
              case c196 => rfl
              (try simp only [Act.put, sA, sB, sC])
              refine wpAnyH_take (i := 53) (oi := ?e197) (v := undef) ?a197 (by kernel_rfl) (by kernel_rfl) (by kernel_rfl) ?b197 (Or.inr ⟨?c197, rfl⟩) (by assumption) ?f197
              case a197 => (simp only [gA, gB, gC]; rfl)
              case b197 => exact fun _ _ _ h => h
              case c197 => rfl
              (try simp only [Act.put, sA, sB, sC])
              refine wpAnyH_take (i := 54) (oi := ?e198) (v := ?v198) ?a198 (by kernel_rfl) (by kernel_rfl) (by kernel_rfl) ?b198 (Or.inl ⟨?c198, ?d198⟩) (by assumption) ?f198
              case a198 => (simp only [gA, gB, gC]; rfl)
              case b198 => exact fun _ _ _ h => h
              case c198 => rfl
              case d198 => (intro w z; (try dsimp only at z); go_simp; try with_reducible rfl)
              (try simp only [Act.put, sA, sB, sC])
              refine wpAnyH_take (i := 55) (oi := ?e199) (v := ?v199) ?a199 (by kernel_rfl) (by kernel_rfl) (by kernel_rfl) ?b199 (Or.inl ⟨?c199, ?d199⟩) (by assumption) ?f199
              case a199 => (simp only [gA, gB, gC]; rfl)
              case b199 => exact fun _ _ _ h => h
              case c199 => rfl
              case d199 => (intro w z; (try dsimp only at z); go_simp; try with_reducible rfl)
              (try simp only [Act.put, sA, sB, sC])
              refine wpAnyH_take (i := 56) (oi := ?e200) (v := undef) ?a200 (by kernel_rfl) (by kernel_rfl) (by kernel_rfl) ?b200 (Or.inr ⟨?c200, rfl⟩) (by assumption) ?f200
              case a200 => (simp only [gA, gB, gC]; rfl)
              case b200 => exact fun _ _ _ h => h
              case c200 => rfl
              (try simp only [Act.put, sA, sB, sC])
              refine wpAnyH_take (i := 57) (oi := ?e201) (v := undef) ?a201 (by kernel_rfl) (by kernel_rfl) (by kernel_rfl) ?b201 (Or.inr ⟨?c201, rfl⟩) (by assumption) ?f201
              case a201 => (simp only [gA, gB, gC]; rfl)
              case b201 => exact fun _ _ _ h => h
              case c201 => rfl
              (try simp only [Act.put, sA, sB, sC])
              refine wpAnyH_take (i := 58) (oi := ?e202) (v := undef) ?a202 (by kernel_rfl) (by kernel_rfl) (by kernel_rfl) ?b202 (Or.inr ⟨?c202, rfl⟩) (by assumption) ?f202
              case a202 => (simp only [gA, gB, gC]; rfl)
              case b202 => exact fun _ _ _ h => h
              case c202 => rfl
              (try simp only [Act.put, sA, sB, sC])
              refine wpAnyH_take (i := 59) (oi := ?e203) (v := ?v203) ?a203 (by kernel_rfl) (by kernel_rfl) (by kernel_rfl) ?b203 (Or.inl ⟨?c203, ?d203⟩) (by assumption) ?f203
              case a203 => (simp only [gA, gB, gC]; rfl)
              case b203 => exact fun _ _ _ h => h
              case c203 => rfl
              case d203 => (intro w z; (try dsimp only at z); go_simp; try with_reducible rfl)
              (try simp only [Act.put, sA, sB, sC])
              refine wpAnyH_take (i := 60) (oi := ?e204) (v := ?v204) ?a204 (by kernel_rfl) (by kernel_rfl) (by kernel_rfl) ?b204 (Or.inl ⟨?c204, ?d204⟩) (by assumption) ?f204
              case a204 => (simp only [gA, gB, gC]; rfl)
              case b204 => exact fun _ _ _ h => h
              case c204 => rfl
              case d204 => (intro w z; (try dsimp only at z); go_simp; try with_reducible rfl)
              (try simp only [Act.put, sA, sB, sC])
              refine wpAnyH_done (by kernel_rfl) ?_ _
              go_wp2
              go_ret
              exact ⟨ret_bool (by first | (simp [*]; done) | (simp [*]; omega)), bel2 HB0.out (by first | exact HBr2.out | exact HBr1.out | exact HBr0.out)⟩
            · skip
              refine wpAnyH_take (i := 40) (oi := ?e205) (v := ?v205) ?a205 (by kernel_rfl) (by kernel_rfl) (by kernel_rfl) ?b205 (Or.inl ⟨?c205, ?d205⟩) (by assumption) ?f205
              case a205 => (simp only [gA, gB, gC]; rfl)
              case b205 => exact fun _ _ _ h => h
              case c205 => rfl
              case d205 => (intro w z; (try dsimp only at z); go_simp; try with_reducible rfl)
              (try simp only [Act.put, sA, sB, sC])
              refine wpAnyH_take (i := 41) (oi := ?e206) (v := ?v206) ?a206 (by kernel_rfl) (by kernel_rfl) (by kernel_rfl) ?b206 (Or.inl ⟨?c206, ?d206⟩) (by assumption) ?f206
              case a206 => (simp only [gA, gB, gC]; rfl)
              case b206 => exact fun _ _ _ h => h
              case c206 => rfl
              case d206 => (intro w z; (try dsimp only at z); go_simp; try with_reducible rfl)
              (try simp only [Act.put, sA, sB, sC])
              refine wpAnyH_take (i := 42) (oi := ?e207) (v := ?v207) ?a207 (by kernel_rfl) (by kernel_rfl) (by kernel_rfl) ?b207 (Or.inl ⟨?c207, ?d207⟩) (by assumption) ?f207
              case a207 => (simp only [gA, gB, gC]; rfl)
              case b207 => exact fun _ _ _ h => h
              case c207 => rfl
              case d207 => (intro w z; (try dsimp only at z); go_simp; try with_reducible rfl)
              (try simp only [Act.put, sA, sB, sC])
              cases su
              · skip
                refine wpAnyH_take (i := 43) (oi := ?e208) (v := ?v208) ?a208 (by kernel_rfl) (by kernel_rfl) (by kernel_rfl) ?b208 (Or.inl ⟨?c208, ?d208⟩) (by assumption) ?f208
                case a208 => (simp only [gA, gB, gC]; rfl)
                case b208 => exact fun _ _ _ h => h
                case c208 => rfl
                case d208 => (intro w z; (try dsimp only at z); go_simp; try with_reducible rfl)
                (try simp only [Act.put, sA, sB, sC])
                refine wpAnyH_take (i := 44) (oi := ?e209) (v := ?v209) ?a209 (by kernel_rfl) (by kernel_rfl) (by kernel_rfl) ?b209 (Or.inl ⟨?c209, ?d209⟩) (by assumption) ?f209
                case a209 => (simp only [gA, gB, gC]; rfl)
                case b209 => exact fun _ _ _ h => h
                case c209 => rfl
                case d209 => (intro w z; (try dsimp only at z); go_simp; try with_reducible rfl)
                (try simp only [Act.put, sA, sB, sC])
                refine wpAnyH_take (i := 45) (oi := ?e210) (v := undef) ?a210 (by kernel_rfl) (by kernel_rfl) (by kernel_rfl) ?b210 (Or.inr ⟨?c210, rfl⟩) (by assumption) ?f210
                case a210 => (simp only [gA, gB, gC]; rfl)
                case b210 => exact fun _ _ _ h => h
                case c210 => rfl
                (try simp only [Act.put, sA, sB, sC])
                refine wpAnyH_take (i := 46) (oi := ?e211) (v := undef) ?a211 (by kernel_rfl) (by kernel_rfl) (by kernel_rfl) ?b211 (Or.inr ⟨?c211, rfl⟩) (by assumption) ?f211
                case a211 => (simp only [gA, gB, gC]; rfl)
                case b211 => exact fun _ _ _ h => h
                case c211 => rfl
                (try simp only [Act.put, sA, sB, sC])
                refine wpAnyH_take (i := 47) (oi := ?e212) (v := ?v212) ?a212 (by kernel_rfl) (by kernel_rfl) (by kernel_rfl) ?b212 (Or.inl ⟨?c212, ?d212⟩) (by assumption) ?f212
                case a212 => (simp only [gA, gB, gC]; rfl)
                case b212 => exact fun _ _ _ h => h
                case c212 => rfl
                case d212 => (intro w z; (try dsimp only at z); go_simp; try with_reducible rfl)
                (try simp only [Act.put, sA, sB, sC])
                refine wpAnyH_take (i := 48) (oi := ?e213) (v := ?v213) ?a213 (by kernel_rfl) (by kernel_rfl) (by kernel_rfl) ?b213 (Or.inl ⟨?c213, ?d213⟩) (by assumption) ?f213
                case a213 => (simp only [gA, gB, gC]; rfl)
                case b213 => exact fun _ _ _ h => h
                case c213 => rfl
                case d213 => (intro w z; (try dsimp only at z); go_simp; try with_reducible rfl)
                (try simp only [Act.put, sA, sB, sC])
                refine wpAnyH_take (i := 49) (oi := ?e214) (v := ?v214) ?a214 (by kernel_rfl) (by kernel_rfl) (by kernel_rfl) ?b214 (Or.inl ⟨?c214, ?d214⟩) (by assumption) ?f214
                case a214 => (simp only [gA, gB, gC]; rfl)
                case b214 => exact fun _ _ _ h => h
                case c214 => rfl
                case d214 => (intro w z; (try dsimp only at z); go_simp; try with_reducible rfl)
                (try simp only [Act.put, sA, sB, sC])
                refine wpAnyH_take (i := 50) (oi := ?e215) (v := ?v215) ?a215 (by kernel_rfl) (by kernel_rfl) (by kernel_rfl) ?b215 (Or.inl ⟨?c215, ?d215⟩) (by assumption) ?f215
                case a215 => (simp only [gA, gB, gC]; rfl)
                case b215 => exact fun _ _ _ h => h
                case c215 => rfl
                case d215 => (intro w z; (try dsimp only at z); go_simp; try with_reducible rfl)
                (try simp only [Act.put, sA, sB, sC])
                refine wpAnyH_take (i := 51) (oi := ?e216) (v := ?v216) ?a216 (by kernel_rfl) (by kernel_rfl) (by kernel_rfl) ?b216 (Or.inl ⟨?c216, ?d216⟩) (by assumption) ?f216
                case a216 => (simp only [gA, gB, gC]; rfl)
                case b216 => exact fun _ _ _ h => h
                case c216 => rfl
                case d216 => (intro w z; (try dsimp only at z); go_simp; try with_reducible rfl)
                (try simp only [Act.put, sA, sB, sC])
                refine wpAnyH_take (i := 52) (oi := ?e217) (v := ?v217) ?a217 (by kernel_rfl) (by kernel_rfl) (by kernel_rfl) ?b217 (Or.inl ⟨?c217, ?d217⟩) (by assumption) ?f217
                case a217 => (simp only [gA, gB, gC]; rfl)
                case b217 => exact fun _ _ _ h => h
                case c217 => rfl
                case d217 => (intro w z; (try dsimp only at z); go_simp; try with_reducible rfl)
                (try simp only [Act.put, sA, sB, sC])
                by_cases h7 : (0 : Int) ≤ sp
                · skip
                  refine wpAnyH_take (i := 53) (oi := ?e218) (v := ?v218) ?a218 (by kernel_rfl) (by kernel_rfl) (by kernel_rfl) ?b218 (Or.inl ⟨?c218, ?d218⟩) (by assumption) ?f218
                  case a218 => (simp only [gA, gB, gC]; rfl)
                  case b218 => exact fun _ _ _ h => h
                  case c218 => rfl
                  case d218 => (intro w z; (try dsimp only at z); go_simp; try with_reducible rfl)
                  (try simp only [Act.put, sA, sB, sC])
                  refine wpAnyH_take (i := 54) (oi := ?e219) (v := ?v219) ?a219 (by kernel_rfl) (by kernel_rfl) (by kernel_rfl) ?b219 (Or.inl ⟨?c219, ?d219⟩) (by assumption) ?f219
                  case a219 => (simp only [gA, gB, gC]; rfl)
                  case b219 => exact fun _ _ _ h => h
                  case c219 => rfl
                  case d219 => (intro w z; (try dsimp only at z); go_simp; try with_reducible rfl)
                  (try simp only [Act.put, sA, sB, sC])
                  refine wpAnyH_take (i := 55) (oi := ?e220) (v := ?v220) ?a220 (by kernel_rfl) (by kernel_rfl) (by kernel_rfl) ?b220 (Or.inl ⟨?c220, ?d220⟩) (by assumption) ?f220
                  case a220 => (simp only [gA, gB, gC]; rfl)
                  case b220 => exact fun _ _ _ h => h
                  case c220 => rfl
                  case d220 => (intro w z; (try dsimp only at z); go_simp; try with_reducible rfl)
                  (try simp only [Act.put, sA, sB, sC])
                  refine wpAnyH_take (i := 56) (oi := ?e221) (v := ?v221) ?a221 (by kernel_rfl) (by kernel_rfl) (by kernel_rfl) ?b221 (Or.inl ⟨?c221, ?d221⟩) (by assumption) ?f221
                  case a221 => (simp only [gA, gB, gC]; rfl)
                  case b221 => exact fun _ _ _ h => h
                  case c221 => rfl
                  case d221 => (intro w z; (try dsimp only at z); go_simp; try with_reducible rfl)
                  (try simp only [Act.put, sA, sB, sC])
                  refine wpAnyH_take (i := 57) (oi := ?e222) (v := ?v222) ?a222 (by kernel_rfl) (by kernel_rfl) (by kernel_rfl) ?b222 (Or.inl ⟨?c222, ?d222⟩) (by assumption) ?f222
                  case a222 => (simp only [gA, gB, gC]; rfl)
                  case b222 => exact fun _ _ _ h => h
                  case c222 => rfl
                  case d222 => (intro w z; (try dsimp only at z); go_simp; try with_reducible rfl)
                  (try simp only [Act.put, sA, sB, sC])
                  by_cases h8 : sp ≤ 1099511627776
                  · skip
                    refine wpAnyH_take (i := 58) (oi := ?e223) (v := ?v223) ?a223 (by kernel_rfl) (by kernel_rfl) (by kernel_rfl) ?b223 (Or.inl ⟨?c223, ?d223⟩) (by assumption) ?f223
                    case a223 => (simp only [gA, gB, gC]; rfl)
                    case b223 => exact fun _ _ _ h => h
                    case c223 => rfl
                    case d223 => (intro w z; (try dsimp only at z); go_simp; try with_reducible rfl)
                    (try simp only [Act.put, sA, sB, sC])
                    refine wpAnyH_take (i := 59) (oi := ?e224) (v := ?v224) ?a224 (by kernel_rfl) (by kernel_rfl) (by kernel_rfl) ?b224 (Or.inl ⟨?c224, ?d224⟩) (by assumption) ?f224
                    case a224 => (simp only [gA, gB, gC]; rfl)
                    case b224 => exact fun _ _ _ h => h
                    case c224 => rfl
                    case d224 => (intro w z; (try dsimp only at z); go_simp; try with_reducible rfl)
                    (try simp only [Act.put, sA, sB, sC])
                    refine wpAnyH_take (i := 60) (oi := ?e225) (v := ?v225) ?a225 (by kernel_rfl) (by kernel_rfl) (by kernel_rfl) ?b225 (Or.inl ⟨?c225, ?d225⟩) (by assumption) ?f225
                    case a225 => (simp only [gA, gB, gC]; rfl)
                    case b225 => exact fun _ _ _ h => h
                    case c225 => rfl
                    case d225 => (intro w z; (try dsimp only at z); go_simp; try with_reducible rfl)
                    (try simp only [Act.put, sA, sB, sC])
                    refine wpAnyH_done (by kernel_rfl) ?_ _
                    go_wp2
                    go_ret
                    exact ⟨ret_bool (by first | (simp [*]; done) | (simp [*]; omega)), bel2 HB0.out (by first | exact HBr2.out | exact HBr1.out | exact HBr0.out)⟩
                  · skip
                    refine wpAnyH_take (i := 58) (oi := ?e226) (v := ?v226) ?a226 (by kernel_rfl) (by kernel_rfl) (by kernel_rfl) ?b226 (Or.inl ⟨?c226, ?d226⟩) (by assumption) ?f226
                    case a226 => (simp only [gA, gB, gC]; rfl)
                    case b226 => exact fun _ _ _ h => h
                    case c226 => rfl
                    case d226 => (intro w z; (try dsimp only at z); go_simp; try with_reducible rfl)
                    (try simp only [Act.put, sA, sB, sC])
                    refine wpAnyH_take (i := 59) (oi := ?e227) (v := ?v227) ?a227 (by kernel_rfl) (by kernel_rfl) (by kernel_rfl) ?b227 (Or.inl ⟨?c227, ?d227⟩) (by assumption) ?f227
                    case a227 => (simp only [gA, gB, gC]; rfl)
                    case b227 => exact fun _ _ _ h => h
                    case c227 => rfl
                    case d227 => (intro w z; (try dsimp only at z); go_simp; try with_reducible rfl)
                    (try simp only [Act.put, sA, sB, sC])
                    refine wpAnyH_take (i := 60) (oi := ?e228) (v := ?v228) ?a228 (by kernel_rfl) (by kernel_rfl) (by kernel_rfl) ?b228 (Or.inl ⟨?c228, ?d228⟩) (by assumption) ?f228
                    case a228 => (simp only [gA, gB, gC]; rfl)
                    case b228 => exact fun _ _ _ h => h
                    case c228 => rfl
                    case d228 => (intro w z; (try dsimp only at z); go_simp; try with_reducible rfl)
                    (try simp only [Act.put, sA, sB, sC])
                    refine wpAnyH_done (by kernel_rfl) ?_ _
                    go_wp2
                    go_ret
                    exact ⟨ret_bool (by first | (simp [*]; done) | (simp [*]; omega)), bel2 HB0.out (by first | exact HBr2.out | exact HBr1.out | exact HBr0.out)⟩
                · skip
                  refine wpAnyH_take (i := 53) (oi := ?e229) (v := ?v229) ?a229 (by kernel_rfl) (by kernel_rfl) (by kernel_rfl) ?b229 (Or.inl ⟨?c229, ?d229⟩) (by assumption) ?f229
                  case a229 => (simp only [gA, gB, gC]; rfl)
                  case b229 => exact fun _ _ _ h => h
                  case c229 => rfl
                  case d229 => (intro w z; (try dsimp only at z); go_simp; try with_reducible rfl)
                  (try simp only [Act.put, sA, sB, sC])
                  refine wpAnyH_take (i := 54) (oi := ?e230) (v := ?v230) ?a230 (by kernel_rfl) (by kernel_rfl) (by kernel_rfl) ?b230 (Or.inl ⟨?c230, ?d230⟩) (by assumption) ?f230
                  case a230 => (simp only [gA, gB, gC]; rfl)
                  case b230 => exact fun _ _ _ h => h
                  case c230 => rfl
                  case d230 => (intro w z; (try dsimp only at z); go_simp; try with_reducible rfl)
                  (try simp only [Act.put, sA, sB, sC])
                  refine wpAnyH_take (i := 55) (oi := ?e231) (v := ?v231) ?a231 (by kernel_rfl) (by kernel_rfl) (by kernel_rfl) ?b231 (Or.inl ⟨?c231, ?d231⟩) (by assumption) ?f231
                  case a231 => (simp only [gA, gB, gC]; rfl)
                  case b231 => exact fun _ _ _ h => h
                  case c231 => rfl
                  case d231 => (intro w z; (try dsimp only at z); go_simp; try with_reducible rfl)
                  (try simp only [Act.put, sA, sB, sC])
                  refine wpAnyH_take (i := 56) (oi := ?e232) (v := undef) ?a232 (by kernel_rfl) (by kernel_rfl) (by kernel_rfl) ?b232 (Or.inr ⟨?c232, rfl⟩) (by assumption) ?f232
                  case a232 => (simp only [gA, gB, gC]; rfl)
                  case b232 => exact fun _ _ _ h => h
                  case c232 => rfl
                  (try simp only [Act.put, sA, sB, sC])
                  refine wpAnyH_take (i := 57) (oi := ?e233) (v := undef) ?a233 (by kernel_rfl) (by kernel_rfl) (by kernel_rfl) ?b233 (Or.inr ⟨?c233, rfl⟩) (by assumption) ?f233
                  case a233 => (simp only [gA, gB, gC]; rfl)
                  case b233 => exact fun _ _ _ h => h
                  case c233 => rfl
                  (try simp only [Act.put, sA, sB, sC])
                  refine wpAnyH_take (i := 58) (oi := ?e234) (v := undef) ?a234 (by kernel_rfl) (by kernel_rfl) (by kernel_rfl) ?b234 (Or.inr ⟨?c234, rfl⟩) (by assumption) ?f234
                  case a234 => (simp only [gA, gB, gC]; rfl)
                  case b234 => exact fun _ _ _ h => h
                  case c234 => rfl
                  (try simp only [Act.put, sA, sB, sC])
                  refine wpAnyH_take (i := 59) (oi := ?e235) (v := ?v235) ?a235 (by kernel_rfl) (by kernel_rfl) (by kernel_rfl) ?b235 (Or.inl ⟨?c235, ?d235⟩) (by assumption) ?f235
                  case a235 => (simp only [gA, gB, gC]; rfl)
                  case b235 => exact fun _ _ _ h => h
                  case c235 => rfl
                  case d235 => (intro w z; (try dsimp only at z); go_simp; try with_reducible rfl)
                  (try simp only [Act.put, sA, sB, sC])
                  refine wpAnyH_take (i := 60) (oi := ?e236) (v := ?v236) ?a236 (by kernel_rfl) (by kernel_rfl) (by kernel_rfl) ?b236 (Or.inl ⟨?c236, ?d236⟩) (by assumption) ?f236
                  case a236 => (simp only [gA, gB, gC]; rfl)
                  case b236 => exact fun _ _ _ h => h
                  case c236 => rfl
                  case d236 => (intro w z; (try dsimp only at z); go_simp; try with_reducible rfl)
                  (try simp only [Act.put, sA, sB, sC])
                  refine wpAnyH_done (by kernel_rfl) ?_ _
                  go_wp2
                  go_ret
                  exact ⟨ret_bool (by first | (simp [*]; done) | (simp [*]; omega)), bel2 HB0.out (by first | exact HBr2.out | exact HBr1.out | exact HBr0.out)⟩
              · skip
                refine wpAnyH_take (i := 43) (oi := ?e237) (v := ?v237) ?a237 (by kernel_rfl) (by kernel_rfl) (by kernel_rfl) ?b237 (Or.inl ⟨?c237, ?d237⟩) (by assumption) ?f237
                case a237 => (simp only [gA, gB, gC]; rfl)
                case b237 => exact fun _ _ _ h => h
                case c237 => rfl
                case d237 => (intro w z; (try dsimp only at z); go_simp; try with_reducible rfl)
                (try simp only [Act.put, sA, sB, sC])
                refine wpAnyH_take (i := 44) (oi := ?e238) (v := ?v238) ?a238 (by kernel_rfl) (by kernel_rfl) (by kernel_rfl) ?b238 (Or.inl ⟨?c238, ?d238⟩) (by assumption) ?f238
                case a238 => (simp only [gA, gB, gC]; rfl)
                case b238 => exact fun _ _ _ h => h
                case c238 => rfl
                case d238 => (intro w z; (try dsimp only at z); go_simp; try with_reducible rfl)
                (try simp only [Act.put, sA, sB, sC])
                refine wpAnyH_take (i := 45) (oi := ?e239) (v := ?v239) ?a239 (by kernel_rfl) (by kernel_rfl) (by kernel_rfl) ?b239 (Or.inl ⟨?c239, ?d239⟩) (by assumption) ?f239
                case a239 => (simp only [gA, gB, gC]; rfl)
                case b239 => exact fun _ _ _ h => h
                case c239 => rfl
                case d239 => (intro w z; (try dsimp only at z); go_simp; try with_reducible rfl)
                (try simp only [Act.put, sA, sB, sC])
                cases sh
                · skip
                  refine wpAnyH_take (i := 46) (oi := ?e240) (v := ?v240) ?a240 (by kernel_rfl) (by kernel_rfl) (by kernel_rfl) ?b240 (Or.inl ⟨?c240, ?d240⟩) (by assumption) ?f240
                  case a240 => (simp only [gA, gB, gC]; rfl)
                  case b240 => exact fun _ _ _ h => h
                  case c240 => rfl
                  case d240 => (intro w z; (try dsimp only at z); go_simp; try with_reducible rfl)
                  (try simp only [Act.put, sA, sB, sC])
                  refine wpAnyH_take (i := 47) (oi := ?e241) (v := ?v241) ?a241 (by kernel_rfl) (by kernel_rfl) (by kernel_rfl) ?b241 (Or.inl ⟨?c241, ?d241⟩) (by assumption) ?f241
                  case a241 => (simp only [gA, gB, gC]; rfl)
                  case b241 => exact fun _ _ _ h => h
                  case c241 => rfl
                  case d241 => (intro w z; (try dsimp only at z); go_simp; try with_reducible rfl)
                  (try simp only [Act.put, sA, sB, sC])
                  refine wpAnyH_take (i := 48) (oi := ?e242) (v := ?v242) ?a242 (by kernel_rfl) (by kernel_rfl) (by kernel_rfl) ?b242 (Or.inl ⟨?c242, ?d242⟩) (by assumption) ?f242
                  case a242 => (simp only [gA, gB, gC]; rfl)
                  case b242 => exact fun _ _ _ h => h
                  case c242 => rfl
                  case d242 => (intro w z; (try dsimp only at z); go_simp; try with_reducible rfl)
                  (try simp only [Act.put, sA, sB, sC])
                  refine wpAnyH_take (i := 49) (oi := ?e243) (v := ?v243) ?a243 (by kernel_rfl) (by kernel_rfl) (by kernel_rfl) ?b243 (Or.inl ⟨?c243, ?d243⟩) (by assumption) ?f243
                  case a243 => (simp only [gA, gB, gC]; rfl)
                  case b243 => exact fun _ _ _ h => h
                  case c243 => rfl
                  case d243 => (intro w z; (try dsimp only at z); go_simp; try with_reducible rfl)
                  (try simp only [Act.put, sA, sB, sC])
                  refine wpAnyH_take (i := 50) (oi := ?e244) (v := ?v244) ?a244 (by kernel_rfl) (by kernel_rfl) (by kernel_rfl) ?b244 (Or.inl ⟨?c244, ?d244⟩) (by assumption) ?f244
                  case a244 => (simp only [gA, gB, gC]; rfl)
                  case b244 => exact fun _ _ _ h => h
                  case c244 => rfl
                  case d244 => (intro w z; (try dsimp only at z); go_simp; try with_reducible rfl)
                  (try simp only [Act.put, sA, sB, sC])
                  refine wpAnyH_take (i := 51) (oi := ?e245) (v := ?v245) ?a245 (by kernel_rfl) (by kernel_rfl) (by kernel_rfl) ?b245 (Or.inl ⟨?c245, ?d245⟩) (by assumption) ?f245
                  case a245 => (simp only [gA, gB, gC]; rfl)
                  case b245 => exact fun _ _ _ h => h
                  case c245 => rfl
                  case d245 => (intro w z; (try dsimp only at z); go_simp; try with_reducible rfl)
                  (try simp only [Act.put, sA, sB, sC])
                  refine wpAnyH_take (i := 52) (oi := ?e246) (v := ?v246) ?a246 (by kernel_rfl) (by kernel_rfl) (by kernel_rfl) ?b246 (Or.inl ⟨?c246, ?d246⟩) (by assumption) ?f246
                  case a246 => (simp only [gA, gB, gC]; rfl)
                  case b246 => exact fun _ _ _ h => h
                  case c246 => rfl
                  case d246 => (intro w z; (try dsimp only at z); go_simp; try with_reducible rfl)
                  (try simp only [Act.put, sA, sB, sC])
                  by_cases h7 : (0 : Int) ≤ sp
                  · skip
                    refine wpAnyH_take (i := 53) (oi := ?e247) (v := ?v247) ?a247 (by kernel_rfl) (by kernel_rfl) (by kernel_rfl) ?b247 (Or.inl ⟨?c247, ?d247⟩) (by assumption) ?f247
                    case a247 => (simp only [gA, gB, gC]; rfl)
                    case b247 => exact fun _ _ _ h => h
                    case c247 => rfl
                    case d247 => (intro w z; (try dsimp only at z); go_simp; try with_reducible rfl)
                    (try simp only [Act.put, sA, sB, sC])
                    refine wpAnyH_take (i := 54) (oi := ?e248) (v := ?v248) ?a248 (by kernel_rfl) (by kernel_rfl) (by kernel_rfl) ?b248 (Or.inl ⟨?c248, ?d248⟩) (by assumption) ?f248
                    case a248 => (simp only [gA, gB, gC]; rfl)
                    case b248 => exact fun _ _ _ h => h
                    case c248 => rfl
                    case d248 => (intro w z; (try dsimp only at z); go_simp; try with_reducible rfl)
                    (try simp only [Act.put, sA, sB, sC])
                    refine wpAnyH_take (i := 55) (oi := ?e249) (v := ?v249) ?a249 (by kernel_rfl) (by kernel_rfl) (by kernel_rfl) ?b249 (Or.inl ⟨?c249, ?d249⟩) (by assumption) ?f249
                    case a249 => (simp only [gA, gB, gC]; rfl)
                    case b249 => exact fun _ _ _ h => h
                    case c249 => rfl
                    case d249 => (intro w z; (try dsimp only at z); go_simp; try with_reducible rfl)
                    (try simp only [Act.put, sA, sB, sC])
                    refine wpAnyH_take (i := 56) (oi := ?e250) (v := ?v250) ?a250 (by kernel_rfl) (by kernel_rfl) (by kernel_rfl) ?b250 (Or.inl ⟨?c250, ?d250⟩) (by assumption) ?f250
                    case a250 => (simp only [gA, gB, gC]; rfl)
                    case b250 => exact fun _ _ _ h => h
                    case c250 => rfl
                    case d250 => (intro w z; (try dsimp only at z); go_simp; try with_reducible rfl)
                    (try simp only [Act.put, sA, sB, sC])
                    refine wpAnyH_take (i := 57) (oi := ?e251) (v := ?v251) ?a251 (by kernel_rfl) (by kernel_rfl) (by kernel_rfl) ?b251 (Or.inl ⟨?c251, ?d251⟩) (by assumption) ?f251
                    case a251 => (simp only [gA, gB, gC]; rfl)
                    case b251 => exact fun _ _ _ h => h
                    case c251 => rfl
                    case d251 => (intro w z; (try dsimp only at z); go_simp; try with_reducible rfl)
                    (try simp only [Act.put, sA, sB, sC])
                    by_cases h8 : sp ≤ 1099511627776
                    · skip
                      refine wpAnyH_take (i := 58) (oi := ?e252) (v := ?v252) ?a252 (by kernel_rfl) (by kernel_rfl) (by kernel_rfl) ?b252 (Or.inl ⟨?c252, ?d252⟩) (by assumption) ?f252
                      case a252 => (simp only [gA, gB, gC]; rfl)
                      case b252 => exact fun _ _ _ h => h
                      case c252 => rfl
                      case d252 => (intro w z; (try dsimp only at z); go_simp; try with_reducible rfl)
                      (try simp only [Act.put, sA, sB, sC])
                      refine wpAnyH_take (i := 59) (oi := ?e253) (v := ?v253) ?a253 (by kernel_rfl) (by kernel_rfl) (by kernel_rfl) ?b253 (Or.inl ⟨?c253, ?d253⟩) (by assumption) ?f253
                      case a253 => (simp only [gA, gB, gC]; rfl)
                      case b253 => exact fun _ _ _ h => h
                      case c253 => rfl
                      case d253 => (intro w z; (try dsimp only at z); go_simp; try with_reducible rfl)
                      (try simp only [Act.put, sA, sB, sC])
                      refine wpAnyH_take (i := 60) (oi := ?e254) (v := ?v254) ?a254 (by kernel_rfl) (by kernel_rfl) (by kernel_rfl) ?b254 (Or.inl ⟨?c254, ?d254⟩) (by assumption) ?f254
                      case a254 => (simp only [gA, gB, gC]; rfl)
                      case b254 => exact fun _ _ _ h => h
                      case c254 => rfl
                      case d254 => (intro w z; (try dsimp only at z); go_simp; try with_reducible rfl)
                      (try simp only [Act.put, sA, sB, sC])
                      refine wpAnyH_done (by kernel_rfl) ?_ _
                      go_wp2
                      go_ret
                      exact ⟨ret_bool (by first | (simp [*]; done) | (simp [*]; omega)), bel2 HB0.out (by first | exact HBr2.out | exact HBr1.out | exact HBr0.out)⟩
                    · skip
                      refine wpAnyH_take (i := 58) (oi := ?e255) (v := ?v255) ?a255 (by kernel_rfl) (by kernel_rfl) (by kernel_rfl) ?b255 (Or.inl ⟨?c255, ?d255⟩) (by assumption) ?f255
                      case a255 => (simp only [gA, gB, gC]; rfl)
                      case b255 => exact fun _ _ _ h => h
                      case c255 => rfl
                      case d255 => (intro w z; (try dsimp only at z); go_simp; try with_reducible rfl)
                      (try simp only [Act.put, sA, sB, sC])
                      refine wpAnyH_take (i := 59) (oi := ?e256) (v := ?v256) ?a256 (by kernel_rfl) (by kernel_rfl) (by kernel_rfl) ?b256 (Or.inl ⟨?c256, ?d256⟩) (by assumption) ?f256
                      case a256 => (simp only [gA, gB, gC]; rfl)
                      case b256 => exact fun _ _ _ h => h
                      case c256 => rfl
                      case d256 => (intro w z; (try dsimp only at z); go_simp; try with_reducible rfl)
                      (try simp only [Act.put, sA, sB, sC])
                      refine wpAnyH_take (i := 60) (oi := ?e257) (v := ?v257) ?a257 (by kernel_rfl) (by kernel_rfl) (by kernel_rfl) ?b257 (Or.inl ⟨?c257, ?d257⟩) (by assumption) ?f257
                      case a257 => (simp only [gA, gB, gC]; rfl)
                      case b257 => exact fun _ _ _ h => h
                      case c257 => rfl
                      case d257 => (intro w z; (try dsimp only at z); go_simp; try with_reducible rfl)
                      (try simp only [Act.put, sA, sB, sC])
                      refine wpAnyH_done (by kernel_rfl) ?_ _
                      go_wp2
                      go_ret
                      exact ⟨ret_bool (by first | (simp [*]; done) | (simp [*]; omega)), bel2 HB0.out (by first | exact HBr2.out | exact HBr1.out | exact HBr0.out)⟩
                  · skip
                    refine wpAnyH_take (i := 53) (oi := ?e258) (v := ?v258) ?a258 (by kernel_rfl) (by kernel_rfl) (by kernel_rfl) ?b258 (Or.inl ⟨?c258, ?d258⟩) (by assumption) ?f258
                    case a258 => (simp only [gA, gB, gC]; rfl)
                    case b258 => exact fun _ _ _ h => h
                    case c258 => rfl
                    case d258 => (intro w z; (try dsimp only at z); go_simp; try with_reducible rfl)
                    (try simp only [Act.put, sA, sB, sC])
                    refine wpAnyH_take (i := 54) (oi := ?e259) (v := ?v259) ?a259 (by kernel_rfl) (by kernel_rfl) (by kernel_rfl) ?b259 (Or.inl ⟨?c259, ?d259⟩) (by assumption) ?f259
                    case a259 => (simp only [gA, gB, gC]; rfl)
                    case b259 => exact fun _ _ _ h => h
                    case c259 => rfl
                    case d259 => (intro w z; (try dsimp only at z); go_simp; try with_reducible rfl)
                    (try simp only [Act.put, sA, sB, sC])
                    refine wpAnyH_take (i := 55) (oi := ?e260) (v := ?v260) ?a260 (by kernel_rfl) (by kernel_rfl) (by kernel_rfl) ?b260 (Or.inl ⟨?c260, ?d260⟩) (by assumption) ?f260
                    case a260 => (simp only [gA, gB, gC]; rfl)
                    case b260 => exact fun _ _ _ h => h
                    case c260 => rfl
                    case d260 => (intro w z; (try dsimp only at z); go_simp; try with_reducible rfl)
                    (try simp only [Act.put, sA, sB, sC])
                    refine wpAnyH_take (i := 56) (oi := ?e261) (v := undef) ?a261 (by kernel_rfl) (by kernel_rfl) (by kernel_rfl) ?b261 (Or.inr ⟨?c261, rfl⟩) (by assumption) ?f261
                    case a261 => (simp only [gA, gB, gC]; rfl)
                    case b261 => exact fun _ _ _ h => h
                    case c261 => rfl
                    (try simp only [Act.put, sA, sB, sC])
                    refine wpAnyH_take (i := 57) (oi := ?e262) (v := undef) ?a262 (by kernel_rfl) (by kernel_rfl) (by kernel_rfl) ?b262 (Or.inr ⟨?c262, rfl⟩) (by assumption) ?f262
                    case a262 => (simp only [gA, gB, gC]; rfl)
                    case b262 => exact fun _ _ _ h => h
                    case c262 => rfl
                    (try simp only [Act.put, sA, sB, sC])
                    refine wpAnyH_take (i := 58) (oi := ?e263) (v := undef) ?a263 (by kernel_rfl) (by kernel_rfl) (by kernel_rfl) ?b263 (Or.inr ⟨?c263, rfl⟩) (by assumption) ?f263
                    case a263 => (simp only [gA, gB, gC]; rfl)
                    case b263 => exact fun _ _ _ h => h
                    case c263 => rfl
                    (try simp only [Act.put, sA, sB, sC])
                    refine wpAnyH_take (i := 59) (oi := ?e264) (v := ?v264) ?a264 (by kernel_rfl) (by kernel_rfl) (by kernel_rfl) ?b264 (Or.inl ⟨?c264, ?d264⟩) (by assumption) ?f264
                    case a264 => (simp only [gA, gB, gC]; rfl)
                    case b264 => exact fun _ _ _ h => h
                    case c264 => rfl
                    case d264 => (intro w z; (try dsimp only at z); go_simp; try with_reducible rfl)
                    (try simp only [Act.put, sA, sB, sC])
                    refine wpAnyH_take (i := 60) (oi := ?e265) (v := ?v265) ?a265 (by kernel_rfl) (by kernel_rfl) (by kernel_rfl) ?b265 (Or.inl ⟨?c265, ?d265⟩) (by assumption) ?f265
                    case a265 => (simp only [gA, gB, gC]; rfl)
                    case b265 => exact fun _ _ _ h => h
                    case c265 => rfl
                    case d265 => (intro w z; (try dsimp only at z); go_simp; try with_reducible rfl)
                    (try simp only [Act.put, sA, sB, sC])
                    refine wpAnyH_done (by kernel_rfl) ?_ _
                    go_wp2
                    go_ret
                    exact ⟨ret_bool (by first | (simp [*]; done) | (simp [*]; omega)), bel2 HB0.out (by first | exact HBr2.out | exact HBr1.out | exact HBr0.out)⟩
                · skip
                  refine wpAnyH_take (i := 46) (oi := ?e266) (v := ?v266) ?a266 (by kernel_rfl) (by kernel_rfl) (by kernel_rfl) ?b266 (Or.inl ⟨?c266, ?d266⟩) (by assumption) ?f266
                  case a266 => (simp only [gA, gB, gC]; rfl)
                  case b266 => exact fun _ _ _ h => h
                  case c266 => rfl
                  case d266 => (intro w z; (try dsimp only at z); go_simp; try with_reducible rfl)
                  (try simp only [Act.put, sA, sB, sC])
                  refine wpAnyH_take (i := 47) (oi := ?e267) (v := ?v267) ?a267 (by kernel_rfl) (by kernel_rfl) (by kernel_rfl) ?b267 (Or.inl ⟨?c267, ?d267⟩) (by assumption) ?f267
                  case a267 => (simp only [gA, gB, gC]; rfl)
                  case b267 => exact fun _ _ _ h => h
                  case c267 => rfl
                  case d267 => (intro w z; (try dsimp only at z); go_simp; try with_reducible rfl)
                  (try simp only [Act.put, sA, sB, sC])
                  refine wpAnyH_take (i := 48) (oi := ?e268) (v := ?v268) ?a268 (by kernel_rfl) (by kernel_rfl) (by kernel_rfl) ?b268 (Or.inl ⟨?c268, ?d268⟩) (by assumption) ?f268
                  case a268 => (simp only [gA, gB, gC]; rfl)
                  case b268 => exact fun _ _ _ h => h
                  case c268 => rfl
                  case d268 => (intro w z; (try dsimp only at z); go_simp; try with_reducible rfl)
                  (try simp only [Act.put, sA, sB, sC])
                  refine wpAnyH_take (i := 49) (oi := ?e269) (v := ?v269) ?a269 (by kernel_rfl) (by kernel_rfl) (by kernel_rfl) ?b269 (Or.inl ⟨?c269, ?d269⟩) (by assumption) ?f269
                  case a269 => (simp only [gA, gB, gC]; rfl)
                  case b269 => exact fun _ _ _ h => h
                  case c269 => rfl
                  case d269 => (intro w z; (try dsimp only at z); go_simp; try with_reducible rfl)
                  (try simp only [Act.put, sA, sB, sC])
                  refine wpAnyH_take (i := 50) (oi := ?e270) (v := ?v270) ?a270 (by kernel_rfl) (by kernel_rfl) (by kernel_rfl) ?b270 (Or.inl ⟨?c270, ?d270⟩) (by assumption) ?f270
                  case a270 => (simp only [gA, gB, gC]; rfl)
                  case b270 => exact fun _ _ _ h => h
                  case c270 => rfl
                  case d270 => (intro w z; (try dsimp only at z); go_simp; try with_reducible rfl)
                  (try simp only [Act.put, sA, sB, sC])
                  refine wpAnyH_take (i := 51) (oi := ?e271) (v := undef) ?a271 (by kernel_rfl) (by kernel_rfl) (by kernel_rfl) ?b271 (Or.inr ⟨?c271, rfl⟩) (by assumption) ?f271
                  case a271 => (simp only [gA, gB, gC]; rfl)
                  case b271 => exact fun _ _ _ h => h
                  case c271 => rfl
                  (try simp only [Act.put, sA, sB, sC])
                  refine wpAnyH_take (i := 52) (oi := ?e272) (v := undef) ?a272 (by kernel_rfl) (by kernel_rfl) (by kernel_rfl) ?b272 (Or.inr ⟨?c272, rfl⟩) (by assumption) ?f272
                  case a272 => (simp only [gA, gB, gC]; rfl)
                  case b272 => exact fun _ _ _ h => h
                  case c272 => rfl
                  (try simp only [Act.put, sA, sB, sC])
                  refine wpAnyH_take (i := 53) (oi := ?e273) (v := undef) ?a273 (by kernel_rfl) (by kernel_rfl) (by kernel_rfl) ?b273 (Or.inr ⟨?c273, rfl⟩) (by assumption) ?f273
                  case a273 => (simp only [gA, gB, gC]; rfl)
                  case b273 => exact fun _ _ _ h => h
                  case c273 => rfl
                  (try simp only [Act.put, sA, sB, sC])
                  refine wpAnyH_take (i := 54) (oi := ?e274) (v := ?v274) ?a274 (by kernel_rfl) (by kernel_rfl) (by kernel_rfl) ?b274 (Or.inl ⟨?c274, ?d274⟩) (by assumption) ?f274
                  case a274 => (simp only [gA, gB, gC]; rfl)
                  case b274 => exact fun _ _ _ h => h
                  case c274 => rfl
                  case d274 => (intro w z; (try dsimp only at z); go_simp; try with_reducible rfl)
                  (try simp only [Act.put, sA, sB, sC])
                  refine wpAnyH_take (i := 55) (oi := ?e275) (v := ?v275) ?a275 (by kernel_rfl) (by kernel_rfl) (by kernel_rfl) ?b275 (Or.inl ⟨?c275, ?d275⟩) (by assumption) ?f275
                  case a275 => (simp only [gA, gB, gC]; rfl)
                  case b275 => exact fun _ _ _ h => h
                  case c275 => rfl
                  case d275 => (intro w z; (try dsimp only at z); go_simp; try with_reducible rfl)
                  (try simp only [Act.put, sA, sB, sC])
                  refine wpAnyH_take (i := 56) (oi := ?e276) (v := undef) ?a276 (by kernel_rfl) (by kernel_rfl) (by kernel_rfl) ?b276 (Or.inr ⟨?c276, rfl⟩) (by assumption) ?f276
                  case a276 => (simp only [gA, gB, gC]; rfl)
                  case b276 => exact fun _ _ _ h => h
                  case c276 => rfl
                  (try simp only [Act.put, sA, sB, sC])
                  refine wpAnyH_take (i := 57) (oi := ?e277) (v := undef) ?a277 (by kernel_rfl) (by kernel_rfl) (by kernel_rfl) ?b277 (Or.inr ⟨?c277, rfl⟩) (by assumption) ?f277
                  case a277 => (simp only [gA, gB, gC]; rfl)
                  case b277 => exact fun _ _ _ h => h
                  case c277 => rfl
                  (try simp only [Act.put, sA, sB, sC])
                  refine wpAnyH_take (i := 58) (oi := ?e278) (v := undef) ?a278 (by kernel_rfl) (by kernel_rfl) (by kernel_rfl) ?b278 (Or.inr ⟨?c278, rfl⟩) (by assumption) ?f278
                  case a278 => (simp only [gA, gB, gC]; rfl)
                  case b278 => exact fun _ _ _ h => h
                  case c278 => rfl
                  (try simp only [Act.put, sA, sB, sC])
                  refine wpAnyH_take (i := 59) (oi := ?e279) (v := ?v279) ?a279 (by kernel_rfl) (by kernel_rfl) (by kernel_rfl) ?b279 (Or.inl ⟨?c279, ?d279⟩) (by assumption) ?f279
                  case a279 => (simp only [gA, gB, gC]; rfl)
                  case b279 => exact fun _ _ _ h => h
                  case c279 => rfl
                  case d279 => (intro w z; (try dsimp only at z); go_simp; try with_reducible rfl)
                  (try simp only [Act.put, sA, sB, sC])
                  refine wpAnyH_take (i := 60) (oi := ?e280) (v := ?v280) ?a280 (by kernel_rfl) (by kernel_rfl) (by kernel_rfl) ?b280 (Or.inl ⟨?c280, ?d280⟩) (by assumption) ?f280
                  case a280 => (simp only [gA, gB, gC]; rfl)
                  case b280 => exact fun _ _ _ h => h
                  case c280 => rfl
                  case d280 => (intro w z; (try dsimp only at z); go_simp; try with_reducible rfl)
                  (try simp only [Act.put, sA, sB, sC])
                  refine wpAnyH_done (by kernel_rfl) ?_ _
                  go_wp2
                  go_ret
                  exact ⟨ret_bool (by first | (simp [*]; done) | (simp [*]; omega)), bel2 HB0.out (by first | exact HBr2.out | exact HBr1.out | exact HBr0.out)⟩
        · skip
          refine wpAnyH_take (i := 21) (oi := ?e281) (v := ?v281) ?a281 (by kernel_rfl) (by kernel_rfl) (by kernel_rfl) ?b281 (Or.inl ⟨?c281, ?d281⟩) (by assumption) ?f281
          case a281 => (simp only [gA, gB, gC]; rfl)
          case b281 => exact fun _ _ _ h => h
          case c281 => rfl
          case d281 => (intro w z; (try dsimp only at z); go_simp; try with_reducible rfl)
          (try simp only [Act.put, sA, sB, sC])
          refine wpAnyH_take (i := 22) (oi := ?e282) (v := ?v282) ?a282 (by kernel_rfl) (by kernel_rfl) (by kernel_rfl) ?b282 (Or.inl ⟨?c282, ?d282⟩) (by assumption) ?f282
          case a282 => (simp only [gA, gB, gC]; rfl)
          case b282 => exact fun _ _ _ h => h
          case c282 => rfl
          case d282 => (intro w z; (try dsimp only at z); go_simp; try with_reducible rfl)
          (try simp only [Act.put, sA, sB, sC])
          refine wpAnyH_take (i := 23) (oi := ?e283) (v := ?v283) ?a283 (by kernel_rfl) (by kernel_rfl) (by kernel_rfl) ?b283 (Or.inl ⟨?c283, ?d283⟩) (by assumption) ?f283
          case a283 => (simp only [gA, gB, gC]; rfl)
          case b283 => exact fun _ _ _ h => h
          case c283 => rfl
          case d283 => (intro w z; (try dsimp only at z); go_simp; try with_reducible rfl)
          (try simp only [Act.put, sA, sB, sC])
          refine wpAnyH_take (i := 24) (oi := ?e284) (v := undef) ?a284 (by kernel_rfl) (by kernel_rfl) (by kernel_rfl) ?b284 (Or.inr ⟨?c284, rfl⟩) (by assumption) ?f284
          case a284 => (simp only [gA, gB, gC]; rfl)
          case b284 => exact fun _ _ _ h => h
          case c284 => rfl
          (try simp only [Act.put, sA, sB, sC])
          refine wpAnyH_take (i := 25) (oi := ?e285) (v := undef) ?a285 (by kernel_rfl) (by kernel_rfl) (by kernel_rfl) ?b285 (Or.inr ⟨?c285, rfl⟩) (by assumption) ?f285
          case a285 => (simp only [gA, gB, gC]; rfl)
          case b285 => exact fun _ _ _ h => h
          case c285 => rfl
          (try simp only [Act.put, sA, sB, sC])
          refine wpAnyH_take (i := 26) (oi := ?e286) (v := undef) ?a286 (by kernel_rfl) (by kernel_rfl) (by kernel_rfl) ?b286 (Or.inr ⟨?c286, rfl⟩) (by assumption) ?f286
          case a286 => (simp only [gA, gB, gC]; rfl)
          case b286 => exact fun _ _ _ h => h
          case c286 => rfl
          (try simp only [Act.put, sA, sB, sC])
          refine wpAnyH_take (i := 27) (oi := ?e287) (v := undef) ?a287 (by kernel_rfl) (by kernel_rfl) (by kernel_rfl) ?b287 (Or.inr ⟨?c287, rfl⟩) (by assumption) ?f287
          case a287 => (simp only [gA, gB, gC]; rfl)
          case b287 => exact fun _ _ _ h => h
          case c287 => rfl
          (try simp only [Act.put, sA, sB, sC])
          refine wpAnyH_take (i := 28) (oi := ?e288) (v := undef) ?a288 (by kernel_rfl) (by kernel_rfl) (by kernel_rfl) ?b288 (Or.inr ⟨?c288, rfl⟩) (by assumption) ?f288
          case a288 => (simp only [gA, gB, gC]; rfl)
          case b288 => exact fun _ _ _ h => h
          case c288 => rfl
          (try simp only [Act.put, sA, sB, sC])
          refine wpAnyH_take (i := 29) (oi := ?e289) (v := ?v289) ?a289 (by kernel_rfl) (by kernel_rfl) (by kernel_rfl) ?b289 (Or.inl ⟨?c289, ?d289⟩) (by assumption) ?f289
          case a289 => (simp only [gA, gB, gC]; rfl)
          case b289 => exact fun _ _ _ h => h
          case c289 => rfl
          case d289 => (intro w z; (try dsimp only at z); go_simp; try with_reducible rfl)
          (try simp only [Act.put, sA, sB, sC])
          refine wpAnyH_take (i := 30) (oi := ?e290) (v := ?v290) ?a290 (by kernel_rfl) (by kernel_rfl) (by kernel_rfl) ?b290 (Or.inl ⟨?c290, ?d290⟩) (by assumption) ?f290
          case a290 => (simp only [gA, gB, gC]; rfl)
          case b290 => exact fun _ _ _ h => h
          case c290 => rfl
          case d290 => (intro w z; (try dsimp only at z); go_simp; try with_reducible rfl)
          (try simp only [Act.put, sA, sB, sC])
          refine wpAnyH_take (i := 31) (oi := ?e291) (v := undef) ?a291 (by kernel_rfl) (by kernel_rfl) (by kernel_rfl) ?b291 (Or.inr ⟨?c291, rfl⟩) (by assumption) ?f291
          case a291 => (simp only [gA, gB, gC]; rfl)
          case b291 => exact fun _ _ _ h => h
          case c291 => rfl
          (try simp only [Act.put, sA, sB, sC])
          refine wpAnyH_take (i := 32) (oi := ?e292) (v := undef) ?a292 (by kernel_rfl) (by kernel_rfl) (by kernel_rfl) ?b292 (Or.inr ⟨?c292, rfl⟩) (by assumption) ?f292
          case a292 => (simp only [gA, gB, gC]; rfl)
          case b292 => exact fun _ _ _ h => h
          case c292 => rfl
          (try simp only [Act.put, sA, sB, sC])
          refine wpAnyH_take (i := 33) (oi := ?e293) (v := undef) ?a293 (by kernel_rfl) (by kernel_rfl) (by kernel_rfl) ?b293 (Or.inr ⟨?c293, rfl⟩) (by assumption) ?f293
          case a293 => (simp only [gA, gB, gC]; rfl)
          case b293 => exact fun _ _ _ h => h
          case c293 => rfl
          (try simp only [Act.put, sA, sB, sC])
          refine wpAnyH_take (i := 34) (oi := ?e294) (v := undef) ?a294 (by kernel_rfl) (by kernel_rfl) (by kernel_rfl) ?b294 (Or.inr ⟨?c294, rfl⟩) (by assumption) ?f294
          case a294 => (simp only [gA, gB, gC]; rfl)
          case b294 => exact fun _ _ _ h => h
          case c294 => rfl
          (try simp only [Act.put, sA, sB, sC])
          refine wpAnyH_take (i := 35) (oi := ?e295) (v := undef) ?a295 (by kernel_rfl) (by kernel_rfl) (by kernel_rfl) ?b295 (Or.inr ⟨?c295, rfl⟩) (by assumption) ?f295
          case a295 => (simp only [gA, gB, gC]; rfl)
          case b295 => exact fun _ _ _ h => h
          case c295 => rfl
          (try simp only [Act.put, sA, sB, sC])
          refine wpAnyH_take (i := 36) (oi := ?e296) (v := undef) ?a296 (by kernel_rfl) (by kernel_rfl) (by kernel_rfl) ?b296 (Or.inr ⟨?c296, rfl⟩) (by assumption) ?f296
          case a296 => (simp only [gA, gB, gC]; rfl)
          case b296 => exact fun _ _ _ h => h
          case c296 => rfl
          (try simp only [Act.put, sA, sB, sC])
          refine wpAnyH_take (i := 37) (oi := ?e297) (v := undef) ?a297 (by kernel_rfl) (by kernel_rfl) (by kernel_rfl) ?b297 (Or.inr ⟨?c297, rfl⟩) (by assumption) ?f297
          case a297 => (simp only [gA, gB, gC]; rfl)
          case b297 => exact fun _ _ _ h => h
          case c297 => rfl
          (try simp only [Act.put, sA, sB, sC])
          refine wpAnyH_take (i := 38) (oi := ?e298) (v := undef) ?a298 (by kernel_rfl) (by kernel_rfl) (by kernel_rfl) ?b298 (Or.inr ⟨?c298, rfl⟩) (by assumption) ?f298
          case a298 => (simp only [gA, gB, gC]; rfl)
          case b298 => exact fun _ _ _ h => h
          case c298 => rfl
          (try simp only [Act.put, sA, sB, sC])
          refine wpAnyH_take (i := 39) (oi := ?e299) (v := undef) ?a299 (by kernel_rfl) (by kernel_rfl) (by kernel_rfl) ?b299 (Or.inr ⟨?c299, rfl⟩) (by assumption) ?f299
          case a299 => (simp only [gA, gB, gC]; rfl)
          case b299 => exact fun _ _ _ h => h
          case c299 => rfl
          (try simp only [Act.put, sA, sB, sC])
          refine wpAnyH_take (i := 40) (oi := ?e300) (v := ?v300) ?a300 (by kernel_rfl) (by kernel_rfl) (by kernel_rfl) ?b300 (Or.inl ⟨?c300, ?d300⟩) (by assumption) ?f300
          case a300 => (simp only [gA, gB, gC]; rfl)
          case b300 => exact fun _ _ _ h => h
          case c300 => rfl
          case d300 => (intro w z; (try dsimp only at z); go_simp; try with_reducible rfl)
          (try simp only [Act.put, sA, sB, sC])
          refine wpAnyH_take (i := 41) (oi := ?e301) (v := ?v301) ?a301 (by kernel_rfl) (by kernel_rfl) (by kernel_rfl) ?b301 (Or.inl ⟨?c301, ?d301⟩) (by assumption) ?f301
          case a301 => (simp only [gA, gB, gC]; rfl)
          case b301 => exact fun _ _ _ h => h
          case c301 => rfl
          case d301 => (intro w z; (try dsimp only at z); go_simp; try with_reducible rfl)
          (try simp only [Act.put, sA, sB, sC])
          refine wpAnyH_take (i := 42) (oi := ?e302) (v := undef) ?a302 (by kernel_rfl) (by kernel_rfl) (by kernel_rfl) ?b302 (Or.inr ⟨?c302, rfl⟩) (by assumption) ?f302
          case a302 => (simp only [gA, gB, gC]; rfl)
          case b302 => exact fun _ _ _ h => h
          case c302 => rfl
          (try simp only [Act.put, sA, sB, sC])
          refine wpAnyH_take (i := 43) (oi := ?e303) (v := undef) ?a303 (by kernel_rfl) (by kernel_rfl) (by kernel_rfl) ?b303 (Or.inr ⟨?c303, rfl⟩) (by assumption) ?f303
          case a303 => (simp only [gA, gB, gC]; rfl)
          case b303 => exact fun _ _ _ h => h
          case c303 => rfl
          (try simp only [Act.put, sA, sB, sC])
          refine wpAnyH_take (i := 44) (oi := ?e304) (v := undef) ?a304 (by kernel_rfl) (by kernel_rfl) (by kernel_rfl) ?b304 (Or.inr ⟨?c304, rfl⟩) (by assumption) ?f304
          case a304 => (simp only [gA, gB, gC]; rfl)
          case b304 => exact fun _ _ _ h => h
          case c304 => rfl
          (try simp only [Act.put, sA, sB, sC])
          refine wpAnyH_take (i := 45) (oi := ?e305) (v := undef) ?a305 (by kernel_rfl) (by kernel_rfl) (by kernel_rfl) ?b305 (Or.inr ⟨?c305, rfl⟩) (by assumption) ?f305
          case a305 => (simp only [gA, gB, gC]; rfl)
          case b305 => exact fun _ _ _ h => h
          case c305 => rfl
          (try simp only [Act.put, sA, sB, sC])
          refine wpAnyH_take (i := 46) (oi := ?e306) (v := undef) ?a306 (by kernel_rfl) (by kernel_rfl) (by kernel_rfl) ?b306 (Or.inr ⟨?c306, rfl⟩) (by assumption) ?f306
          case a306 => (simp only [gA, gB, gC]; rfl)
          case b306 => exact fun _ _ _ h => h
          case c306 => rfl
          (try simp only [Act.put, sA, sB, sC])
          refine wpAnyH_take (i := 47) (oi := ?e307) (v := undef) ?a307 (by kernel_rfl) (by kernel_rfl) (by kernel_rfl) ?b307 (Or.inr ⟨?c307, rfl⟩) (by assumption) ?f307
          case a307 => (simp only [gA, gB, gC]; rfl)
          case b307 => exact fun _ _ _ h => h
          case c307 => rfl
          (try simp only [Act.put, sA, sB, sC])
          refine wpAnyH_take (i := 48) (oi := ?e308) (v := undef) ?a308 (by kernel_rfl) (by kernel_rfl) (by kernel_rfl) ?b308 (Or.inr ⟨?c308, rfl⟩) (by assumption) ?f308
          case a308 => (simp only [gA, gB, gC]; rfl)
          case b308 => exact fun _ _ _ h => h
          case c308 => rfl
          (try simp only [Act.put, sA, sB, sC])
          refine wpAnyH_take (i := 49) (oi := ?e309) (v := ?v309) ?a309 (by kernel_rfl) (by kernel_rfl) (by kernel_rfl) ?b309 (Or.inl ⟨?c309, ?d309⟩) (by assumption) ?f309
          case a309 => (simp only [gA, gB, gC]; rfl)
          case b309 => exact fun _ _ _ h => h
          case c309 => rfl
          case d309 => (intro w z; (try dsimp only at z); go_simp; try with_reducible rfl)
          (try simp only [Act.put, sA, sB, sC])
          refine wpAnyH_take (i := 50) (oi := ?e310) (v := ?v310) ?a310 (by kernel_rfl) (by kernel_rfl) (by kernel_rfl) ?b310 (Or.inl ⟨?c310, ?d310⟩) (by assumption) ?f310
          case a310 => (simp only [gA, gB, gC]; rfl)
          case b310 => exact fun _ _ _ h => h
          case c310 => rfl
          case d310 => (intro w z; (try dsimp only at z); go_simp; try with_reducible rfl)
          (try simp only [Act.put, sA, sB, sC])
          refine wpAnyH_take (i := 51) (oi := ?e311) (v := undef) ?a311 (by kernel_rfl) (by kernel_rfl) (by kernel_rfl) ?b311 (Or.inr ⟨?c311, rfl⟩) (by assumption) ?f311
          case a311 => (simp only [gA, gB, gC]; rfl)
          case b311 => exact fun _ _ _ h => h
          case c311 => rfl
          (try simp only [Act.put, sA, sB, sC])
          refine wpAnyH_take (i := 52) (oi := ?e312) (v := undef) ?a312 (by kernel_rfl) (by kernel_rfl) (by kernel_rfl) ?b312 (Or.inr ⟨?c312, rfl⟩) (by assumption) ?f312
          case a312 => (simp only [gA, gB, gC]; rfl)
          case b312 => exact fun _ _ _ h => h
          case c312 => rfl
          (try simp only [Act.put, sA, sB, sC])
          refine wpAnyH_take (i := 53) (oi := ?e313) (v := undef) ?a313 (by kernel_rfl) (by kernel_rfl) (by kernel_rfl) ?b313 (Or.inr ⟨?c313, rfl⟩) (by assumption) ?f313
          case a313 => (simp only [gA, gB, gC]; rfl)
          case b313 => exact fun _ _ _ h => h
          case c313 => rfl
          (try simp only [Act.put, sA, sB, sC])
          refine wpAnyH_take (i := 54) (oi := ?e314) (v := ?v314) ?a314 (by kernel_rfl) (by kernel_rfl) (by kernel_rfl) ?b314 (Or.inl ⟨?c314, ?d314⟩) (by assumption) ?f314
          case a314 => (simp only [gA, gB, gC]; rfl)
          case b314 => exact fun _ _ _ h => h
          case c314 => rfl
          case d314 => (intro w z; (try dsimp only at z); go_simp; try with_reducible rfl)
          (try simp only [Act.put, sA, sB, sC])
          refine wpAnyH_take (i := 55) (oi := ?e315) (v := ?v315) ?a315 (by kernel_rfl) (by kernel_rfl) (by kernel_rfl) ?b315 (Or.inl ⟨?c315, ?d315⟩) (by assumption) ?f315
          case a315 => (simp only [gA, gB, gC]; rfl)
          case b315 => exact fun _ _ _ h => h
          case c315 => rfl
          case d315 => (intro w z; (try dsimp only at z); go_simp; try with_reducible rfl)
          (try simp only [Act.put, sA, sB, sC])
          refine wpAnyH_take (i := 56) (oi := ?e316) (v := undef) ?a316 (by kernel_rfl) (by kernel_rfl) (by kernel_rfl) ?b316 (Or.inr ⟨?c316, rfl⟩) (by assumption) ?f316
          case a316 => (simp only [gA, gB, gC]; rfl)
          case b316 => exact fun _ _ _ h => h
          case c316 => rfl
          (try simp only [Act.put, sA, sB, sC])
          refine wpAnyH_take (i := 57) (oi := ?e317) (v := undef) ?a317 (by kernel_rfl) (by kernel_rfl) (by kernel_rfl) ?b317 (Or.inr ⟨?c317, rfl⟩) (by assumption) ?f317
          case a317 => (simp only [gA, gB, gC]; rfl)
          case b317 => exact fun _ _ _ h => h
          case c317 => rfl
          (try simp only [Act.put, sA, sB, sC])
          refine wpAnyH_take (i := 58) (oi := ?e318) (v := undef) ?a318 (by kernel_rfl) (by kernel_rfl) (by kernel_rfl) ?b318 (Or.inr ⟨?c318, rfl⟩) (by assumption) ?f318
          case a318 => (simp only [gA, gB, gC]; rfl)
          case b318 => exact fun _ _ _ h => h
          case c318 => rfl
          (try simp only [Act.put, sA, sB, sC])
          refine wpAnyH_take (i := 59) (oi := ?e319) (v := ?v319) ?a319 (by kernel_rfl) (by kernel_rfl) (by kernel_rfl) ?b319 (Or.inl ⟨?c319, ?d319⟩) (by assumption) ?f319
          case a319 => (simp only [gA, gB, gC]; rfl)
          case b319 => exact fun _ _ _ h => h
          case c319 => rfl
          case d319 => (intro w z; (try dsimp only at z); go_simp; try with_reducible rfl)
          (try simp only [Act.put, sA, sB, sC])
          refine wpAnyH_take (i := 60) (oi := ?e320) (v := ?v320) ?a320 (by kernel_rfl) (by kernel_rfl) (by kernel_rfl) ?b320 (Or.inl ⟨?c320, ?d320⟩) (by assumption) ?f320
          case a320 => (simp only [gA, gB, gC]; rfl)
          case b320 => exact fun _ _ _ h => h
          case c320 => rfl
          case d320 => (intro w z; (try dsimp only at z); go_simp; try with_reducible rfl)
          (try simp only [Act.put, sA, sB, sC])
          refine wpAnyH_done (by kernel_rfl) ?_ _
          go_wp2
          go_ret
          exact ⟨ret_bool (by first | (simp [*]; done) | (simp [*]; omega)), bel2 HB0.out (by first | exact HBr2.out | exact HBr1.out | exact HBr0.out)⟩
      · skip
        refine wpAnyH_take (i := 13) (oi := ?e321) (v := ?v321) ?a321 (by kernel_rfl) (by kernel_rfl) (by kernel_rfl) ?b321 (Or.inl ⟨?c321, ?d321⟩) (by assumption) ?f321
        case a321 => (simp only [gA, gB, gC]; rfl)
        case b321 => exact fun _ _ _ h => h
        case c321 => rfl
        case d321 => (intro w z; (try dsimp only at z); go_simp; try with_reducible rfl)
        (try simp only [Act.put, sA, sB, sC])
        refine wpAnyH_take (i := 14) (oi := ?e322) (v := ?v322) ?a322 (by kernel_rfl) (by kernel_rfl) (by kernel_rfl) ?b322 (Or.inl ⟨?c322, ?d322⟩) (by assumption) ?f322
        case a322 => (simp only [gA, gB, gC]; rfl)
        case b322 => exact fun _ _ _ h => h
        case c322 => rfl
        case d322 => (intro w z; (try dsimp only at z); go_simp; try with_reducible rfl)
        (try simp only [Act.put, sA, sB, sC])
        refine wpAnyH_take (i := 15) (oi := ?e323) (v := ?v323) ?a323 (by kernel_rfl) (by kernel_rfl) (by kernel_rfl) ?b323 (Or.inl ⟨?c323, ?d323⟩) (by assumption) ?f323
        case a323 => (simp only [gA, gB, gC]; rfl)
        case b323 => exact fun _ _ _ h => h
        case c323 => rfl
        case d323 => (intro w z; (try dsimp only at z); go_simp; try with_reducible rfl)
        (try simp only [Act.put, sA, sB, sC])
        refine wpAnyH_take (i := 16) (oi := ?e324) (v := undef) ?a324 (by kernel_rfl) (by kernel_rfl) (by kernel_rfl) ?b324 (Or.inr ⟨?c324, rfl⟩) (by assumption) ?f324
        case a324 => (simp only [gA, gB, gC]; rfl)
        case b324 => exact fun _ _ _ h => h
        case c324 => rfl
        (try simp only [Act.put, sA, sB, sC])
        refine wpAnyH_take (i := 17) (oi := ?e325) (v := undef) ?a325 (by kernel_rfl) (by kernel_rfl) (by kernel_rfl) ?b325 (Or.inr ⟨?c325, rfl⟩) (by assumption) ?f325
        case a325 => (simp only [gA, gB, gC]; rfl)
        case b325 => exact fun _ _ _ h => h
        case c325 => rfl
        (try simp only [Act.put, sA, sB, sC])
        refine wpAnyH_take (i := 18) (oi := ?e326) (v := undef) ?a326 (by kernel_rfl) (by kernel_rfl) (by kernel_rfl) ?b326 (Or.inr ⟨?c326, rfl⟩) (by assumption) ?f326
        case a326 => (simp only [gA, gB, gC]; rfl)
        case b326 => exact fun _ _ _ h => h
        case c326 => rfl
        (try simp only [Act.put, sA, sB, sC])
        refine wpAnyH_take (i := 19) (oi := ?e327) (v := undef) ?a327 (by kernel_rfl) (by kernel_rfl) (by kernel_rfl) ?b327 (Or.inr ⟨?c327, rfl⟩) (by assumption) ?f327
        case a327 => (simp only [gA, gB, gC]; rfl)
        case b327 => exact fun _ _ _ h => h
        case c327 => rfl
        (try simp only [Act.put, sA, sB, sC])
        refine wpAnyH_take (i := 20) (oi := ?e328) (v := undef) ?a328 (by kernel_rfl) (by kernel_rfl) (by kernel_rfl) ?b328 (Or.inr ⟨?c328, rfl⟩) (by assumption) ?f328
        case a328 => (simp only [gA, gB, gC]; rfl)
        case b328 => exact fun _ _ _ h => h
        case c328 => rfl
        (try simp only [Act.put, sA, sB, sC])
        refine wpAnyH_take (i := 21) (oi := ?e329) (v := undef) ?a329 (by kernel_rfl) (by kernel_rfl) (by kernel_rfl) ?b329 (Or.inr ⟨?c329, rfl⟩) (by assumption) ?f329
        case a329 => (simp only [gA, gB, gC]; rfl)
        case b329 => exact fun _ _ _ h => h
        case c329 => rfl
        (try simp only [Act.put, sA, sB, sC])
        refine wpAnyH_take (i := 22) (oi := ?e330) (v := ?v330) ?a330 (by kernel_rfl) (by kernel_rfl) (by kernel_rfl) ?b330 (Or.inl ⟨?c330, ?d330⟩) (by assumption) ?f330
        case a330 => (simp only [gA, gB, gC]; rfl)
        case b330 => exact fun _ _ _ h => h
        case c330 => rfl
        case d330 => (intro w z; (try dsimp only at z); go_simp; try with_reducible rfl)
        (try simp only [Act.put, sA, sB, sC])
        refine wpAnyH_take (i := 23) (oi := ?e331) (v := ?v331) ?a331 (by kernel_rfl) (by kernel_rfl) (by kernel_rfl) ?b331 (Or.inl ⟨?c331, ?d331⟩) (by assumption) ?f331
        case a331 => (simp only [gA, gB, gC]; rfl)
        case b331 => exact fun _ _ _ h => h
        case c331 => rfl
        case d331 => (intro w z; (try dsimp only at z); go_simp; try with_reducible rfl)
        (try simp only [Act.put, sA, sB, sC])
        refine wpAnyH_take (i := 24) (oi := ?e332) (v := undef) ?a332 (by kernel_rfl) (by kernel_rfl) (by kernel_rfl) ?b332 (Or.inr ⟨?c332, rfl⟩) (by assumption) ?f332
        case a332 => (simp only [gA, gB, gC]; rfl)
        case b332 => exact fun _ _ _ h => h
        case c332 => rfl
        (try simp only [Act.put, sA, sB, sC])
        refine wpAnyH_take (i := 25) (oi := ?e333) (v := undef) ?a333 (by kernel_rfl) (by kernel_rfl) (by kernel_rfl) ?b333 (Or.inr ⟨?c333, rfl⟩) (by assumption) ?f333
        case a333 => (simp only [gA, gB, gC]; rfl)
        case b333 => exact fun _ _ _ h => h
        case c333 => rfl
        (try simp only [Act.put, sA, sB, sC])
        refine wpAnyH_take (i := 26) (oi := ?e334) (v := undef) ?a334 (by kernel_rfl) (by kernel_rfl) (by kernel_rfl) ?b334 (Or.inr ⟨?c334, rfl⟩) (by assumption) ?f334
        case a334 => (simp only [gA, gB, gC]; rfl)
        case b334 => exact fun _ _ _ h => h
        case c334 => rfl
        (try simp only [Act.put, sA, sB, sC])
        refine wpAnyH_take (i := 27) (oi := ?e335) (v := undef) ?a335 (by kernel_rfl) (by kernel_rfl) (by kernel_rfl) ?b335 (Or.inr ⟨?c335, rfl⟩) (by assumption) ?f335
        case a335 => (simp only [gA, gB, gC]; rfl)
        case b335 => exact fun _ _ _ h => h
        case c335 => rfl
        (try simp only [Act.put, sA, sB, sC])
        refine wpAnyH_take (i := 28) (oi := ?e336) (v := undef) ?a336 (by kernel_rfl) (by kernel_rfl) (by kernel_rfl) ?b336 (Or.inr ⟨?c336, rfl⟩) (by assumption) ?f336
        case a336 => (simp only [gA, gB, gC]; rfl)
        case b336 => exact fun _ _ _ h => h
        case c336 => rfl
        (try simp only [Act.put, sA, sB, sC])
        refine wpAnyH_take (i := 29) (oi := ?e337) (v := ?v337) ?a337 (by kernel_rfl) (by kernel_rfl) (by kernel_rfl) ?b337 (Or.inl ⟨?c337, ?d337⟩) (by assumption) ?f337
        case a337 => (simp only [gA, gB, gC]; rfl)
        case b337 => exact fun _ _ _ h => h
        case c337 => rfl
        case d337 => (intro w z; (try dsimp only at z); go_simp; try with_reducible rfl)
        (try simp only [Act.put, sA, sB, sC])
        refine wpAnyH_take (i := 30) (oi := ?e338) (v := ?v338) ?a338 (by kernel_rfl) (by kernel_rfl) (by kernel_rfl) ?b338 (Or.inl ⟨?c338, ?d338⟩) (by assumption) ?f338
        case a338 => (simp only [gA, gB, gC]; rfl)
        case b338 => exact fun _ _ _ h => h
        case c338 => rfl
        case d338 => (intro w z; (try dsimp only at z); go_simp; try with_reducible rfl)
        (try simp only [Act.put, sA, sB, sC])
        refine wpAnyH_take (i := 31) (oi := ?e339) (v := undef) ?a339 (by kernel_rfl) (by kernel_rfl) (by kernel_rfl) ?b339 (Or.inr ⟨?c339, rfl⟩) (by assumption) ?f339
        case a339 => (simp only [gA, gB, gC]; rfl)
        case b339 => exact fun _ _ _ h => h
        case c339 => rfl
        (try simp only [Act.put, sA, sB, sC])
        refine wpAnyH_take (i := 32) (oi := ?e340) (v := undef) ?a340 (by kernel_rfl) (by kernel_rfl) (by kernel_rfl) ?b340 (Or.inr ⟨?c340, rfl⟩) (by assumption) ?f340
        case a340 => (simp only [gA, gB, gC]; rfl)
        case b340 => exact fun _ _ _ h => h
        case c340 => rfl
        (try simp only [Act.put, sA, sB, sC])
        refine wpAnyH_take (i := 33) (oi := ?e341) (v := undef) ?a341 (by kernel_rfl) (by kernel_rfl) (by kernel_rfl) ?b341 (Or.inr ⟨?c341, rfl⟩) (by assumption) ?f341
        case a341 => (simp only [gA, gB, gC]; rfl)
        case b341 => exact fun _ _ _ h => h
        case c341 => rfl
        (try simp only [Act.put, sA, sB, sC])
        refine wpAnyH_take (i := 34) (oi := ?e342) (v := undef) ?a342 (by kernel_rfl) (by kernel_rfl) (by kernel_rfl) ?b342 (Or.inr ⟨?c342, rfl⟩) (by assumption) ?f342
        case a342 => (simp only [gA, gB, gC]; rfl)
        case b342 => exact fun _ _ _ h => h
        case c342 => rfl
        (try simp only [Act.put, sA, sB, sC])
        refine wpAnyH_take (i := 35) (oi := ?e343) (v := undef) ?a343 (by kernel_rfl) (by kernel_rfl) (by kernel_rfl) ?b343 (Or.inr ⟨?c343, rfl⟩) (by assumption) ?f343
        case a343 => (simp only [gA, gB, gC]; rfl)
        case b343 => exact fun _ _ _ h => h
        case c343 => rfl
        (try simp only [Act.put, sA, sB, sC])
        refine wpAnyH_take (i := 36) (oi := ?e344) (v := undef) ?a344 (by kernel_rfl) (by kernel_rfl) (by kernel_rfl) ?b344 (Or.inr ⟨?c344, rfl⟩) (by assumption) ?f344
        case a344 => (simp only [gA, gB, gC]; rfl)
        case b344 => exact fun _ _ _ h => h
        case c344 => rfl
        (try simp only [Act.put, sA, sB, sC])
        refine wpAnyH_take (i := 37) (oi := ?e345) (v := undef) ?a345 (by kernel_rfl) (by kernel_rfl) (by kernel_rfl) ?b345 (Or.inr ⟨?c345, rfl⟩) (by assumption) ?f345
        case a345 => (simp only [gA, gB, gC]; rfl)
        case b345 => exact fun _ _ _ h => h
        case c345 => rfl
        (try simp only [Act.put, sA, sB, sC])
        refine wpAnyH_take (i := 38) (oi := ?e346) (v := undef) ?a346 (by kernel_rfl) (by kernel_rfl) (by kernel_rfl) ?b346 (Or.inr ⟨?c346, rfl⟩) (by assumption) ?f346
        case a346 => (simp only [gA, gB, gC]; rfl)
        case b346 => exact fun _ _ _ h => h
        case c346 => rfl
        (try simp only [Act.put, sA, sB, sC])
        refine wpAnyH_take (i := 39) (oi := ?e347) (v := undef) ?a347 (by kernel_rfl) (by kernel_rfl) (by kernel_rfl) ?b347 (Or.inr ⟨?c347, rfl⟩) (by assumption) ?f347
        case a347 => (simp only [gA, gB, gC]; rfl)
        case b347 => exact fun _ _ _ h => h
        case c347 => rfl
        (try simp only [Act.put, sA, sB, sC])
        refine wpAnyH_take (i := 40) (oi := ?e348) (v := ?v348) ?a348 (by kernel_rfl) (by kernel_rfl) (by kernel_rfl) ?b348 (Or.inl ⟨?c348, ?d348⟩) (by assumption) ?f348
        case a348 => (simp only [gA, gB, gC]; rfl)
        case b348 => exact fun _ _ _ h => h
        case c348 => rfl
        case d348 => (intro w z; (try dsimp only at z); go_simp; try with_reducible rfl)
        (try simp only [Act.put, sA, sB, sC])
        refine wpAnyH_take (i := 41) (oi := ?e349) (v := ?v349) ?a349 (by kernel_rfl) (by kernel_rfl) (by kernel_rfl) ?b349 (Or.inl ⟨?c349, ?d349⟩) (by assumption) ?f349
        case a349 => (simp only [gA, gB, gC]; rfl)
        case b349 => exact fun _ _ _ h => h
        case c349 => rfl
        case d349 => (intro w z; (try dsimp only at z); go_simp; try with_reducible rfl)
        (try simp only [Act.put, sA, sB, sC])
        refine wpAnyH_take (i := 42) (oi := ?e350) (v := undef) ?a350 (by kernel_rfl) (by kernel_rfl) (by kernel_rfl) ?b350 (Or.inr ⟨?c350, rfl⟩) (by assumption) ?f350
        case a350 => (simp only [gA, gB, gC]; rfl)
        case b350 => exact fun _ _ _ h => h
        case c350 => rfl
        (try simp only [Act.put, sA, sB, sC])
        refine wpAnyH_take (i := 43) (oi := ?e351) (v := undef) ?a351 (by kernel_rfl) (by kernel_rfl) (by kernel_rfl) ?b351 (Or.inr ⟨?c351, rfl⟩) (by assumption) ?f351
        case a351 => (simp only [gA, gB, gC]; rfl)
        case b351 => exact fun _ _ _ h => h
        case c351 => rfl
        (try simp only [Act.put, sA, sB, sC])
        refine wpAnyH_take (i := 44) (oi := ?e352) (v := undef) ?a352 (by kernel_rfl) (by kernel_rfl) (by kernel_rfl) ?b352 (Or.inr ⟨?c352, rfl⟩) (by assumption) ?f352
        case a352 => (simp only [gA, gB, gC]; rfl)
        case b352 => exact fun _ _ _ h => h
        case c352 => rfl
        (try simp only [Act.put, sA, sB, sC])
        refine wpAnyH_take (i := 45) (oi := ?e353) (v := undef) ?a353 (by kernel_rfl) (by kernel_rfl) (by kernel_rfl) ?b353 (Or.inr ⟨?c353, rfl⟩) (by assumption) ?f353
        case a353 => (simp only [gA, gB, gC]; rfl)
        case b353 => exact fun _ _ _ h => h
        case c353 => rfl
        (try simp only [Act.put, sA, sB, sC])
        refine wpAnyH_take (i := 46) (oi := ?e354) (v := undef) ?a354 (by kernel_rfl) (by kernel_rfl) (by kernel_rfl) ?b354 (Or.inr ⟨?c354, rfl⟩) (by assumption) ?f354
        case a354 => (simp only [gA, gB, gC]; rfl)
        case b354 => exact fun _ _ _ h => h
        case c354 => rfl
        (try simp only [Act.put, sA, sB, sC])
        refine wpAnyH_take (i := 47) (oi := ?e355) (v := undef) ?a355 (by kernel_rfl) (by kernel_rfl) (by kernel_rfl) ?b355 (Or.inr ⟨?c355, rfl⟩) (by assumption) ?f355
        case a355 => (simp only [gA, gB, gC]; rfl)
        case b355 => exact fun _ _ _ h => h
        case c355 => rfl
        (try simp only [Act.put, sA, sB, sC])
        refine wpAnyH_take (i := 48) (oi := ?e356) (v := undef) ?a356 (by kernel_rfl) (by kernel_rfl) (by kernel_rfl) ?b356 (Or.inr ⟨?c356, rfl⟩) (by assumption) ?f356
        case a356 => (simp only [gA, gB, gC]; rfl)
        case b356 => exact fun _ _ _ h => h
        case c356 => rfl
        (try simp only [Act.put, sA, sB, sC])
        refine wpAnyH_take (i := 49) (oi := ?e357) (v := ?v357) ?a357 (by kernel_rfl) (by kernel_rfl) (by kernel_rfl) ?b357 (Or.inl ⟨?c357, ?d357⟩) (by assumption) ?f357
        case a357 => (simp only [gA, gB, gC]; rfl)
        case b357 => exact fun _ _ _ h => h
        case c357 => rfl
        case d357 => (intro w z; (try dsimp only at z); go_simp; try with_reducible rfl)
        (try simp only [Act.put, sA, sB, sC])
        refine wpAnyH_take (i := 50) (oi := ?e358) (v := ?v358) ?a358 (by kernel_rfl) (by kernel_rfl) (by kernel_rfl) ?b358 (Or.inl ⟨?c358, ?d358⟩) (by assumption) ?f358
        case a358 => (simp only [gA, gB, gC]; rfl)
        case b358 => exact fun _ _ _ h => h
        case c358 => rfl
        case d358 => (intro w z; (try dsimp only at z); go_simp; try with_reducible rfl)
        (try simp only [Act.put, sA, sB, sC])
        refine wpAnyH_take (i := 51) (oi := ?e359) (v := undef) ?a359 (by kernel_rfl) (by kernel_rfl) (by kernel_rfl) ?b359 (Or.inr ⟨?c359, rfl⟩) (by assumption) ?f359
        case a359 => (simp only [gA, gB, gC]; rfl)
        case b359 => exact fun _ _ _ h => h
        case c359 => rfl
        (try simp only [Act.put, sA, sB, sC])
        refine wpAnyH_take (i := 52) (oi := ?e360) (v := undef) ?a360 (by kernel_rfl) (by kernel_rfl) (by kernel_rfl) ?b360 (Or.inr ⟨?c360, rfl⟩) (by assumption) ?f360
        case a360 => (simp only [gA, gB, gC]; rfl)
        case b360 => exact fun _ _ _ h => h
        case c360 => rfl
        (try simp only [Act.put, sA, sB, sC])
        refine wpAnyH_take (i := 53) (oi := ?e361) (v := undef) ?a361 (by kernel_rfl) (by kernel_rfl) (by kernel_rfl) ?b361 (Or.inr ⟨?c361, rfl⟩) (by assumption) ?f361
        case a361 => (simp only [gA, gB, gC]; rfl)
        case b361 => exact fun _ _ _ h => h
        case c361 => rfl
        (try simp only [Act.put, sA, sB, sC])
        refine wpAnyH_take (i := 54) (oi := ?e362) (v := ?v362) ?a362 (by kernel_rfl) (by kernel_rfl) (by kernel_rfl) ?b362 (Or.inl ⟨?c362, ?d362⟩) (by assumption) ?f362
        case a362 => (simp only [gA, gB, gC]; rfl)
        case b362 => exact fun _ _ _ h => h
        case c362 => rfl
        case d362 => (intro w z; (try dsimp only at z); go_simp; try with_reducible rfl)
        (try simp only [Act.put, sA, sB, sC])
        refine wpAnyH_take (i := 55) (oi := ?e363) (v := ?v363) ?a363 (by kernel_rfl) (by kernel_rfl) (by kernel_rfl) ?b363 (Or.inl ⟨?c363, ?d363⟩) (by assumption) ?f363
        case a363 => (simp only [gA, gB, gC]; rfl)
        case b363 => exact fun _ _ _ h => h
        case c363 => rfl
        case d363 => (intro w z; (try dsimp only at z); go_simp; try with_reducible rfl)
        (try simp only [Act.put, sA, sB, sC])
        refine wpAnyH_take (i := 56) (oi := ?e364) (v := undef) ?a364 (by kernel_rfl) (by kernel_rfl) (by kernel_rfl) ?b364 (Or.inr ⟨?c364, rfl⟩) (by assumption) ?f364
        case a364 => (simp only [gA, gB, gC]; rfl)
        case b364 => exact fun _ _ _ h => h
        case c364 => rfl
        (try simp only [Act.put, sA, sB, sC])
        refine wpAnyH_take (i := 57) (oi := ?e365) (v := undef) ?a365 (by kernel_rfl) (by kernel_rfl) (by kernel_rfl) ?b365 (Or.inr ⟨?c365, rfl⟩) (by assumption) ?f365
        case a365 => (simp only [gA, gB, gC]; rfl)
        case b365 => exact fun _ _ _ h => h
        case c365 => rfl
        (try simp only [Act.put, sA, sB, sC])
        refine wpAnyH_take (i := 58) (oi := ?e366) (v := undef) ?a366 (by kernel_rfl) (by kernel_rfl) (by kernel_rfl) ?b366 (Or.inr ⟨?c366, rfl⟩) (by assumption) ?f366
        case a366 => (simp only [gA, gB, gC]; rfl)
        case b366 => exact fun _ _ _ h => h
        case c366 => rfl
        (try simp only [Act.put, sA, sB, sC])
        refine wpAnyH_take (i := 59) (oi := ?e367) (v := ?v367) ?a367 (by kernel_rfl) (by kernel_rfl) (by kernel_rfl) ?b367 (Or.inl ⟨?c367, ?d367⟩) (by assumption) ?f367
        case a367 => (simp only [gA, gB, gC]; rfl)
        case b367 => exact fun _ _ _ h => h
        case c367 => rfl
        case d367 => (intro w z; (try dsimp only at z); go_simp; try with_reducible rfl)
        (try simp only [Act.put, sA, sB, sC])
        refine wpAnyH_take (i := 60) (oi := ?e368) (v := ?v368) ?a368 (by kernel_rfl) (by kernel_rfl) (by kernel_rfl) ?b368 (Or.inl ⟨?c368, ?d368⟩) (by assumption) ?f368
        case a368 => (simp only [gA, gB, gC]; rfl)
        case b368 => exact fun _ _ _ h => h
        case c368 => rfl
        case d368 => (intro w z; (try dsimp only at z); go_simp; try with_reducible rfl)
        (try simp only [Act.put, sA, sB, sC])
        refine wpAnyH_done (by kernel_rfl) ?_ _
        go_wp2
        go_ret
        exact ⟨ret_bool (by first | (simp [*]; done) | (simp [*]; omega)), bel2 HB0.out (by first | exact HBr2.out | exact HBr1.out | exact HBr0.out)⟩
end Go.Proofs.YtachhcabgggimaaGreat

/- Layer 7: are two cases the same, by the document: where they are. (Made by gen/genklaw.py.) -/
namespace Go.Proofs.YtachhcabgggimaaGreat
open Go.RowKit
set_option linter.unusedVariables false
set_option linter.unusedSimpArgs false
set_option maxRecDepth 20000

set_option maxHeartbeats 8000000 in
theorem rAll_true (a b : List Vl) (A B : Option Addr) (ca cb : Nat) (w : World) (ha : VlK w A ca a) (hb : VlK w B cb b) (hl : a.length = b.length) (hs : ∀ j (h : j < a.length) (h2 : j < b.length), sameV a[j] b[j] = true) :
    Calls Tryz.prog 51 #[.slice A a.length ca, .slice B b.length cb] w (VMk (.bool true) w) := by
  obtain ⟨a1, a2, -, a4⟩ := ha
  obtain ⟨b1, b2, -, b4⟩ := hb
  unfold maxLen at a2 b2
  have hla : a.length ≤ 9223372036854775807 := by omega
  have hlb : b.length ≤ 9223372036854775807 := by omega
  have hne : ((a.length : Int) != (b.length : Int)) = false := by simp [hl]
  have HA := Lib.hid a4
  have HB := Lib.hid b4
  have HL := Lib.hid hl
  have HS := Lib.hid hs
  clear a1 a2 a4 b1 b2 b4 hl hs
  go_enter Tryz.func51, Tryz.ntmps51
  go_wp2
  go_loopw [5] (fun i wr => ∃ k : Nat, k ≤ a.length ∧ i = .int .i64 k ∧ Below w.heap.size w wr) (fun i _ => a.length - (intOf i).toNat)
  case atStart => exact ⟨0, Nat.zero_le _, rfl, Below.refl _ _⟩
  case round =>
    obtain ⟨k, hk, rfl, hbr⟩ := hrel
    have HBR := Lib.hid hbr
    by_cases hlt : k < a.length
    · have hltb : k < b.length := by have := HL.out; omega
      have hltI : (k : Int) < (a.length : Int) := by omega
      have hltJ : (k : Int) < (b.length : Int) := by omega
      obtain ⟨ad, rfl, hbl, hp⟩ := HA.out k hlt
      obtain ⟨bd, rfl, hbl2, hq⟩ := HB.out k hltb
      have hsv := HS.out k hlt hltb
      have hcall := fun W => rSame_val a[k] b[k] W
      rw [hsv] at hcall
      have HC := Lib.hid hcall
      replace hp := hp.below hbr (by rw [block_add]; exact hbl)
      replace hq := hq.below hbr (by rw [block_add]; exact hbl2)
      clear hcall hsv hbr
      generalize a[k] = x at *
      generalize b[k] = y at *
      go_upto_region 6 with fail
      have HK := Lib.hid (show ∀ W, Below wr.heap.size wr W → (fun W => Below wr.heap.size wr W ∧ W.cell? (ad.add (k * 5)) = some (.int .i64 x.k) ∧ W.cell? ⟨(ad.add (k * 5)).block, (ad.add (k * 5)).off + 1, none⟩ = some (.int .i64 x.i) ∧ W.cell? ⟨(ad.add (k * 5)).block, (ad.add (k * 5)).off + 2, none⟩ = some (.bool x.b) ∧ W.cell? ⟨(ad.add (k * 5)).block, (ad.add (k * 5)).off + 3, none⟩ = some (.string x.s) ∧ W.cell? ⟨(ad.add (k * 5)).block, (ad.add (k * 5)).off + 4, none⟩ = some (.float .f64 x.n) ∧ W.cell? (bd.add (k * 5)) = some (.int .i64 y.k) ∧ W.cell? ⟨(bd.add (k * 5)).block, (bd.add (k * 5)).off + 1, none⟩ = some (.int .i64 y.i) ∧ W.cell? ⟨(bd.add (k * 5)).block, (bd.add (k * 5)).off + 2, none⟩ = some (.bool y.b) ∧ W.cell? ⟨(bd.add (k * 5)).block, (bd.add (k * 5)).off + 3, none⟩ = some (.string y.s) ∧ W.cell? ⟨(bd.add (k * 5)).block, (bd.add (k * 5)).off + 4, none⟩ = some (.float .f64 y.n)) W from fun W h => ⟨h, (h.cell (World.block_lt_of_cell? _ _ hp.1)).trans hp.1, (h.cell (World.block_lt_of_cell? _ _ hp.2.1)).trans hp.2.1, (h.cell (World.block_lt_of_cell? _ _ hp.2.2.1)).trans hp.2.2.1, (h.cell (World.block_lt_of_cell? _ _ hp.2.2.2.1)).trans hp.2.2.2.1, (h.cell (World.block_lt_of_cell? _ _ hp.2.2.2.2)).trans hp.2.2.2.2, (h.cell (World.block_lt_of_cell? _ _ hq.1)).trans hq.1, (h.cell (World.block_lt_of_cell? _ _ hq.2.1)).trans hq.2.1, (h.cell (World.block_lt_of_cell? _ _ hq.2.2.1)).trans hq.2.2.1, (h.cell (World.block_lt_of_cell? _ _ hq.2.2.2.1)).trans hq.2.2.2.1, (h.cell (World.block_lt_of_cell? _ _ hq.2.2.2.2)).trans hq.2.2.2.2⟩)
      have HBr0 := Lib.hid (show Below wr.heap.size wr wr.drew from (Below.refl _ _).drew)
      have HS0 := Lib.hid (HK.out wr.drew HBr0.out)
      go_region_held3 (fun W => Below wr.heap.size wr W ∧ W.cell? (ad.add (k * 5)) = some (.int .i64 x.k) ∧ W.cell? ⟨(ad.add (k * 5)).block, (ad.add (k * 5)).off + 1, none⟩ = some (.int .i64 x.i) ∧ W.cell? ⟨(ad.add (k * 5)).block, (ad.add (k * 5)).off + 2, none⟩ = some (.bool x.b) ∧ W.cell? ⟨(ad.add (k * 5)).block, (ad.add (k * 5)).off + 3, none⟩ = some (.string x.s) ∧ W.cell? ⟨(ad.add (k * 5)).block, (ad.add (k * 5)).off + 4, none⟩ = some (.float .f64 x.n) ∧ W.cell? (bd.add (k * 5)) = some (.int .i64 y.k) ∧ W.cell? ⟨(bd.add (k * 5)).block, (bd.add (k * 5)).off + 1, none⟩ = some (.int .i64 y.i) ∧ W.cell? ⟨(bd.add (k * 5)).block, (bd.add (k * 5)).off + 2, none⟩ = some (.bool y.b) ∧ W.cell? ⟨(bd.add (k * 5)).block, (bd.add (k * 5)).off + 3, none⟩ = some (.string y.s) ∧ W.cell? ⟨(bd.add (k * 5)).block, (bd.add (k * 5)).off + 4, none⟩ = some (.float .f64 y.n)) (first | assumption | exact HK.out _ HBr1.out | exact HS0.out) (first
          | (go_at_call 93; refine (HC.out _ ).mono ?_; rintro e wr1 ⟨rfl, hbr1⟩; have HBr1 := Lib.hid (bel2 HBr0.out hbr1); clear hbr1))
      go_wp2
      go_roundw
      case rel => exact ⟨k + 1, by omega, by go_num, bel2 HBR.out HBr1.out⟩
      case measure => simp [intOf]; omega
    · obtain rfl : k = a.length := by omega
      have hltI : ¬ (a.length : Int) < (a.length : Int) := by omega
      go_wp2
      go_ret
      exact ⟨rfl, HBR.out⟩
set_option maxHeartbeats 8000000 in
theorem rSame7_true (k : Cse) (bv : List Vl) (VA VB EA EB : Option Addr) (vc vd ec ed : Nat) (w : World) (ha : CsK w k VA vc EA ec) (hb : CsK w { k with vals := bv } VB vd EB ed) (hl : k.vals.length = bv.length) (hs : ∀ j (h : j < k.vals.length) (h2 : j < bv.length), sameV k.vals[j] bv[j] = true) :
    Calls Tryz.prog 24 #[.agg (csK k VA vc EA ec), .agg (csK { k with vals := bv } VB vd EB ed)] w (VMk (.bool true) w) := by
  have HQA := Lib.hid (belowZ (heap_alloc_new w (.cells #[.string k.id, .string k.ctr, .int .i64 k.stage, .slice VA k.vals.length vc, .slice EA k.ends.length ec, .bool k.susp, .bool k.shut, .int .i64 k.steps] 45)) (alloc1 (w.alloc (.cells #[.string k.id, .string k.ctr, .int .i64 k.stage, .slice VA k.vals.length vc, .slice EA k.ends.length ec, .bool k.susp, .bool k.shut, .int .i64 k.steps] 45)) (.cells #[.string k.id, .string k.ctr, .int .i64 k.stage, .slice VB bv.length vd, .slice EB k.ends.length ed, .bool k.susp, .bool k.shut, .int .i64 k.steps] 45)))
  have hqb := heap_alloc_new (w.alloc (.cells #[.string k.id, .string k.ctr, .int .i64 k.stage, .slice VA k.vals.length vc, .slice EA k.ends.length ec, .bool k.susp, .bool k.shut, .int .i64 k.steps] 45)) (.cells #[.string k.id, .string k.ctr, .int .i64 k.stage, .slice VB bv.length vd, .slice EB k.ends.length ed, .bool k.susp, .bool k.shut, .int .i64 k.steps] 45)
  rw [World.size_alloc] at hqb
  have HQB := Lib.hid hqb
  have HW := Lib.hid (vbox2 w (.cells #[.string k.id, .string k.ctr, .int .i64 k.stage, .slice VA k.vals.length vc, .slice EA k.ends.length ec, .bool k.susp, .bool k.shut, .int .i64 k.steps] 45) (.cells #[.string k.id, .string k.ctr, .int .i64 k.stage, .slice VB bv.length vd, .slice EB k.ends.length ed, .bool k.susp, .bool k.shut, .int .i64 k.steps] 45))
  have hall := fun W (h : Below w.heap.size w W) => rAll_true k.vals bv VA VB vc vd W (ha.v.below h (Nat.le_refl _)) (hb.v.below h (Nat.le_refl _)) hl hs
  obtain ⟨-, ea2, ea4⟩ := ha.e.open
  obtain ⟨-, eb2, eb4⟩ := (show Is w (.slice EB k.ends.length ed) k.ends from hb.e).open
  unfold maxLen at ea2
  have hle : k.ends.length ≤ 9223372036854775807 := by omega
  have HALL := Lib.hid hall
  have HEA := Lib.hid ea4
  have HEB := Lib.hid eb4
  clear ha hb hl hs hall ea2 eb2 ea4 eb4 hqb
  have h1 : (k.id.toList != k.id.toList) = false := by simp
  have h2 : (k.ctr.toList != k.ctr.toList) = false := by simp
  have h3 : (k.stage != k.stage) = false := by simp
  have h4 : (k.susp != k.susp) = false := by simp
  have h5 : (k.shut != k.shut) = false := by simp
  have h6 : (k.steps != k.steps) = false := by simp
  have h7 : ((k.ends.length : Int) != (k.ends.length : Int)) = false := by simp
  go_enter Tryz.func24, Tryz.ntmps24
  go_upto_region 1 with fail
  generalize hw2 : (w.alloc (.cells #[.string k.id, .string k.ctr, .int .i64 k.stage, .slice VA k.vals.length vc, .slice EA k.ends.length ec, .bool k.susp, .bool k.shut, .int .i64 k.steps] 45)).alloc (.cells #[.string k.id, .string k.ctr, .int .i64 k.stage, .slice VB bv.length vd, .slice EB k.ends.length ed, .bool k.susp, .bool k.shut, .int .i64 k.steps] 45) = w2 at *
  clear hw2
  have hqa := HQA.out
  have hqb := HQB.out
  have c0 := (heap_at hqa 0).trans (rfl : _ = some (Value.string k.id))
  have c1 := (heap_at hqa 1).trans (rfl : _ = some (Value.string k.ctr))
  have c2 := (heap_at hqa 2).trans (rfl : _ = some (Value.int .i64 k.stage))
  have c3 := (heap_at hqa 3).trans (rfl : _ = some (Value.slice VA k.vals.length vc))
  have c4 := (heap_at hqa 4).trans (rfl : _ = some (Value.slice EA k.ends.length ec))
  have c5 := (heap_at hqa 5).trans (rfl : _ = some (Value.bool k.susp))
  have c6 := (heap_at hqa 6).trans (rfl : _ = some (Value.bool k.shut))
  have c7 := (heap_at hqa 7).trans (rfl : _ = some (Value.int .i64 k.steps))
  have cf := heap_free hqa
  have cl := heap_ltZ hqa
  have d0 := (heap_at hqb 0).trans (rfl : _ = some (Value.string k.id))
  have d1 := (heap_at hqb 1).trans (rfl : _ = some (Value.string k.ctr))
  have d2 := (heap_at hqb 2).trans (rfl : _ = some (Value.int .i64 k.stage))
  have d3 := (heap_at hqb 3).trans (rfl : _ = some (Value.slice VB bv.length vd))
  have d4 := (heap_at hqb 4).trans (rfl : _ = some (Value.slice EB k.ends.length ed))
  have d5 := (heap_at hqb 5).trans (rfl : _ = some (Value.bool k.susp))
  have d6 := (heap_at hqb 6).trans (rfl : _ = some (Value.bool k.shut))
  have d7 := (heap_at hqb 7).trans (rfl : _ = some (Value.int .i64 k.steps))
  have df := heap_free hqb
  have dl := heap_ltZ hqb
  go_wp2
  clear c0 c1 c2 c3 c4 c5 c6 c7 cf cl d0 d1 d2 d3 d4 d5 d6 d7 df dl hqa hqb
  go_loopw [5] (fun i wr => ∃ m : Nat, m ≤ k.ends.length ∧ i = .int .i64 m ∧ Below w2.heap.size w2 wr) (fun i _ => k.ends.length - (intOf i).toNat)
  case atStart => exact ⟨0, Nat.zero_le _, rfl, Below.refl _ _⟩
  case round =>
    obtain ⟨m, hm, rfl, hbr⟩ := hrel
    have HBR := Lib.hid hbr
    have hqa := belowZ HQA.out hbr
    have hqb := belowZ HQB.out hbr
    have c0 := (heap_at hqa 0).trans (rfl : _ = some (Value.string k.id))
    have c1 := (heap_at hqa 1).trans (rfl : _ = some (Value.string k.ctr))
    have c2 := (heap_at hqa 2).trans (rfl : _ = some (Value.int .i64 k.stage))
    have c3 := (heap_at hqa 3).trans (rfl : _ = some (Value.slice VA k.vals.length vc))
    have c4 := (heap_at hqa 4).trans (rfl : _ = some (Value.slice EA k.ends.length ec))
    have c5 := (heap_at hqa 5).trans (rfl : _ = some (Value.bool k.susp))
    have c6 := (heap_at hqa 6).trans (rfl : _ = some (Value.bool k.shut))
    have c7 := (heap_at hqa 7).trans (rfl : _ = some (Value.int .i64 k.steps))
    have cf := heap_free hqa
    have cl := heap_ltZ hqa
    have d0 := (heap_at hqb 0).trans (rfl : _ = some (Value.string k.id))
    have d1 := (heap_at hqb 1).trans (rfl : _ = some (Value.string k.ctr))
    have d2 := (heap_at hqb 2).trans (rfl : _ = some (Value.int .i64 k.stage))
    have d3 := (heap_at hqb 3).trans (rfl : _ = some (Value.slice VB bv.length vd))
    have d4 := (heap_at hqb 4).trans (rfl : _ = some (Value.slice EB k.ends.length ed))
    have d5 := (heap_at hqb 5).trans (rfl : _ = some (Value.bool k.susp))
    have d6 := (heap_at hqb 6).trans (rfl : _ = some (Value.bool k.shut))
    have d7 := (heap_at hqb 7).trans (rfl : _ = some (Value.int .i64 k.steps))
    have df := heap_free hqb
    have dl := heap_ltZ hqb
    by_cases hlt : m < k.ends.length
    · have hltI : (m : Int) < (k.ends.length : Int) := by omega
      obtain ⟨ad, rfl, hbl, hp⟩ := HEA.out m hlt
      obtain ⟨bd, rfl, hbl2, hq⟩ := HEB.out m hlt
      have hp2 := cellp (bel2 HW.out hbr) (by rw [block_add]; exact hbl) hp
      have hq2 := cellp (bel2 HW.out hbr) (by rw [block_add]; exact hbl2) hq
      clear hp hq hqa hqb hbr
      generalize k.ends[m] = o at *
      have ho : (o != o) = false := by simp
      go_wp2
      go_quiet (fail)
      go_wp2
      go_roundw
      case rel => exact ⟨m + 1, by omega, by go_num, below_drewN HBR.out _⟩
      case measure => simp [intOf]; omega
    · obtain rfl : m = k.ends.length := by omega
      have hltI : ¬ (k.ends.length : Int) < (k.ends.length : Int) := by omega
      clear hqa hqb hbr
      go_wp2_with fail
      refine (HALL.out _ (bel2 HW.out HBR.out)).mono ?_
      rintro _ w3 ⟨rfl, hb3⟩
      go_wp2
      go_ret
      exact ⟨rfl, bel2 HW.out (bel2 HBR.out hb3)⟩
end Go.Proofs.YtachhcabgggimaaGreat

/- Layer 6: the law's One and awake. -/
namespace Go.Proofs.YtachhcabgggimaaGreat
open Go.RowKit
set_option linter.unusedVariables false
set_option linter.unusedSimpArgs false
set_option maxRecDepth 20000

theorem heap_old (w : World) (o : Obj) (k : Nat) (h : k < w.heap.size) : (w.alloc o).heap[k]? = w.heap[k]? := (alloc1 w o).block k h
theorem six_worlds (w : World) (o0 o1 o2 o3 o4 o5 : Obj) :
    ((((((w.alloc o0).alloc o1).alloc o2).alloc o3).alloc o4).alloc o5).heap[w.heap.size]? = some o0 ∧
    ((((((w.alloc o0).alloc o1).alloc o2).alloc o3).alloc o4).alloc o5).heap[w.heap.size + 1 + 1]? = some o2 ∧
    ((((((w.alloc o0).alloc o1).alloc o2).alloc o3).alloc o4).alloc o5).heap[w.heap.size + 1 + 1 + 1]? = some o3 ∧
    ((((((w.alloc o0).alloc o1).alloc o2).alloc o3).alloc o4).alloc o5).heap[w.heap.size + 1 + 1 + 1 + 1]? = some o4 ∧
    ((((((w.alloc o0).alloc o1).alloc o2).alloc o3).alloc o4).alloc o5).heap[w.heap.size + 1 + 1 + 1 + 1 + 1]? = some o5 ∧
    Below w.heap.size w ((((((w.alloc o0).alloc o1).alloc o2).alloc o3).alloc o4).alloc o5) := by
  have n0 := heap_alloc_new w o0
  have n2 := heap_alloc_new ((w.alloc o0).alloc o1) o2
  have n3 := heap_alloc_new (((w.alloc o0).alloc o1).alloc o2) o3
  have n4 := heap_alloc_new ((((w.alloc o0).alloc o1).alloc o2).alloc o3) o4
  have n5 := heap_alloc_new (((((w.alloc o0).alloc o1).alloc o2).alloc o3).alloc o4) o5
  simp only [World.size_alloc] at n2 n3 n4 n5
  refine ⟨?_, ?_, ?_, ?_, n5, bel2 (bel2 (bel2 (bel2 (bel2 (alloc1 _ _) (alloc1 _ _)) (alloc1 _ _)) (alloc1 _ _)) (alloc1 _ _)) (alloc1 _ _)⟩
  · rw [heap_old _ _ _ (by simp only [World.size_alloc]; omega), heap_old _ _ _ (by simp only [World.size_alloc]; omega), heap_old _ _ _ (by simp only [World.size_alloc]; omega), heap_old _ _ _ (by simp only [World.size_alloc]; omega), heap_old _ _ _ (by simp only [World.size_alloc]; omega)]; exact n0
  · rw [heap_old _ _ _ (by simp only [World.size_alloc]; omega), heap_old _ _ _ (by simp only [World.size_alloc]; omega), heap_old _ _ _ (by simp only [World.size_alloc]; omega)]; exact n2
  · rw [heap_old _ _ _ (by simp only [World.size_alloc]; omega), heap_old _ _ _ (by simp only [World.size_alloc]; omega)]; exact n3
  · rw [heap_old _ _ _ (by simp only [World.size_alloc]; omega)]; exact n4
set_option maxHeartbeats 2000000 in
theorem One_any (w : World) : Calls Tryz.prog 37 #[] w (CtP ctOne w) := by
  have hsf := fun (w : World) (a : Addr) (m : Mode) (b : Nat) => run_store Tryz.prog w a (.float .f64 b) m rfl
  go_enter Tryz.func37, Tryz.ntmps37
  go_wp2
  generalize ho0 : Obj.cells #[Value.string { data := #[99] }, Value.slice (some { block := w.heap.size + 1 + 1, off := 0 }) 1 1, Value.slice (some { block := w.heap.size + 1 + 1 + 1 + 1, off := 0 }) 2 2, Value.slice (some { block := w.heap.size + 1 + 1 + 1 + 1 + 1, off := 0 }) 1 1] 33 = o0
  generalize ho2 : Obj.cells #[Value.string { data := #[110] }, Value.int IntKind.i64 1, Value.slice none 0 0, Value.int IntKind.i64 1, Value.int IntKind.i64 0, Value.bool false, Value.string { data := #[] }, Value.float FloatKind.f64 0] 83 = o2
  generalize ho3 : Obj.cells #[Value.int IntKind.i64 0, Value.int IntKind.i64 2] 3 = o3
  generalize ho4 : Obj.cells #[Value.string { data := #[115] }, Value.int IntKind.i64 0, Value.slice none 0 0, Value.string { data := #[116] }, Value.int IntKind.i64 1, Value.slice (some { block := w.heap.size + 1 + 1 + 1, off := 0 }) 2 2] 65 = o4
  generalize ho5 : Obj.cells #[Value.string { data := #[109] }, Value.int IntKind.i64 0, Value.int IntKind.i64 1, Value.int IntKind.i64 1, Value.slice none 0 0, Value.string { data := #[] }, Value.int IntKind.i64 2, Value.int IntKind.i64 0, Value.bool true, Value.string { data := #[] }, Value.float FloatKind.f64 0, Value.slice none 0 0, Value.int IntKind.i64 (-1)] 80 = o5
  generalize hW : (w.alloc o0).alloc _ = W1
  obtain ⟨k0, k2, k3, k4, k5, hb⟩ := six_worlds w o0 (.cells #[Value.int IntKind.i64 1, Value.slice none 0 0, Value.string { data := #[] }, Value.int IntKind.i64 2, Value.int IntKind.i64 0, Value.bool true, Value.string { data := #[] }, Value.float FloatKind.f64 0] 77) o2 o3 o4 o5
  rw [hW] at k0 k2 k3 k4 k5 hb
  generalize ((((W1.alloc o2).alloc o3).alloc o4).alloc o5) = W at *
  rw [← ho0] at k0
  rw [← ho2] at k2
  rw [← ho3] at k3
  rw [← ho4] at k4
  rw [← ho5] at k5
  have hlt : w.heap.size < W.heap.size := (Array.getElem?_eq_some_iff.1 k0).1
  have v0 := at_row k0 0 _ rfl
  have v1 := at_row k0 1 _ rfl
  have v2 := at_row k0 2 _ rfl
  have v3 := at_row k0 3 _ rfl
  clear ho0 ho2 ho3 ho4 ho5 hW
  exact bodyPost_ret (v := agC ⟨#[99]⟩ (some ⟨w.heap.size + 1 + 1, 0, none⟩) 1 1 (some ⟨w.heap.size + 1 + 1 + 1 + 1, 0, none⟩) 2 2 (some ⟨w.heap.size + 1 + 1 + 1 + 1 + 1, 0, none⟩) 1 1) (by simp [results, Tryz.results37, go_sem, v0, v1, v2, v3, hlt]) rfl
    ⟨_, _, _, _, _, _, rfl, ⟨fldk_rows W _ 1 _ none 0 (ss_none W) (by omega) k2, stgk_row W _ _ _ _ k3 k4, mvk_row W _ _ 1 2 true mvYes rfl k5⟩, hb⟩
end Go.Proofs.YtachhcabgggimaaGreat

/- Layer 7: rows of values, of ints are cloned; a case is opened. (Made by gen/gencase.py.) -/
namespace Go.Proofs.YtachhcabgggimaaGreat
open Go.RowKit
set_option linter.unusedVariables false
set_option linter.unusedSimpArgs false
set_option maxRecDepth 20000

abbrev vCells (v : Vl) : List Value := [.int .i64 v.k, .int .i64 v.i, .bool v.b, .string v.s, .float .f64 v.n]
theorem vCells_one (l : List Vl) : ∀ u ∈ l.flatMap vCells, u.oneCell' = true := fun u hu => by
  obtain ⟨v, -, hv⟩ := List.mem_flatMap.1 hu
  simp only [vCells, List.mem_cons, List.not_mem_nil, or_false] at hv
  rcases hv with rfl | rfl | rfl | rfl | rfl <;> rfl
theorem Vlp.cells {w : World} {p : Addr} {y : Vl} (h : Vlp w p y) : ∀ o u, (vCells y)[o]? = some u → w.cell? (p.add o) = some u := by
  obtain ⟨h0, h1, h2, h3, h4⟩ := h
  intro o u hu
  match o, hu with
  | 0, hu => injection hu with hu; subst hu; rw [Addr.add_zero']; exact h0
  | 1, hu => injection hu with hu; subst hu; rw [Addr.add_succ']; exact h1
  | 2, hu => injection hu with hu; subst hu; rw [Addr.add_succ']; exact h2
  | 3, hu => injection hu with hu; subst hu; rw [Addr.add_succ']; exact h3
  | 4, hu => injection hu with hu; subst hu; rw [Addr.add_succ']; exact h4
theorem VlK.rows {w : World} {A : Option Addr} {c : Nat} {l : List Vl} (h : VlK w A c l) : RowS w 5 (.slice A l.length c) l.length (l.flatMap vCells) := by
  obtain ⟨h1, h2, h3, h4⟩ := h
  refine ⟨A, c, rfl, flat_len vCells 5 (fun _ => rfl) l, fun ha => by have := h3 ha; omega, fun a ha j u hj => ?_⟩
  have hjl : j < l.length * 5 := by
    have := (List.getElem?_eq_some_iff.1 hj).1
    rwa [flat_len vCells 5 (fun _ => rfl) l] at this
  have hq : j / 5 < l.length := by omega
  rw [show j = j / 5 * 5 + j % 5 by omega, flat_get vCells 5 (fun _ => rfl) l _ _ hq (Nat.mod_lt _ (by decide))] at hj
  obtain ⟨ad, e1, -, e3⟩ := h4 _ hq
  rw [ha] at e1
  injection e1 with e1
  subst e1
  rw [show j = j / 5 * 5 + j % 5 by omega, ← add_add']
  exact e3.cells _ _ hj
theorem vlN_own {T : Nat → Prop} {w : World} {base : Nat} {v : Value} {n : Nat} {l : List Vl} (h : w.ownsRow base 55 5 v n (l.flatMap vCells)) (hT : ∀ b, base ≤ b → T b) : ∃ A c, v = .slice A l.length c ∧ VlN T w A c l := by
  obtain ⟨A, c, h1, h2⟩ := rowN_own vCells (fun _ => rfl) (by decide) id (R := Vlp) h hT fun q hq b i hc => ⟨hc 0 (by omega), hc 1 (by omega), hc 2 (by omega), hc 3 (by omega), hc 4 (by omega)⟩
  rw [List.map_id] at h1 h2
  exact ⟨A, c, h1, h2⟩
theorem map_intC : ∀ l : List Int, l.map (Value.int .i64) = l.flatMap intC
  | [] => rfl
  | x :: l => by rw [List.map_cons, List.flatMap_cons, map_intC l]; rfl
theorem isN_own {T : Nat → Prop} {w : World} {base : Nat} {v : Value} {n : Nat} {l : List Int} (h : w.ownsRow base 3 1 v n (l.map (Value.int .i64))) (hT : ∀ b, base ≤ b → T b) : ∃ A c, v = .slice A l.length c ∧ IsN T w A c l := by
  rw [map_intC] at h
  obtain ⟨A, c, h1, h2⟩ := rowN_own intC (fun _ => rfl) (by decide) id (R := IntP) h hT fun q hq b i hc => hc 0 Nat.one_pos
  rw [List.map_id] at h1 h2
  exact ⟨A, c, h1, h2⟩
theorem int_one (l : List Int) : ∀ u ∈ l.map (Value.int .i64), u.oneCell' = true := fun u hu => by
  obtain ⟨n, -, rfl⟩ := List.mem_map.1 hu
  rfl
theorem is_rows {w : World} {A : Option Addr} {c : Nat} {l : List Int} (h : Is w (.slice A l.length c) l) : RowS w 1 (.slice A l.length c) l.length (l.map (Value.int .i64)) := by
  obtain ⟨A', c', hv, hc, hm, hn, hx⟩ := h
  injection hv with e1 e2 e3
  subst e1 e3
  rw [List.length_map] at hc
  refine ⟨A, c, rfl, by simp, fun ha => ⟨by have := hn ha; omega, hn ha⟩, fun a ha j u hj => ?_⟩
  have hne : l.map (Value.int .i64) ≠ [] := fun e => by rw [e] at hj; simp at hj
  obtain ⟨ad, h1, h2, h3⟩ := hx hne
  rw [ha] at h1
  injection h1 with h1
  subst h1
  exact h3 j u hj
def ClV (l : List Vl) (w : World) (e : Ending) (w' : World) : Prop := ∃ v, e = .returned v ∧ w'.ownsRow w.heap.size 55 5 v l.length (l.flatMap vCells) ∧ Below w.heap.size w w'
def ClI (l : List Int) (w : World) (e : Ending) (w' : World) : Prop := ∃ v, e = .returned v ∧ w'.ownsRow w.heap.size 3 1 v l.length (l.map (Value.int .i64)) ∧ Below w.heap.size w w'
theorem infoVl : (Tryz.prog.info? 55).map (fun i => (i.zero, i.size, i.bytes)) = some (some (.agg #[.int .i64 0, .int .i64 0, .bool false, .string ⟨#[]⟩, .float .f64 0]), 5, 48) := by kernel_rfl
theorem infoIn : (Tryz.prog.info? 3).map (fun i => (i.zero, i.size, i.bytes)) = some (some (.int .i64 0), 1, 8) := by kernel_rfl
set_option maxHeartbeats 1000000 in
theorem cloneVl_any (A : Option Addr) (c : Nat) (l : List Vl) (w : World) (hv : VlK w A c l) (hl : l.length ≤ 1000) : Calls Tryz.prog 52 #[.slice A l.length c] w (ClV l w) := by
  obtain ⟨i1, hi1, hz1, hsz1, hby1⟩ := infoZ infoVl
  have hrows : RowS w 5 (.slice A l.length c) l.length (l.flatMap vCells) := hv.rows
  rcases A with _ | ad
  · obtain ⟨-, -, -, hn, -⟩ := id hrows
    have hl0 : l = [] := List.eq_nil_of_length_eq_zero (by obtain ⟨A', c', e, h1, h2, h3⟩ := hrows; injection e with e1 e2 e3; exact (h2 e1.symm).1)
    subst hl0
    clear hn hv hrows
    have he := fun (w : World) => Lib.run_eql_slice_nil (P := Tryz.prog) w 42 55 none 0 c 0 0 Tryz.underlying42
    simp only [List.length_nil]
    go_enter Tryz.func52, Tryz.ntmps52
    go_wp2
    go_ret
    exact ⟨_, rfl, World.ownsRow_nil _ _ _ _, Below.refl _ _⟩
  · have HR := Lib.hid hrows
    have HL := Lib.hid hl
    clear hv hrows hl
    have he := fun (w : World) => Lib.run_eql_slice_nil (P := Tryz.prog) w 42 55 (some ad) l.length c 0 0 Tryz.underlying42
    go_enter Tryz.func52, Tryz.ntmps52
    go_wp2_with (at_builtin; refine wpList_append_rows rfl (.tmp 5) (.tmp 6) 42 rfl w.heap.size 55 i1 (.agg #[.int .i64 0, .int .i64 0, .bool false, .string ⟨#[]⟩, .float .f64 0]) 5 48 Tryz.underlying42 hi1 hz1 hsz1 hby1 rfl (by decide) _ 0 [] rfl (World.ownsRow_made w #[] 0 (Nat.le_refl _) (Nat.zero_le _) rfl) _ l.length (l.flatMap vCells) rfl (HR.out.below (alloc1 _ _)) (vCells_one l) (by have := HL.out; unfold maxLen; omega) (by have := HL.out; omega) (by simp) ?_; intro v2 w2 hown2 hg2 hor2)
    go_ret
    refine ⟨_, rfl, by simpa using hown2, ?_⟩
    exact ((Below.refl w.heap.size w).alloc (Nat.le_refl _) _).grown hg2 (by simp) (by intro k h; injection h with h; simp only at h; omega)
set_option maxHeartbeats 1000000 in
theorem cloneIn_any (A : Option Addr) (c : Nat) (l : List Int) (w : World) (hv : Is w (.slice A l.length c) l) (hl : l.length ≤ 1000) : Calls Tryz.prog 53 #[.slice A l.length c] w (ClI l w) := by
  obtain ⟨i1, hi1, hz1, hsz1, hby1⟩ := infoZ infoIn
  have hrows : RowS w 1 (.slice A l.length c) l.length (l.map (Value.int .i64)) := is_rows hv
  rcases A with _ | ad
  · obtain ⟨-, -, -, hn, -⟩ := id hrows
    have hl0 : l = [] := List.eq_nil_of_length_eq_zero (by obtain ⟨A', c', e, h1, h2, h3⟩ := hrows; injection e with e1 e2 e3; exact (h2 e1.symm).1)
    subst hl0
    clear hn hv hrows
    have he := fun (w : World) => Lib.run_eql_slice_nil (P := Tryz.prog) w 43 3 none 0 c 0 0 Tryz.underlying43
    simp only [List.length_nil]
    go_enter Tryz.func53, Tryz.ntmps53
    go_wp2
    go_ret
    exact ⟨_, rfl, World.ownsRow_nil _ _ _ _, Below.refl _ _⟩
  · have HR := Lib.hid hrows
    have HL := Lib.hid hl
    clear hv hrows hl
    have he := fun (w : World) => Lib.run_eql_slice_nil (P := Tryz.prog) w 43 3 (some ad) l.length c 0 0 Tryz.underlying43
    go_enter Tryz.func53, Tryz.ntmps53
    go_wp2_with (at_builtin; refine wpList_append_rows rfl (.tmp 5) (.tmp 6) 43 rfl w.heap.size 3 i1 (.int .i64 0) 1 8 Tryz.underlying43 hi1 hz1 hsz1 hby1 rfl (by decide) _ 0 [] rfl (World.ownsRow_made w #[] 0 (Nat.le_refl _) (Nat.zero_le _) rfl) _ l.length (l.map (Value.int .i64)) rfl (HR.out.below (alloc1 _ _)) (int_one l) (by have := HL.out; unfold maxLen; omega) (by have := HL.out; omega) (by simp) ?_; intro v2 w2 hown2 hg2 hor2)
    go_ret
    refine ⟨_, rfl, by simpa using hown2, ?_⟩
    exact ((Below.refl w.heap.size w).alloc (Nat.le_refl _) _).grown hg2 (by simp) (by intro k h; injection h with h; simp only at h; omega)
end Go.Proofs.YtachhcabgggimaaGreat

/- Layer 7: a case is opened, by the program. (Made by gen/gencase.py.) -/
namespace Go.Proofs.YtachhcabgggimaaGreat
open Go.RowKit
set_option linter.unusedVariables false
set_option linter.unusedSimpArgs false
set_option maxRecDepth 20000

theorem CsN.nil (S : Nat → Prop) (w : World) (k : Cse) (hv : k.vals = []) (he : k.ends = []) : CsN S w k none 0 none 0 := ⟨by rw [hv]; exact RowN.nil _ _ _ _, by rw [he]; exact RowN.nil _ _ _ _⟩
theorem CsN.set8 {w W : World} {k : Cse} {VA : Option Addr} {vc : Nat} {EA : Option Addr} {ec : Nat} {rb : Nat} (hb : w.heap.size ≤ rb) (hn : CsN (fun b => rb < b) W k VA vc EA ec) (hB : Below w.heap.size w W) (u0 u1 u2 u3 u4 u5 u6 u7 : Value) :
    CsN (fun b => w.heap.size ≤ b) (set8 W rb u0 u1 u2 u3 u4 u5 u6 u7) k VA vc EA ec ∧ Below w.heap.size w (set8 W rb u0 u1 u2 u3 u4 u5 u6 u7) := by
  have ho := set8_only W rb u0 u1 u2 u3 u4 u5 u6 u7
  exact ⟨hn.move (fun b hb2 hl => ⟨ho.block b hl (by intro e; injection e with e; omega), by omega⟩) ho.size, hB.trans (ho.to_below hB.size hb)⟩
theorem GivesK.mk {w W : World} {r : Cse × Int} {VA : Option Addr} {vc : Nat} {EA : Option Addr} {ec : Nat} {rb : Nat} (hb : w.heap.size ≤ rb) (hn : CsN (fun b => rb < b) W r.1 VA vc EA ec) (hB : Below w.heap.size w W) (u0 u1 u2 u3 u4 u5 u6 u7 : Value) :
    GivesK r w (.returned (.tuple #[.agg (csK r.1 VA vc EA ec), .int .i64 r.2])) (Go.Proofs.YtachhcabgggimaaGreat.set8 W rb u0 u1 u2 u3 u4 u5 u6 u7) :=
  ⟨VA, vc, EA, ec, rfl, (CsN.set8 hb hn hB ..).1, (CsN.set8 hb hn hB ..).2⟩
structure NwI (w : World) (b : Nat) (id nm : ByteArray) (fs : List Fld) (wr : World) (k : Nat) (row : Value) : Prop where
  bx : wr.heap[b]? = some (.cells #[.string id, .string nm, .int .i64 0, row, .slice none 0 0, .bool false, .bool false, .int .i64 0] 45 (0, 0))
  own : wr.ownsRow (b + 1) 55 5 row k ((fs.take k).flatMap fun f => vCells f.y)
  bel : Below b w wr
theorem NwI.at4 {w : World} {b : Nat} {id nm : ByteArray} {fs : List Fld} {wr w4 : World} {k : Nat} {row : Value} {o1 o2 : Obj} (h : NwI w b id nm fs wr k row) (hgr : ((wr.alloc o1).alloc o2).grownBy w4 row.ownBlock) :
    w4.heap[b]? = some (.cells #[.string id, .string nm, .int .i64 0, row, .slice none 0 0, .bool false, .bool false, .int .i64 0] 45 (0, 0)) := by
  have hrow0 := h.own.lt
  have hb := heap_ltZ h.bx
  have hz3 : ((wr.alloc o1).alloc o2).heap.size = wr.heap.size + 2 := by simp
  rw [hgr.block b (by omega) (fun e => by have := (hrow0 b e.symm).1; omega)]
  exact ((alloc1 (wr.alloc o1) o2).block b (by simp; omega)).trans (((alloc1 wr o1).block b (by omega)).trans h.bx)
theorem NwI.next {w : World} {b : Nat} {id nm : ByteArray} {fs : List Fld} {wr w4 : World} {k : Nat} {row row' : Value} {o1 o2 : Obj} (h : NwI w b id nm fs wr k row) (hk : k < fs.length) (hw : w.heap.size ≤ b)
    (hown : w4.ownsRow (b + 1) 55 5 row' (k + 1) (((fs.take k).flatMap fun f => vCells f.y) ++ vCells fs[k].y)) (hgr : ((wr.alloc o1).alloc o2).grownBy w4 row.ownBlock) : NwI w b id nm fs (w4.setCell ⟨b, 3, none⟩ row') (k + 1) row' := by
  have hrow0 := h.own.lt
  have hb := heap_ltZ h.bx
  have hz4 := hgr.size
  have hz3 : ((wr.alloc o1).alloc o2).heap.size = wr.heap.size + 2 := by simp
  have hlow : ∀ m, m ≤ b → row.ownBlock ≠ some m := fun m hm e => by have := (hrow0 m e).1; omega
  have hkeep : ∀ m, m ≤ b → w4.heap[m]? = wr.heap[m]? := fun m hm => by
    rw [hgr.block m (by omega) (fun e => hlow m hm e.symm)]
    exact ((alloc1 (wr.alloc o1) o2).block m (by simp; omega)).trans ((alloc1 wr o1).block m (by omega))
  refine ⟨?_, ?_, ⟨?_, ?_, ?_, ?_, fun m hm => ?_⟩⟩
  · have h5 := setZ ((hkeep b (Nat.le_refl _)).trans h.bx) 3 row'
    simpa using h5
  · rw [List.take_succ_eq_append_getElem hk, List.flatMap_append, List.flatMap_cons, List.flatMap_nil, List.append_nil]
    exact ownsRow_setCell_below hown (a := ⟨b, 3, none⟩) (Nat.lt_succ_self b) row'
  · exact hgr.os.trans h.bel.os
  · exact hgr.tape.trans h.bel.tape
  · exact hgr.output.trans h.bel.output
  · have := h.bel.size; simp [World.setCell]; omega
  · rw [Below.heap_setCell w4 _ _ m (show m ≠ b by omega), hkeep m (by omega)]
    exact h.bel.block m hm
set_option maxHeartbeats 4000000 in
theorem kNew_any (ct : Ctr) (FA : Option Addr) (fc : Nat) (SA : Option Addr) (sc : Nat) (MA : Option Addr) (mc : Nat) (id : ByteArray) (w : World) (h : CtK w ct FA fc SA sc MA mc) :
    Calls Tryz.prog 20 #[agC ct.name FA ct.fs.length fc SA ct.ss.length sc MA ct.ms.length mc, .string id] w (GivesK (newK ct id) w) := by
  have hsf := fun (w : World) (a : Addr) (m : Mode) (b : Nat) => run_store Tryz.prog w a (.float .f64 b) m rfl
  have hb2 : Below w.heap.size w ((w.alloc (.cells #[.string ct.name, .slice FA ct.fs.length fc, .slice SA ct.ss.length sc, .slice MA ct.ms.length mc] 33)).alloc (.cells #[.string ⟨#[]⟩, .string ⟨#[]⟩, .int .i64 0, .slice none 0 0, .slice none 0 0, .bool false, .bool false, .int .i64 0] 45)) := (alloc1 _ _).trans ((alloc1 _ _).mono (by simp))
  have hbc2 := belowZ (heap_alloc_new w (.cells #[.string ct.name, .slice FA ct.fs.length fc, .slice SA ct.ss.length sc, .slice MA ct.ms.length mc] 33)) (alloc1 (w.alloc (.cells #[.string ct.name, .slice FA ct.fs.length fc, .slice SA ct.ss.length sc, .slice MA ct.ms.length mc] 33)) (.cells #[.string ⟨#[]⟩, .string ⟨#[]⟩, .int .i64 0, .slice none 0 0, .slice none 0 0, .bool false, .bool false, .int .i64 0] 45))
  have hbk := heap_alloc_new (w.alloc (.cells #[.string ct.name, .slice FA ct.fs.length fc, .slice SA ct.ss.length sc, .slice MA ct.ms.length mc] 33)) (.cells #[.string ⟨#[]⟩, .string ⟨#[]⟩, .int .i64 0, .slice none 0 0, .slice none 0 0, .bool false, .bool false, .int .i64 0] 45)
  rw [World.size_alloc] at hbk
  have HCK := Lib.hid (fun W (hb : Below w.heap.size w W) => cCheck_any ct FA fc SA sc MA mc W (h.below hb))
  have HN := Lib.hid (fun W => kName_any id W)
  have HF := Lib.hid (fun W (hb : Below w.heap.size w W) => h.f.below hb)
  have HB0 := Lib.hid hb2
  clear h hb2
  by_cases hc : checkC ct = 0
  case neg =>
    have hnk : newK ct id = (zK, 81) := by unfold newK; rw [if_neg hc]
    rw [hnk]
    have hcb : (checkC ct != 0) = true := by simpa using hc
    generalize checkC ct = ck at *
    clear hnk hc
    go_enter Tryz.func20, Tryz.ntmps20
    go_upto_region 1 with fail
    generalize (w.alloc (.cells #[.string ct.name, .slice FA ct.fs.length fc, .slice SA ct.ss.length sc, .slice MA ct.ms.length mc] 33)).alloc (.cells #[.string ⟨#[]⟩, .string ⟨#[]⟩, .int .i64 0, .slice none 0 0, .slice none 0 0, .bool false, .bool false, .int .i64 0] 45) = w0 at *
    have c0 := (heap_at hbc2 0).trans (rfl : _ = some (Value.string ct.name))
    have c1 := (heap_at hbc2 1).trans (rfl : _ = some (Value.slice FA ct.fs.length fc))
    have c2 := (heap_at hbc2 2).trans (rfl : _ = some (Value.slice SA ct.ss.length sc))
    have c3 := (heap_at hbc2 3).trans (rfl : _ = some (Value.slice MA ct.ms.length mc))
    have cf := heap_free hbc2
    have cl := heap_ltZ hbc2
    go_wp2_with fail
    refine (HCK.out _ HB0.out).mono ?_
    rintro _ w1 ⟨rfl, hb1⟩
    have hbk1 := belowZ hbk hb1
    have HB1 := Lib.hid (bel2 HB0.out hb1)
    clear hb1 hbk hbc2 c0 c1 c2 c3 cf cl
    have k0 := (heap_at hbk1 0).trans (rfl : _ = some (Value.string ⟨#[]⟩))
    have k1 := (heap_at hbk1 1).trans (rfl : _ = some (Value.string ⟨#[]⟩))
    have k2 := (heap_at hbk1 2).trans (rfl : _ = some (Value.int .i64 0))
    have k3 := (heap_at hbk1 3).trans (rfl : _ = some (Value.slice none 0 0))
    have k4 := (heap_at hbk1 4).trans (rfl : _ = some (Value.slice none 0 0))
    have k5 := (heap_at hbk1 5).trans (rfl : _ = some (Value.bool false))
    have k6 := (heap_at hbk1 6).trans (rfl : _ = some (Value.bool false))
    have k7 := (heap_at hbk1 7).trans (rfl : _ = some (Value.int .i64 0))
    have kf := heap_free hbk1
    have kl := heap_ltZ hbk1
    go_wp2
    exact bodyPost_ret (v := .tuple #[.agg (csK zK none 0 none 0), .int .i64 81]) (by simp [results, Tryz.results20, go_sem, k0, k1, k2, k3, k4, k5, k6, k7, kl, zK]) rfl (GivesK.mk (r := (zK, 81)) (Nat.le_succ _) (CsN.nil _ _ _ rfl rfl) HB1.out _ _ _ _ _ _ _ _)
  have hcb : (checkC ct != 0) = false := by simp [hc]
  by_cases hn : nameB id = true
  case neg =>
    have hnk : newK ct id = (zK, 50) := by unfold newK; rw [if_pos hc, if_neg hn]
    rw [hnk]
    have hnb : nameB id = false := by simpa using hn
    rw [hnb] at HN
    generalize checkC ct = ck at *
    clear hnk hc hn hnb
    go_enter Tryz.func20, Tryz.ntmps20
    go_upto_region 1 with fail
    generalize (w.alloc (.cells #[.string ct.name, .slice FA ct.fs.length fc, .slice SA ct.ss.length sc, .slice MA ct.ms.length mc] 33)).alloc (.cells #[.string ⟨#[]⟩, .string ⟨#[]⟩, .int .i64 0, .slice none 0 0, .slice none 0 0, .bool false, .bool false, .int .i64 0] 45) = w0 at *
    have c0 := (heap_at hbc2 0).trans (rfl : _ = some (Value.string ct.name))
    have c1 := (heap_at hbc2 1).trans (rfl : _ = some (Value.slice FA ct.fs.length fc))
    have c2 := (heap_at hbc2 2).trans (rfl : _ = some (Value.slice SA ct.ss.length sc))
    have c3 := (heap_at hbc2 3).trans (rfl : _ = some (Value.slice MA ct.ms.length mc))
    have cf := heap_free hbc2
    have cl := heap_ltZ hbc2
    go_wp2_with fail
    refine (HCK.out _ HB0.out).mono ?_
    rintro _ w1 ⟨rfl, hb1⟩
    have hbk1 := belowZ hbk hb1
    have HB1 := Lib.hid (bel2 HB0.out hb1)
    clear hb1 hbk hbc2 c0 c1 c2 c3 cf cl
    have k0 := (heap_at hbk1 0).trans (rfl : _ = some (Value.string ⟨#[]⟩))
    have k1 := (heap_at hbk1 1).trans (rfl : _ = some (Value.string ⟨#[]⟩))
    have k2 := (heap_at hbk1 2).trans (rfl : _ = some (Value.int .i64 0))
    have k3 := (heap_at hbk1 3).trans (rfl : _ = some (Value.slice none 0 0))
    have k4 := (heap_at hbk1 4).trans (rfl : _ = some (Value.slice none 0 0))
    have k5 := (heap_at hbk1 5).trans (rfl : _ = some (Value.bool false))
    have k6 := (heap_at hbk1 6).trans (rfl : _ = some (Value.bool false))
    have k7 := (heap_at hbk1 7).trans (rfl : _ = some (Value.int .i64 0))
    have kf := heap_free hbk1
    have kl := heap_ltZ hbk1
    go_wp2_with fail
    refine (HN.out _).mono ?_
    rintro _ w2 ⟨rfl, rfl⟩
    go_wp2
    exact bodyPost_ret (v := .tuple #[.agg (csK zK none 0 none 0), .int .i64 50]) (by simp [results, Tryz.results20, go_sem, k0, k1, k2, k3, k4, k5, k6, k7, kl, zK]) rfl (GivesK.mk (r := (zK, 50)) (Nat.le_succ _) (CsN.nil _ _ _ rfl rfl) HB1.out _ _ _ _ _ _ _ _)
  have hnk : newK ct id = (⟨id, ct.name, 0, ct.fs.map Fld.y, [], false, false, 0⟩, 0) := by unfold newK; rw [if_pos hc, if_pos hn]
  rw [hnk]
  have hf6 : ct.fs.length ≤ 6 := by
    obtain ⟨-, h2, -, -⟩ := check_parts hc
    unfold fieldsR at h2
    simp only [Bool.and_eq_true, decide_eq_true_eq] at h2
    omega
  rw [hn] at HN
  have HF6 := Lib.hid hf6
  generalize checkC ct = ck at *
  clear hnk hc hn hf6
  obtain ⟨i1, hi1, hz1, hsz1, hby1⟩ := infoZ infoVl
  go_enter Tryz.func20, Tryz.ntmps20
  go_upto_region 1 with fail
  generalize (w.alloc (.cells #[.string ct.name, .slice FA ct.fs.length fc, .slice SA ct.ss.length sc, .slice MA ct.ms.length mc] 33)).alloc (.cells #[.string ⟨#[]⟩, .string ⟨#[]⟩, .int .i64 0, .slice none 0 0, .slice none 0 0, .bool false, .bool false, .int .i64 0] 45) = w0 at *
  have c0 := (heap_at hbc2 0).trans (rfl : _ = some (Value.string ct.name))
  have c1 := (heap_at hbc2 1).trans (rfl : _ = some (Value.slice FA ct.fs.length fc))
  have c2 := (heap_at hbc2 2).trans (rfl : _ = some (Value.slice SA ct.ss.length sc))
  have c3 := (heap_at hbc2 3).trans (rfl : _ = some (Value.slice MA ct.ms.length mc))
  have cf := heap_free hbc2
  have cl := heap_ltZ hbc2
  go_wp2_with fail
  refine (HCK.out _ HB0.out).mono ?_
  rintro _ w1 ⟨rfl, hb1⟩
  have hbk1 := belowZ hbk hb1
  have hbc1 := belowZ hbc2 hb1
  have HB1 := Lib.hid (bel2 HB0.out hb1)
  clear hb1 hbk hbc2 c0 c1 c2 c3 cf cl
  have c0 := (heap_at hbc1 0).trans (rfl : _ = some (Value.string ct.name))
  have c1 := (heap_at hbc1 1).trans (rfl : _ = some (Value.slice FA ct.fs.length fc))
  have c2 := (heap_at hbc1 2).trans (rfl : _ = some (Value.slice SA ct.ss.length sc))
  have c3 := (heap_at hbc1 3).trans (rfl : _ = some (Value.slice MA ct.ms.length mc))
  have cf := heap_free hbc1
  have cl := heap_ltZ hbc1
  go_wp2_with fail
  refine (HN.out _).mono ?_
  rintro _ w2 ⟨rfl, rfl⟩
  have hwb : w.heap.size + 1 < w1.heap.size := heap_ltZ hbk1
  go_upto_region 6 with fail
  have HN0 := Lib.hid (show NwI w1 w1.heap.size id ct.name ct.fs (w1.alloc (.cells #[.string id, .string ct.name, .int .i64 0, .slice none 0 0, .slice none 0 0, .bool false, .bool false, .int .i64 0] 45)) 0 (.slice none 0 0) from ⟨heap_alloc_new _ _, World.ownsRow_nil _ _ _ _, alloc1 _ _⟩)
  generalize hw3 : w1.alloc (.cells #[.string id, .string ct.name, .int .i64 0, .slice none 0 0, .slice none 0 0, .bool false, .bool false, .int .i64 0] 45) = w3 at *
  generalize hbb : w1.heap.size = b at *
  have HBB := Lib.hid hbb
  have HWB := Lib.hid hwb
  have HBK := Lib.hid hbk1
  have HBC := Lib.hid (belowZ hbc1 (show Below w1.heap.size w1 w3 by rw [← hw3]; exact alloc1 _ _))
  clear hbb hwb hbk1 hbc1 hw3 c0 c1 c2 c3 cf cl
  have hx3 := HN0.out.bx
  have c0 := (heap_at HBC.out 0).trans (rfl : _ = some (Value.string ct.name))
  have c1 := (heap_at HBC.out 1).trans (rfl : _ = some (Value.slice FA ct.fs.length fc))
  have c2 := (heap_at HBC.out 2).trans (rfl : _ = some (Value.slice SA ct.ss.length sc))
  have c3 := (heap_at HBC.out 3).trans (rfl : _ = some (Value.slice MA ct.ms.length mc))
  have cf := heap_free HBC.out
  have cl := heap_ltZ HBC.out
  generalize hn : ct.fs.length = n at *
  have HNN := Lib.hid hn
  clear hn
  go_wp2
  go_loopw [24] (fun i wr => ∃ (k : Nat) (row : Value), k ≤ n ∧ i = .int .i64 k ∧ NwI w1 b id ct.name ct.fs wr k row) (fun i _ => n - (intOf i).toNat)
  case atStart => exact ⟨0, _, Nat.zero_le _, rfl, HN0.out⟩
  case round =>
    obtain ⟨k, row, hk, rfl, hi⟩ := hrel
    have HI := Lib.hid hi
    clear hi hx3 c0 c1 c2 c3 cf cl
    by_cases hlt : k < n
    · have hltI : (k : Int) < (n : Int) := by omega
      have hkf : k < ct.fs.length := by have := HNN.out; omega
      have hbel : Below w.heap.size w wr := bel2 HB1.out (show Below w1.heap.size w1 wr by rw [HBB.out]; exact HI.out.bel)
      obtain ⟨-, -, -, hfx⟩ := HF.out wr hbel
      obtain ⟨fa, hfa, hfb, QA, qc, ⟨p0, p1, p2, p3, p4, p5, p6, p7⟩, -⟩ := hfx k hkf
      subst hfa
      have hbx := HI.out.bx
      have hown := HI.out.own
      have HKF := Lib.hid hkf
      have HLT := Lib.hid hlt
      have x0 := (heap_at hbx 0).trans (rfl : _ = some (Value.string id))
      have x1 := (heap_at hbx 1).trans (rfl : _ = some (Value.string ct.name))
      have x2 := (heap_at hbx 2).trans (rfl : _ = some (Value.int .i64 0))
      have x3 := (heap_at hbx 3).trans (rfl : _ = some (row))
      have x4 := (heap_at hbx 4).trans (rfl : _ = some (Value.slice none 0 0))
      have x5 := (heap_at hbx 5).trans (rfl : _ = some (Value.bool false))
      have x6 := (heap_at hbx 6).trans (rfl : _ = some (Value.bool false))
      have x7 := (heap_at hbx 7).trans (rfl : _ = some (Value.int .i64 0))
      have xf := heap_free hbx
      have xl := heap_ltZ hbx
      have hfd : (ct.fs[k]).y = (ct.fs[k]).y := rfl
      generalize hf0 : ct.fs[k] = f at *
      have HF0 := Lib.hid hf0
      clear hf0 hfd hfx hlt hkf
      have HOW := Lib.hid ((hown.alloc (.cells #[.string f.f.name, .int .i64 f.f.kind, .slice QA f.en.length qc, .int .i64 f.y.k, .int .i64 f.y.i, .bool f.y.b, .string f.y.s, .float .f64 f.y.n] 83)).alloc (.cells (vCells f.y).toArray 55))
      have hrw := rows_one (wr.alloc (.cells #[.string f.f.name, .int .i64 f.f.kind, .slice QA f.en.length qc, .int .i64 f.y.k, .int .i64 f.y.i, .bool f.y.b, .string f.y.s, .float .f64 f.y.n] 83)) (vCells f.y) 55 5 rfl
      rw [World.size_alloc] at hrw
      have HRW := Lib.hid hrw
      have hb1 : k + 1 ≤ maxLen := by have := HF6.out; have := HLT.out; unfold maxLen; omega
      have hb2 : (k + 1) * 48 ≤ 140737488355328 := by have := HF6.out; have := HLT.out; omega
      have HBS := Lib.hid (And.intro hb1 hb2)
      have HONE := Lib.hid (show ∀ u ∈ vCells f.y, u.oneCell' = true from by have h := vCells_one [f.y]; simpa using h)
      have hbz : b + 1 ≤ ((wr.alloc (.cells #[.string f.f.name, .int .i64 f.f.kind, .slice QA f.en.length qc, .int .i64 f.y.k, .int .i64 f.y.i, .bool f.y.b, .string f.y.s, .float .f64 f.y.n] 83)).alloc (.cells (vCells f.y).toArray 55)).heap.size := by have := heap_ltZ hbx; simp only [World.size_alloc]; omega
      have HBZ := Lib.hid hbz
      clear hb1 hb2 hbz hrw hown
      have hn6 := HF6.out
      go_wp2_with (at_builtin; refine wpList_append_rows rfl (.tmp 29) (.tmp 32) 42 rfl (b + 1) 55 i1 (.agg #[.int .i64 0, .int .i64 0, .bool false, .string ⟨#[]⟩, .float .f64 0]) 5 48 Tryz.underlying42 hi1 hz1 hsz1 hby1 rfl (by decide) _ k _ rfl HOW.out _ 1 (vCells f.y) rfl HRW.out HONE.out HBS.out.1 HBS.out.2 HBZ.out ?_; intro v4 w4 hown4 hgr4 hor4; obtain ⟨A4, c4, rfl⟩ := own_sliceX hown4; have HNX := Lib.hid (NwI.next HI.out HKF.out (Nat.le_of_eq HBB.out) (by rw [← HF0.out] at hown4; exact hown4) hgr4); have hz4 := hgr4.size; have hbk4 := NwI.at4 HI.out hgr4; have x43 := (heap_at hbk4 3).trans (rfl : _ = some row); have x4f := heap_free hbk4; clear hown4 hgr4 hor4)
      go_roundw
      case rel =>
        have hl6 := HLT.out
        exact ⟨k + 1, _, by omega, by go_num, HNX.out⟩
      case measure =>
        have hl6 := HLT.out
        simp [intOf]; omega
    · obtain rfl : k = n := by omega
      have hltI : ¬ (k : Int) < (k : Int) := by omega
      have hown := HI.out.own
      rw [show (ct.fs.take k).flatMap (fun f => vCells f.y) = (ct.fs.map Fld.y).flatMap vCells by rw [← HNN.out, List.take_length, List.flatMap_map]] at hown
      have hlen : (ct.fs.map Fld.y).length = k := by rw [List.length_map]; exact HNN.out
      obtain ⟨A4, c4, rfl, hvn⟩ := vlN_own (T := fun m => w.heap.size + 1 < m) hown fun m hm => by have := HWB.out; omega
      have HVN := Lib.hid hvn
      have hbx := HI.out.bx
      have x0 := (heap_at hbx 0).trans (rfl : _ = some (Value.string id))
      have x1 := (heap_at hbx 1).trans (rfl : _ = some (Value.string ct.name))
      have x2 := (heap_at hbx 2).trans (rfl : _ = some (Value.int .i64 0))
      have x3 := (heap_at hbx 3).trans (rfl : _ = some (Value.slice A4 (ct.fs.map Fld.y).length c4))
      have x4 := (heap_at hbx 4).trans (rfl : _ = some (Value.slice none 0 0))
      have x5 := (heap_at hbx 5).trans (rfl : _ = some (Value.bool false))
      have x6 := (heap_at hbx 6).trans (rfl : _ = some (Value.bool false))
      have x7 := (heap_at hbx 7).trans (rfl : _ = some (Value.int .i64 0))
      have xf := heap_free hbx
      have xl := heap_ltZ hbx
      have hbk := (HI.out.bel.block (w.heap.size + 1) (by have := HWB.out; omega)).trans HBK.out
      have k0 := (heap_at hbk 0).trans (rfl : _ = some (Value.string ⟨#[]⟩))
      have k1 := (heap_at hbk 1).trans (rfl : _ = some (Value.string ⟨#[]⟩))
      have k2 := (heap_at hbk 2).trans (rfl : _ = some (Value.int .i64 0))
      have k3 := (heap_at hbk 3).trans (rfl : _ = some (Value.slice none 0 0))
      have k4 := (heap_at hbk 4).trans (rfl : _ = some (Value.slice none 0 0))
      have k5 := (heap_at hbk 5).trans (rfl : _ = some (Value.bool false))
      have k6 := (heap_at hbk 6).trans (rfl : _ = some (Value.bool false))
      have k7 := (heap_at hbk 7).trans (rfl : _ = some (Value.int .i64 0))
      have kf := heap_free hbk
      have kl := heap_ltZ hbk
      clear hown hvn hbx hbk
      go_wp2
      exact bodyPost_ret (v := .tuple #[.agg (csK ⟨id, ct.name, 0, ct.fs.map Fld.y, [], false, false, 0⟩ A4 c4 none 0), .int .i64 0]) (by simp [results, Tryz.results20, go_sem, k0, k1, k2, k3, k4, k5, k6, k7, kl, HNN.out]) rfl (GivesK.mk (r := (⟨id, ct.name, 0, ct.fs.map Fld.y, [], false, false, 0⟩, 0)) (Nat.le_succ _) ⟨HVN.out, RowN.nil _ _ _ _⟩ (bel2 HB1.out (show Below w1.heap.size w1 wr by rw [HBB.out]; exact HI.out.bel)) _ _ _ _ _ _ _ _)
end Go.Proofs.YtachhcabgggimaaGreat

/- Layer 7: what deeds stand on; barred, resume. (Made by gen/gendeed.py.) -/
namespace Go.Proofs.YtachhcabgggimaaGreat
open Go.RowKit
set_option linter.unusedVariables false
set_option linter.unusedSimpArgs false
set_option maxRecDepth 20000

abbrev csD (ct : Ctr) (FA : Option Addr) (fc : Nat) (SA : Option Addr) (sc : Nat) (MA : Option Addr) (mc : Nat) (nm : ByteArray) (v : Vl) (org : Int) : Array Value := #[.string ct.name, .slice FA ct.fs.length fc, .slice SA ct.ss.length sc, .slice MA ct.ms.length mc, .string nm, .int .i64 v.k, .int .i64 v.i, .bool v.b, .string v.s, .float .f64 v.n, .int .i64 org]
structure DdK (w : World) (base B : Nat) (k : Cse) (VA : Option Addr) (vc : Nat) (EA : Option Addr) (ec : Nat) : Prop where
  lt : B < base
  bz : base ≤ w.heap.size
  b : w.heap[B]? = some (.cells (csK k VA vc EA ec) 45 (0, 0))
  v : w.ownsRow base 55 5 (.slice VA k.vals.length vc) k.vals.length (k.vals.flatMap vCells)
  e : w.ownsRow base 3 1 (.slice EA k.ends.length ec) k.ends.length (k.ends.map (Value.int .i64))
theorem DdK.below {w w' : World} {base B : Nat} {k : Cse} {VA : Option Addr} {vc : Nat} {EA : Option Addr} {ec : Nat} (h : DdK w base B k VA vc EA ec) (hb : Below w.heap.size w w') : DdK w' base B k VA vc EA ec :=
  ⟨h.lt, Nat.le_trans h.bz hb.size, belowZ h.b hb, own_belowX h.v hb, own_belowX h.e hb⟩
theorem DdK.vlk {w : World} {base B : Nat} {k : Cse} {VA : Option Addr} {vc : Nat} {EA : Option Addr} {ec : Nat} (h : DdK w base B k VA vc EA ec) : VlN (fun b => base ≤ b) w VA vc k.vals := by
  obtain ⟨A, c, e, h2⟩ := vlN_own (T := fun b => base ≤ b) h.v fun b hb => hb
  injection e with e1 e2 e3
  subst e1 e3
  exact h2
theorem DdK.isn {w : World} {base B : Nat} {k : Cse} {VA : Option Addr} {vc : Nat} {EA : Option Addr} {ec : Nat} (h : DdK w base B k VA vc EA ec) : IsN (fun b => base ≤ b) w EA ec k.ends := by
  obtain ⟨A, c, e, h2⟩ := isN_own (T := fun b => base ≤ b) h.e fun b hb => hb
  injection e with e1 e2 e3
  subst e1 e3
  exact h2
theorem DdK.csn {w : World} {base B : Nat} {k : Cse} {VA : Option Addr} {vc : Nat} {EA : Option Addr} {ec : Nat} (h : DdK w base B k VA vc EA ec) : CsN (fun b => base ≤ b) w k VA vc EA ec := ⟨h.vlk, h.isn⟩
structure Frm (base B : Nat) (w w' : World) : Prop where
  os : w'.os = w.os
  tape : w'.tape = w.tape
  output : w'.output = w.output
  size : w.heap.size ≤ w'.heap.size
  block : ∀ m, m < base → m ≠ B → w'.heap[m]? = w.heap[m]?
theorem Frm.refl (base B : Nat) (w : World) : Frm base B w w := ⟨rfl, rfl, rfl, Nat.le_refl _, fun _ _ _ => rfl⟩
theorem Frm.of {base B : Nat} {w w' : World} (hz : base ≤ w.heap.size) (h : Below w.heap.size w w') : Frm base B w w' := ⟨h.os, h.tape, h.output, h.size, fun m hm _ => h.block m (by omega)⟩
theorem Frm.trans {base B : Nat} {w w1 w2 : World} (h : Frm base B w w1) (h2 : Frm base B w1 w2) : Frm base B w w2 := ⟨h2.os.trans h.os, h2.tape.trans h.tape, h2.output.trans h.output, Nat.le_trans h.size h2.size, fun m hm hB => (h2.block m hm hB).trans (h.block m hm hB)⟩
theorem Frm.drew {base B : Nat} {w w1 : World} (h : Frm base B w w1) : Frm base B w w1.drew := ⟨h.os, h.tape, h.output, h.size, h.block⟩
theorem Frm.setc {base B : Nat} {w w0 : World} (h : Frm base B w w0) (j : Nat) (u : Value) : Frm base B w (w0.setCell ⟨B, j, none⟩ u) :=
  ⟨h.os, h.tape, h.output, by simpa [World.setCell] using h.size, fun m hm hB => (Below.heap_setCell w0 _ u m hB).trans (h.block m hm hB)⟩
def StepP (base B : Nat) (r : Cse × Int) (w : World) (e : Ending) (w' : World) : Prop := ∃ VA vc EA ec, e = .returned (.int .i64 r.2) ∧ DdK w' base B r.1 VA vc EA ec ∧ Frm base B w w'
theorem StepP.stay {base B : Nat} {k : Cse} {n : Int} {w w' : World} {VA : Option Addr} {vc : Nat} {EA : Option Addr} {ec : Nat} (h : DdK w base B k VA vc EA ec) (hb : Below w.heap.size w w') : StepP base B (k, n) w (.returned (.int .i64 n)) w' := ⟨VA, vc, EA, ec, rfl, h.below hb, Frm.of h.bz hb⟩
theorem DdK.setc {w : World} {base B : Nat} {k k' : Cse} {VA : Option Addr} {vc : Nat} {EA : Option Addr} {ec : Nat} (h : DdK w base B k VA vc EA ec) (j : Nat) (u : Value) (hv : k'.vals = k.vals) (he : k'.ends = k.ends) (hc : (csK k VA vc EA ec).setIfInBounds j u = csK k' VA vc EA ec) : DdK (w.setCell ⟨B, j, none⟩ u) base B k' VA vc EA ec :=
  ⟨h.lt, by have := h.bz; simpa [World.setCell] using this, by rw [← hc]; exact setZ h.b j u, by rw [hv]; exact ownsRow_setCell_below h.v (a := ⟨B, j, none⟩) h.lt u, by rw [he]; exact ownsRow_setCell_below h.e (a := ⟨B, j, none⟩) h.lt u⟩
theorem DdK.setn {w : World} {base B : Nat} {k k' : Cse} {VA : Option Addr} {vc : Nat} {EA : Option Addr} {ec : Nat} (h : DdK w base B k VA vc EA ec) (hv : k'.vals = k.vals) (he : k'.ends = []) (hc : (csK k VA vc EA ec).setIfInBounds 4 (.slice none 0 0) = csK k' VA vc none 0) : DdK (w.setCell ⟨B, 4, none⟩ (.slice none 0 0)) base B k' VA vc none 0 :=
  ⟨h.lt, by have := h.bz; simpa [World.setCell] using this, by rw [← hc]; exact setZ h.b 4 _, by rw [hv]; exact ownsRow_setCell_below h.v (a := ⟨B, 4, none⟩) h.lt _, by rw [he]; exact World.ownsRow_nil _ _ _ _⟩
theorem barred_any (k : Cse) (VA : Option Addr) (vc : Nat) (EA : Option Addr) (ec : Nat) (d : Int) (h3 : 3 ≤ d) (h9 : d ≤ 9) (w : World) :
    Calls Tryz.prog 94 #[.agg (csK k VA vc EA ec), .int .i64 d] w (VMk (.int .i64 (barK k d)) w) := by
  obtain ⟨id, kc, st, vals, ends, su, sh, sp⟩ := k
  have hd : d = 3 ∨ d = 4 ∨ d = 5 ∨ d = 6 ∨ d = 7 ∨ d = 8 ∨ d = 9 := by omega
  clear h3 h9
  rcases hd with rfl | rfl | rfl | rfl | rfl | rfl | rfl
  all_goals
    cases su
    all_goals
      cases sh
      all_goals
        go_enter Tryz.func94, Tryz.ntmps94
        go_wp2
        go_ret
        exact ⟨rfl, alloc1 _ _⟩
theorem resume_any (k : Cse) (VA : Option Addr) (vc : Nat) (EA : Option Addr) (ec : Nat) (base B : Nat) (w : World) (h : DdK w base B k VA vc EA ec) :
    Calls Tryz.prog 98 #[.pointer (some ⟨B, 0, none⟩)] w (StepP base B (if k.susp = true then ({ k with susp := false }, 0) else (k, 75)) w) := by
  have hb := h.b
  have HD := Lib.hid h
  clear h
  obtain ⟨id, kc, st, vals, ends, su, sh, sp⟩ := k
  have k0 := (heap_at hb 0).trans (rfl : _ = some (Value.string id))
  have k1 := (heap_at hb 1).trans (rfl : _ = some (Value.string kc))
  have k2 := (heap_at hb 2).trans (rfl : _ = some (Value.int .i64 st))
  have k3 := (heap_at hb 3).trans (rfl : _ = some (Value.slice VA vals.length vc))
  have k4 := (heap_at hb 4).trans (rfl : _ = some (Value.slice EA ends.length ec))
  have k5 := (heap_at hb 5).trans (rfl : _ = some (Value.bool su))
  have k6 := (heap_at hb 6).trans (rfl : _ = some (Value.bool sh))
  have k7 := (heap_at hb 7).trans (rfl : _ = some (Value.int .i64 sp))
  have kf := heap_free hb
  have kl := heap_ltZ hb
  clear hb
  cases su
  · show Calls _ _ _ _ (StepP base B (⟨id, kc, st, vals, ends, false, sh, sp⟩, 75) w)
    go_enter Tryz.func98, Tryz.ntmps98
    go_wp2
    go_ret
    exact StepP.stay HD.out (Below.refl _ _)
  · show Calls _ _ _ _ (StepP base B (⟨id, kc, st, vals, ends, false, sh, sp⟩, 0) w)
    go_enter Tryz.func98, Tryz.ntmps98
    go_wp2
    go_ret
    exact ⟨VA, vc, EA, ec, rfl, HD.out.setc 5 _ rfl rfl rfl, (Frm.refl _ _ _).setc 5 _⟩
end Go.Proofs.YtachhcabgggimaaGreat

/- Layer 7: Right by the program; what an error leaves. (Made by gen/gendeed.py.) -/
namespace Go.Proofs.YtachhcabgggimaaGreat
open Go.RowKit
set_option linter.unusedVariables false
set_option linter.unusedSimpArgs false
set_option maxRecDepth 20000

theorem stepK_err {c : Ctr} {k : Cse} {d : Int} {nm : ByteArray} {v : Vl} {ev : Ex → Vl × Int} {org : Int} (h : (stepK c k d nm v ev org).2 ≠ 0) : (stepK c k d nm v ev org).1 = k := by
  unfold stepK at h ⊢
  by_cases hb : barK k d ≠ 0
  · rw [if_pos hb]
  rw [if_neg hb] at h ⊢
  by_cases e3 : d = 3
  · rw [if_pos e3] at h ⊢
    by_cases hno : (stgAt c k.stage).orgs ≠ [] ∧ memI org (stgAt c k.stage).orgs = false
    · rw [updK_org hno]
    by_cases hp : placeN nm (c.fs.map fun f => f.f.name) 0 < 0
    · rw [updK_neg hno hp]
    obtain ⟨j, hj, -, hf⟩ := place_at nm c.fs (fun f => f.f.name) hp
    rw [updK_at hno hp hf] at h ⊢
    by_cases hv : fitsV v (c.fs[j]).f.kind (c.fs[j]).en = 0
    · rw [if_pos hv] at h; exact absurd rfl h
    · rw [if_neg hv]
  rw [if_neg e3] at h ⊢
  by_cases e4 : d = 4
  · rw [if_pos e4] at h ⊢
    unfold endK at h ⊢
    by_cases ho : memI org (stgAt c k.stage).orgs = true
    · rw [if_pos ho] at h ⊢
      by_cases hn : memI org k.ends = true
      · rw [if_pos hn]
      · rw [if_neg hn] at h; exact absurd rfl h
    · rw [if_neg ho]
  rw [if_neg e4] at h ⊢
  by_cases e5 : d = 5
  · rw [if_pos e5] at h ⊢
    by_cases hp : placeN nm (c.ms.map Mv.name) 0 < 0
    · rw [advK_neg hp]
    obtain ⟨j, hj, -, hm⟩ := place_at nm c.ms Mv.name hp
    rw [advK_at hp hm] at h ⊢
    by_cases hy : mayK c k c.ms[j] ev org ≠ 0
    · rw [if_pos hy]
    rw [if_neg hy] at h ⊢
    by_cases he : (effK c ev (c.ms[j]).effs k.vals).2 ≠ 0
    · rw [if_pos he]
    · rw [if_neg he] at h; exact absurd rfl h
  rw [if_neg e5] at h ⊢
  by_cases e6 : d = 6
  · rw [if_pos e6] at h; exact absurd rfl h
  rw [if_neg e6] at h ⊢
  by_cases e7 : d = 7
  · rw [if_pos e7] at h ⊢
    by_cases hs : k.susp = true
    · rw [if_pos hs] at h; exact absurd rfl h
    · rw [if_neg hs]
  rw [if_neg e7] at h ⊢
  by_cases e8 : d = 8
  · rw [if_pos e8] at h ⊢
    by_cases hl : leadsK c k.stage = true
    · rw [if_pos hl]
    · rw [if_neg hl] at h; exact absurd rfl h
  rw [if_neg e8] at h
  exact absurd rfl h
set_option maxHeartbeats 2000000 in
theorem kRight_any (ct : Ctr) (FA : Option Addr) (fc : Nat) (SA : Option Addr) (sc : Nat) (MA : Option Addr) (mc : Nat) (k : Cse) (VA : Option Addr) (vc : Nat) (EA : Option Addr) (ec : Nat) (w : World) (h : CtK w ct FA fc SA sc MA mc) (hk : CsK w k VA vc EA ec) :
    Calls Tryz.prog 22 #[agC ct.name FA ct.fs.length fc SA ct.ss.length sc MA ct.ms.length mc, .agg (csK k VA vc EA ec)] w (VMk (.bool (rightK ct k)) w) := by
  have hb2 : Below w.heap.size w ((w.alloc (.cells #[.string ct.name, .slice FA ct.fs.length fc, .slice SA ct.ss.length sc, .slice MA ct.ms.length mc] 33)).alloc (.cells #[.string k.id, .string k.ctr, .int .i64 k.stage, .slice VA k.vals.length vc, .slice EA k.ends.length ec, .bool k.susp, .bool k.shut, .int .i64 k.steps] 45)) := (alloc1 _ _).trans ((alloc1 _ _).mono (by simp))
  have hbc := belowZ (heap_alloc_new w (.cells #[.string ct.name, .slice FA ct.fs.length fc, .slice SA ct.ss.length sc, .slice MA ct.ms.length mc] 33)) (alloc1 (w.alloc (.cells #[.string ct.name, .slice FA ct.fs.length fc, .slice SA ct.ss.length sc, .slice MA ct.ms.length mc] 33)) (.cells #[.string k.id, .string k.ctr, .int .i64 k.stage, .slice VA k.vals.length vc, .slice EA k.ends.length ec, .bool k.susp, .bool k.shut, .int .i64 k.steps] 45))
  have hbk := heap_alloc_new (w.alloc (.cells #[.string ct.name, .slice FA ct.fs.length fc, .slice SA ct.ss.length sc, .slice MA ct.ms.length mc] 33)) (.cells #[.string k.id, .string k.ctr, .int .i64 k.stage, .slice VA k.vals.length vc, .slice EA k.ends.length ec, .bool k.susp, .bool k.shut, .int .i64 k.steps] 45)
  rw [World.size_alloc] at hbk
  have HCK := Lib.hid (fun W (hb : Below w.heap.size w W) => cCheck_any ct FA fc SA sc MA mc W (h.below hb))
  have HRF := Lib.hid (fun W (hb : Below w.heap.size w W) => rightFor_any ct FA fc SA sc MA mc k VA vc EA ec W (h.below hb) (hk.below hb))
  have HB2 := Lib.hid hb2
  have HR1 := Lib.hid (show checkC ct ≠ 0 → rightK ct k = false from fun h => by unfold rightK; simp [h])
  have HR2 := Lib.hid (show checkC ct = 0 → rightK ct k = rightF ct k from fun h => by unfold rightK; simp [h])
  clear h hk hb2
  generalize rightK ct k = b at *
  generalize rightF ct k = b2 at *
  generalize checkC ct = y at *
  go_enter Tryz.func22, Tryz.ntmps22
  go_upto_region 1 with fail
  generalize (w.alloc (.cells #[.string ct.name, .slice FA ct.fs.length fc, .slice SA ct.ss.length sc, .slice MA ct.ms.length mc] 33)).alloc (.cells #[.string k.id, .string k.ctr, .int .i64 k.stage, .slice VA k.vals.length vc, .slice EA k.ends.length ec, .bool k.susp, .bool k.shut, .int .i64 k.steps] 45) = w1 at *
  have c0 := (heap_at hbc 0).trans (rfl : _ = some (Value.string ct.name))
  have c1 := (heap_at hbc 1).trans (rfl : _ = some (Value.slice FA ct.fs.length fc))
  have c2 := (heap_at hbc 2).trans (rfl : _ = some (Value.slice SA ct.ss.length sc))
  have c3 := (heap_at hbc 3).trans (rfl : _ = some (Value.slice MA ct.ms.length mc))
  have cf := heap_free hbc
  have cl := heap_ltZ hbc
  have k0 := (heap_at hbk 0).trans (rfl : _ = some (Value.string k.id))
  have k1 := (heap_at hbk 1).trans (rfl : _ = some (Value.string k.ctr))
  have k2 := (heap_at hbk 2).trans (rfl : _ = some (Value.int .i64 k.stage))
  have k3 := (heap_at hbk 3).trans (rfl : _ = some (Value.slice VA k.vals.length vc))
  have k4 := (heap_at hbk 4).trans (rfl : _ = some (Value.slice EA k.ends.length ec))
  have k5 := (heap_at hbk 5).trans (rfl : _ = some (Value.bool k.susp))
  have k6 := (heap_at hbk 6).trans (rfl : _ = some (Value.bool k.shut))
  have k7 := (heap_at hbk 7).trans (rfl : _ = some (Value.int .i64 k.steps))
  have kf := heap_free hbk
  have kl := heap_ltZ hbk
  by_cases hy : y = 0
  · have hb := HR2.out hy
    subst hb
    have hyb : (y == 0) = true := by simp [hy]
    have HBC := Lib.hid hbc
    have HBK := Lib.hid hbk
    clear hy hbc hbk
    go_wp2_with (first
      | (go_at_call 33; refine (HCK.out w1 HB2.out).mono ?_; rintro e w2 ⟨rfl, hb12⟩; have HB3 := Lib.hid (bel2 HB2.out hb12); have hc2 := belowZ HBC.out hb12; have hk2 := belowZ HBK.out hb12;
          have cc0 := (heap_at hc2 0).trans (rfl : _ = some (Value.string ct.name));
          have cc1 := (heap_at hc2 1).trans (rfl : _ = some (Value.slice FA ct.fs.length fc));
          have cc2 := (heap_at hc2 2).trans (rfl : _ = some (Value.slice SA ct.ss.length sc));
          have cc3 := (heap_at hc2 3).trans (rfl : _ = some (Value.slice MA ct.ms.length mc));
          have kk0 := (heap_at hk2 0).trans (rfl : _ = some (Value.string k.id));
          have kk1 := (heap_at hk2 1).trans (rfl : _ = some (Value.string k.ctr));
          have kk2 := (heap_at hk2 2).trans (rfl : _ = some (Value.int .i64 k.stage));
          have kk3 := (heap_at hk2 3).trans (rfl : _ = some (Value.slice VA k.vals.length vc));
          have kk4 := (heap_at hk2 4).trans (rfl : _ = some (Value.slice EA k.ends.length ec));
          have kk5 := (heap_at hk2 5).trans (rfl : _ = some (Value.bool k.susp));
          have kk6 := (heap_at hk2 6).trans (rfl : _ = some (Value.bool k.shut));
          have kk7 := (heap_at hk2 7).trans (rfl : _ = some (Value.int .i64 k.steps)); clear hb12 hc2 hk2)
      | (go_at_call 48; refine (HRF.out w2 HB3.out).mono ?_; rintro e w3 ⟨rfl, hb13⟩; have HB4 := Lib.hid (bel2 HB3.out hb13); clear hb13))
    go_ret
    exact ⟨rfl, HB4.out⟩
  · have hb := HR1.out hy
    subst hb
    have hyb : (y == 0) = false := by simpa using hy
    clear hy
    go_wp2_with (go_at_call 33; refine (HCK.out w1 HB2.out).mono ?_; rintro e w2 ⟨rfl, hb12⟩; have HB3 := Lib.hid (bel2 HB2.out hb12); clear hb12)
    go_ret
    exact ⟨rfl, HB3.out⟩
end Go.Proofs.YtachhcabgggimaaGreat

/- Layer 7: the stage that a case is in. (Made by gen/gendeed.py.) -/
namespace Go.Proofs.YtachhcabgggimaaGreat
open Go.RowKit
set_option linter.unusedVariables false
set_option linter.unusedSimpArgs false
set_option maxRecDepth 20000

def StgR (s : Stg) (w : World) (e : Ending) (w' : World) : Prop := ∃ A c, e = .returned (.agg #[.string s.name, .int .i64 s.need, .slice A s.orgs.length c]) ∧ Is w' (.slice A s.orgs.length c) s.orgs ∧ Below w.heap.size w w'
theorem below_setg {B b : Nat} {w w0 : World} (h : Below B w w0) (hb : B ≤ b) (j : Nat) (u : Value) : Below B w (w0.setCell ⟨b, j, none⟩ u) :=
  ⟨h.os, h.tape, h.output, by simpa [World.setCell] using h.size, fun m hm => (Below.heap_setCell w0 _ u m (show m ≠ b by omega)).trans (h.block m hm)⟩
theorem StgR.mk {s : Stg} {w W : World} {A : Option Addr} {c rb : Nat} (hso : Is w (.slice A s.orgs.length c) s.orgs) (hB : Below w.heap.size w W) (hb : w.heap.size ≤ rb) (u0 u1 u2 : Value) :
    StgR s w (.returned (.agg #[.string s.name, .int .i64 s.need, .slice A s.orgs.length c])) (((W.setCell ⟨rb, 0, none⟩ u0).setCell ⟨rb, 1, none⟩ u1).setCell ⟨rb, 2, none⟩ u2) :=
  have h := below_setg (below_setg (below_setg hB hb 0 u0) hb 1 u1) hb 2 u2
  ⟨A, c, rfl, Rd.below hso h (Nat.le_refl _), h⟩
theorem StgR.drew {s : Stg} {w w' : World} {e : Ending} (h : StgR s w e w') : StgR s w e w'.drew := by
  obtain ⟨A, c, h1, h2, h3⟩ := h
  exact ⟨A, c, h1, Rd.below h2 (Below.refl _ _).drew (Nat.le_refl _), h3.drew⟩
set_option maxHeartbeats 4000000 in
theorem dStage_any (ct : Ctr) (FA : Option Addr) (fc : Nat) (SA : Option Addr) (sc : Nat) (MA : Option Addr) (mc : Nat) (k : Cse) (VA : Option Addr) (vc : Nat) (EA : Option Addr) (ec : Nat) (nm : ByteArray) (v : Vl) (org : Int) (B : Nat) (w : World) (h : CtK w ct FA fc SA sc MA mc) (hb : w.heap[B]? = some (.cells (csK k VA vc EA ec) 45 (0, 0))) (h0 : 0 ≤ k.stage) (h1 : k.stage < (ct.ss.length : Int)) :
    Calls Tryz.prog 155 #[.agg (csD ct FA fc SA sc MA mc nm v org), .pointer (some ⟨B, 0, none⟩)] w (StgR (stgAt ct k.stage) w) := by
  obtain ⟨id, kc, st, vals, ends, su, sh, sp⟩ := k
  dsimp only at h0 h1 ⊢
  obtain ⟨j, rfl⟩ := Int.eq_ofNat_of_zero_le h0
  have hjl : j < ct.ss.length := by omega
  clear h0
  have hb2 : Below w.heap.size w ((w.alloc (.cells #[.string ct.name, .slice FA ct.fs.length fc, .slice SA ct.ss.length sc, .slice MA ct.ms.length mc, .string nm, .int .i64 v.k, .int .i64 v.i, .bool v.b, .string v.s, .float .f64 v.n, .int .i64 org] 95)).alloc (.cells #[.string ⟨#[]⟩, .int .i64 0, .slice none 0 0] 65)) := (alloc1 _ _).trans ((alloc1 _ _).mono (by simp))
  have hbd := belowZ (heap_alloc_new w (.cells #[.string ct.name, .slice FA ct.fs.length fc, .slice SA ct.ss.length sc, .slice MA ct.ms.length mc, .string nm, .int .i64 v.k, .int .i64 v.i, .bool v.b, .string v.s, .float .f64 v.n, .int .i64 org] 95)) (alloc1 (w.alloc (.cells #[.string ct.name, .slice FA ct.fs.length fc, .slice SA ct.ss.length sc, .slice MA ct.ms.length mc, .string nm, .int .i64 v.k, .int .i64 v.i, .bool v.b, .string v.s, .float .f64 v.n, .int .i64 org] 95)) (.cells #[.string ⟨#[]⟩, .int .i64 0, .slice none 0 0] 65))
  have hbs := heap_alloc_new (w.alloc (.cells #[.string ct.name, .slice FA ct.fs.length fc, .slice SA ct.ss.length sc, .slice MA ct.ms.length mc, .string nm, .int .i64 v.k, .int .i64 v.i, .bool v.b, .string v.s, .float .f64 v.n, .int .i64 org] 95)) (.cells #[.string ⟨#[]⟩, .int .i64 0, .slice none 0 0] 65)
  rw [World.size_alloc] at hbs
  have hbk := belowZ hb hb2
  obtain ⟨sd, A, c, rfl, hsl, t0, t1, t2, hso⟩ := stg_at h.s hjl
  have s0 := (hb2.cell (by rw [block_add]; exact hsl)).trans t0
  have s1 := keepc hb2 (by rw [block_add]; exact hsl) t1
  have s2 := keepc hb2 (by rw [block_add]; exact hsl) t2
  have HSO := Lib.hid hso
  have HB := Lib.hid hb2
  clear hb2 hso hb h t0 t1 t2
  generalize stgAt ct (j : Int) = s at *
  go_enter Tryz.func155, Tryz.ntmps155
  go_upto_region 1 with fail
  generalize (w.alloc (.cells #[.string ct.name, .slice FA ct.fs.length fc, .slice (some sd) ct.ss.length sc, .slice MA ct.ms.length mc, .string nm, .int .i64 v.k, .int .i64 v.i, .bool v.b, .string v.s, .float .f64 v.n, .int .i64 org] 95)).alloc (.cells #[.string ⟨#[]⟩, .int .i64 0, .slice none 0 0] 65) = w1 at *
  have d0 := (heap_at hbd 0).trans (rfl : _ = some (Value.string ct.name))
  have d1 := (heap_at hbd 1).trans (rfl : _ = some (Value.slice FA ct.fs.length fc))
  have d2 := (heap_at hbd 2).trans (rfl : _ = some (Value.slice (some sd) ct.ss.length sc))
  have d3 := (heap_at hbd 3).trans (rfl : _ = some (Value.slice MA ct.ms.length mc))
  have d4 := (heap_at hbd 4).trans (rfl : _ = some (Value.string nm))
  have d5 := (heap_at hbd 5).trans (rfl : _ = some (Value.int .i64 v.k))
  have d6 := (heap_at hbd 6).trans (rfl : _ = some (Value.int .i64 v.i))
  have d7 := (heap_at hbd 7).trans (rfl : _ = some (Value.bool v.b))
  have d8 := (heap_at hbd 8).trans (rfl : _ = some (Value.string v.s))
  have d9 := (heap_at hbd 9).trans (rfl : _ = some (Value.float .f64 v.n))
  have d10 := (heap_at hbd 10).trans (rfl : _ = some (Value.int .i64 org))
  have df := heap_free hbd
  have dl := heap_ltZ hbd
  have r0 := (heap_at hbs 0).trans (rfl : _ = some (Value.string ⟨#[]⟩))
  have r1 := (heap_at hbs 1).trans (rfl : _ = some (Value.int .i64 0))
  have r2 := (heap_at hbs 2).trans (rfl : _ = some (Value.slice none 0 0))
  have rf := heap_free hbs
  have rl := heap_ltZ hbs
  have k0 := (heap_at hbk 0).trans (rfl : _ = some (Value.string id))
  have k1 := (heap_at hbk 1).trans (rfl : _ = some (Value.string kc))
  have k2 := (heap_at hbk 2).trans (rfl : _ = some (Value.int .i64 j))
  have k3 := (heap_at hbk 3).trans (rfl : _ = some (Value.slice VA vals.length vc))
  have k4 := (heap_at hbk 4).trans (rfl : _ = some (Value.slice EA ends.length ec))
  have k5 := (heap_at hbk 5).trans (rfl : _ = some (Value.bool su))
  have k6 := (heap_at hbk 6).trans (rfl : _ = some (Value.bool sh))
  have k7 := (heap_at hbk 7).trans (rfl : _ = some (Value.int .i64 sp))
  have kf := heap_free hbk
  have kl := heap_ltZ hbk
  clear hbd hbs hbk
  go_region
  all_goals
    go_wp2
    exact bodyPost_ret (v := .agg #[.string s.name, .int .i64 s.need, .slice A s.orgs.length c]) (by simp [results, Tryz.results155, go_sem, r0, r1, r2, rl]) rfl (StgR.mk HSO.out HB.out.drew (Nat.le_succ _) _ _ _)
end Go.Proofs.YtachhcabgggimaaGreat

/- Layer 7: slices.Insert, slices.BinarySearch at []int: the shelf's contracts, laid. -/
namespace Go.Proofs.YtachhcabgggimaaGreat
open Go.RowKit Go.Shelf
set_option linter.unusedVariables false
set_option linter.unusedSimpArgs false
set_option maxRecDepth 20000

def renF : FuncId → FuncId
  | 21 => 157
  | 25 => 156
  | 27 => 205
  | 28 => 206
  | 31 => 203
  | 32 => 204
  | 35 => 236
  | 37 => 235
  | 39 => 253
  | n => n
def renT : TypeId → TypeId
  | 0 => 0
  | 3 => 3
  | 4 => 4
  | 22 => 43
  | 40 => 214
  | n => n
def renI : Ren := ⟨renF, renT, fun n => n⟩
theorem lay_insert : Lays2.n21 Tryz.prog renI where
  mixed := by kernel_rfl
  f21 := by kernel_rfl
  f27 := by kernel_rfl
  f28 := by kernel_rfl
  f35 := by kernel_rfl
  f39 := by kernel_rfl
  t0 := by kernel_rfl
  a0 := fun w => by kernel_rfl
  z0 := fun w => by kernel_rfl
  v0 := fun w => by kernel_rfl
  t3 := by kernel_rfl
  a3 := fun w => by kernel_rfl
  z3 := fun w => by kernel_rfl
  v3 := fun w => by kernel_rfl
  t4 := by kernel_rfl
  a4 := fun w => by kernel_rfl
  z4 := fun w => by kernel_rfl
  v4 := fun w => by kernel_rfl
  t22 := by kernel_rfl
  a22 := fun w => by kernel_rfl
  z22 := fun w => by kernel_rfl
  v22 := fun w => by kernel_rfl
  i3 := by kernel_rfl
theorem lay_search : Lays2.n25 Tryz.prog renI where
  mixed := by kernel_rfl
  f25 := by kernel_rfl
  f31 := by kernel_rfl
  f32 := by kernel_rfl
  f37 := by kernel_rfl
  t0 := by kernel_rfl
  a0 := fun w => by kernel_rfl
  z0 := fun w => by kernel_rfl
  v0 := fun w => by kernel_rfl
  t3 := by kernel_rfl
  a3 := fun w => by kernel_rfl
  z3 := fun w => by kernel_rfl
  v3 := fun w => by kernel_rfl
  t4 := by kernel_rfl
  a4 := fun w => by kernel_rfl
  z4 := fun w => by kernel_rfl
  v4 := fun w => by kernel_rfl
  t22 := by kernel_rfl
  a22 := fun w => by kernel_rfl
  z22 := fun w => by kernel_rfl
  v22 := fun w => by kernel_rfl
  t40 := by kernel_rfl
  a40 := fun w => by kernel_rfl
  z40 := fun w => by kernel_rfl
  v40 := fun w => by kernel_rfl
end Go.Proofs.YtachhcabgggimaaGreat
