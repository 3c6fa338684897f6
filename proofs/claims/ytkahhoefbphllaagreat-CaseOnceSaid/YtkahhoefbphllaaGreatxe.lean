/- xe: KRight2 KClone KNew KDeed KDo0 KStage KLay KUpd (made by shake.py). -/
import Derived.Shelf.Spec.SlicesInsert
import Derived.Shelf.Spec.SlicesInsertGrow
import Derived.Shelf.Slices.SearchI
import Derived.Shelf.Slices.Empties
import Derived.Deep.OwnRows
import Derived.Test.YtkahhoefbphllaaGreatxd
/- Layer 7: rightFor, Right, by the program. (Made by gen/gencase.py.) -/
namespace Go.Proofs.YtkahhoefbphllaaGreat
open Go.RowKit
set_option linter.unusedVariables false
set_option linter.unusedSimpArgs false
set_option maxRecDepth 20000

theorem stg_at {w : World} {SA : Option Addr} {sc : Nat} {ct : Ctr} (h : StgK w SA sc ct.ss) {j : Nat} (hj : j < ct.ss.length) : ∃ (ad : Addr) (A : Option Addr) (c : Nat), SA = some ad ∧ ad.block < w.heap.size ∧ w.cell? (ad.add (j * 3)) = some (.string (stgAt ct (j : Int)).name) ∧
    w.cell? ⟨(ad.add (j * 3)).block, (ad.add (j * 3)).off + 1, none⟩ = some (.int .i64 (stgAt ct (j : Int)).need) ∧ w.cell? ⟨(ad.add (j * 3)).block, (ad.add (j * 3)).off + 2, none⟩ = some (.slice A (stgAt ct (j : Int)).orgs.length c) ∧ Is w (.slice A (stgAt ct (j : Int)).orgs.length c) (stgAt ct (j : Int)).orgs := by
  obtain ⟨-, -, -, h4⟩ := h
  obtain ⟨ad, e1, e2, A, c, e3, e4, e5, e6⟩ := h4 j hj
  have hs : stgAt ct (j : Int) = ct.ss[j] := by
    unfold stgAt
    rw [Int.toNat_natCast, List.getElem?_eq_getElem hj]
    rfl
  rw [hs]
  exact ⟨ad, A, c, e1, e2, e3, e4, e5, e6⟩
set_option maxHeartbeats 16000000 in
theorem rightFor_any (ct : Ctr) (FA : Option Addr) (fc : Nat) (SA : Option Addr) (sc : Nat) (MA : Option Addr) (mc : Nat) (k : Cse) (VA : Option Addr) (vc : Nat) (EA : Option Addr) (ec : Nat) (w : World) (hc : CtK w ct FA fc SA sc MA mc) (hk : CsK w k VA vc EA ec) :
    Calls Tryz.prog 50 #[agC ct.name FA ct.fs.length fc SA ct.ss.length sc MA ct.ms.length mc, .agg (csK k VA vc EA ec)] w (VMk (.bool (rightF ct k)) w) := by
  obtain ⟨id, kc, st, vals, ends, su, sh, sp⟩ := k
  obtain ⟨hv, he⟩ := hk
  dsimp only at hv he ⊢
  have hRF : rightF ct ⟨id, kc, st, vals, ends, su, sh, sp⟩ = (nameB id && (kc.toList == ct.name.toList) && (decide (0 ≤ st) && decide (st < (ct.ss.length : Int))) && ((vals.length == ct.fs.length) && fitK vals ct.fs) && endsR (stgAt ct st).orgs (-1) ends && !(su && sh) && (decide (0 ≤ sp) && decide (sp ≤ 1099511627776))) := rfl
  rw [hRF]
  clear hRF
  have hb2 : Below w.heap.size w ((w.alloc (.cells #[.string ct.name, .slice FA ct.fs.length fc, .slice SA ct.ss.length sc, .slice MA ct.ms.length mc] 33)).alloc (.cells #[.string id, .string kc, .int .i64 st, .slice VA vals.length vc, .slice EA ends.length ec, .bool su, .bool sh, .int .i64 sp] 45)) := (alloc1 _ _).trans ((alloc1 _ _).mono (by simp))
  have hbc := (heap_alloc_new w (.cells #[.string ct.name, .slice FA ct.fs.length fc, .slice SA ct.ss.length sc, .slice MA ct.ms.length mc] 33))
  have hbc2 := belowZ hbc (alloc1 (w.alloc (.cells #[.string ct.name, .slice FA ct.fs.length fc, .slice SA ct.ss.length sc, .slice MA ct.ms.length mc] 33)) (.cells #[.string id, .string kc, .int .i64 st, .slice VA vals.length vc, .slice EA ends.length ec, .bool su, .bool sh, .int .i64 sp] 45))
  have hbk := heap_alloc_new (w.alloc (.cells #[.string ct.name, .slice FA ct.fs.length fc, .slice SA ct.ss.length sc, .slice MA ct.ms.length mc] 33)) (.cells #[.string id, .string kc, .int .i64 st, .slice VA vals.length vc, .slice EA ends.length ec, .bool su, .bool sh, .int .i64 sp] 45)
  rw [World.size_alloc] at hbk
  have HN := Lib.hid (fun W => kName_any id W)
  have HFT := Lib.hid (fun W (hb : Below w.heap.size w W) => fitAll_any VA vc vals FA fc ct.fs W (hv.below hb (Nat.le_refl _)) (hc.f.below hb))
  have HSS := Lib.hid (fun W (hb : Below w.heap.size w W) => hc.s.below hb)
  have HEE := Lib.hid (fun W (hb : Below w.heap.size w W) => Rd.below he hb (Nat.le_refl _))
  have HB0 := Lib.hid hb2
  clear hv he hc hb2 hbc
  generalize nameB id = b0 at *
  generalize ((vals.length == ct.fs.length) && fitK vals ct.fs) = b4 at *
  generalize hh1 : (kc.toList == ct.name.toList) = b1 at *
  go_enter Tryz.func50, Tryz.ntmps50
  go_upto_region 1 with fail
  generalize (w.alloc (.cells #[.string ct.name, .slice FA ct.fs.length fc, .slice SA ct.ss.length sc, .slice MA ct.ms.length mc] 33)).alloc (.cells #[.string id, .string kc, .int .i64 st, .slice VA vals.length vc, .slice EA ends.length ec, .bool su, .bool sh, .int .i64 sp] 45) = w1 at *
  have c0 := (heap_at hbc2 0).trans (rfl : _ = some (Value.string ct.name))
  have c1 := (heap_at hbc2 1).trans (rfl : _ = some (Value.slice FA ct.fs.length fc))
  have c2 := (heap_at hbc2 2).trans (rfl : _ = some (Value.slice SA ct.ss.length sc))
  have c3 := (heap_at hbc2 3).trans (rfl : _ = some (Value.slice MA ct.ms.length mc))
  have k0 := (heap_at hbk 0).trans (rfl : _ = some (Value.string id))
  have k1 := (heap_at hbk 1).trans (rfl : _ = some (Value.string kc))
  have k2 := (heap_at hbk 2).trans (rfl : _ = some (Value.int .i64 st))
  have k3 := (heap_at hbk 3).trans (rfl : _ = some (Value.slice VA vals.length vc))
  have k4 := (heap_at hbk 4).trans (rfl : _ = some (Value.slice EA ends.length ec))
  have k5 := (heap_at hbk 5).trans (rfl : _ = some (Value.bool su))
  have k6 := (heap_at hbk 6).trans (rfl : _ = some (Value.bool sh))
  have k7 := (heap_at hbk 7).trans (rfl : _ = some (Value.int .i64 sp))
  clear hbc2 hbk
  have HK := Lib.hid (show ∀ W, Below w1.heap.size w1 W → (fun W => Below w1.heap.size w1 W ∧ W.cell? ⟨w.heap.size, 0, none⟩ = some (.string ct.name) ∧ W.cell? ⟨w.heap.size, 1, none⟩ = some (.slice FA ct.fs.length fc) ∧ W.cell? ⟨w.heap.size, 2, none⟩ = some (.slice SA ct.ss.length sc) ∧ W.cell? ⟨w.heap.size, 3, none⟩ = some (.slice MA ct.ms.length mc) ∧ W.cell? ⟨(w.heap.size + 1), 0, none⟩ = some (.string id) ∧ W.cell? ⟨(w.heap.size + 1), 1, none⟩ = some (.string kc) ∧ W.cell? ⟨(w.heap.size + 1), 2, none⟩ = some (.int .i64 st) ∧ W.cell? ⟨(w.heap.size + 1), 3, none⟩ = some (.slice VA vals.length vc) ∧ W.cell? ⟨(w.heap.size + 1), 4, none⟩ = some (.slice EA ends.length ec) ∧ W.cell? ⟨(w.heap.size + 1), 5, none⟩ = some (.bool su) ∧ W.cell? ⟨(w.heap.size + 1), 6, none⟩ = some (.bool sh) ∧ W.cell? ⟨(w.heap.size + 1), 7, none⟩ = some (.int .i64 sp)) W from fun W h => ⟨h, (h.cell (World.block_lt_of_cell? _ _ c0)).trans c0, (h.cell (World.block_lt_of_cell? _ _ c1)).trans c1, (h.cell (World.block_lt_of_cell? _ _ c2)).trans c2, (h.cell (World.block_lt_of_cell? _ _ c3)).trans c3, (h.cell (World.block_lt_of_cell? _ _ k0)).trans k0, (h.cell (World.block_lt_of_cell? _ _ k1)).trans k1, (h.cell (World.block_lt_of_cell? _ _ k2)).trans k2, (h.cell (World.block_lt_of_cell? _ _ k3)).trans k3, (h.cell (World.block_lt_of_cell? _ _ k4)).trans k4, (h.cell (World.block_lt_of_cell? _ _ k5)).trans k5, (h.cell (World.block_lt_of_cell? _ _ k6)).trans k6, (h.cell (World.block_lt_of_cell? _ _ k7)).trans k7⟩)
  have HBr0 := Lib.hid (show Below w1.heap.size w1 w1.drew from (Below.refl _ _).drew)
  clear c0 c1 c2 c3 k0 k1 k2 k3 k4 k5 k6 k7
  refine wp_region_held_drew (S := (fun W => Below w1.heap.size w1 W ∧ W.cell? ⟨w.heap.size, 0, none⟩ = some (.string ct.name) ∧ W.cell? ⟨w.heap.size, 1, none⟩ = some (.slice FA ct.fs.length fc) ∧ W.cell? ⟨w.heap.size, 2, none⟩ = some (.slice SA ct.ss.length sc) ∧ W.cell? ⟨w.heap.size, 3, none⟩ = some (.slice MA ct.ms.length mc) ∧ W.cell? ⟨(w.heap.size + 1), 0, none⟩ = some (.string id) ∧ W.cell? ⟨(w.heap.size + 1), 1, none⟩ = some (.string kc) ∧ W.cell? ⟨(w.heap.size + 1), 2, none⟩ = some (.int .i64 st) ∧ W.cell? ⟨(w.heap.size + 1), 3, none⟩ = some (.slice VA vals.length vc) ∧ W.cell? ⟨(w.heap.size + 1), 4, none⟩ = some (.slice EA ends.length ec) ∧ W.cell? ⟨(w.heap.size + 1), 5, none⟩ = some (.bool su) ∧ W.cell? ⟨(w.heap.size + 1), 6, none⟩ = some (.bool sh) ∧ W.cell? ⟨(w.heap.size + 1), 7, none⟩ = some (.int .i64 sp))) (by kernel_rfl) (HK.out _ HBr0.out) (fun hHeld => ?_)
  refine wpAnyH_take (i := 0) (oi := ?oi1) (v := ?v1) ?hi1 (by kernel_rfl) (by kernel_rfl) (by kernel_rfl) ?hQ1 (Or.inl ⟨?hw1, ?hy1⟩) (by assumption) ?rest1
  case hi1 => (simp only [gA, gB, gC]; rfl)
  case hQ1 => exact fun _ _ _ h => h
  case hw1 => rfl
  case hy1 => (intro w hSw; (try dsimp only at hSw); go_simp; try with_reducible rfl)
  (try simp only [Act.put, sA, sB, sC])
  refine wpAnyH_take (i := 1) (oi := ?oi2) (v := ?v2) ?hi2 (by kernel_rfl) (by kernel_rfl) (by kernel_rfl) ?hQ2 (Or.inl ⟨?hw2, ?hy2⟩) (by assumption) ?rest2
  case hi2 => (simp only [gA, gB, gC]; rfl)
  case hQ2 => exact fun _ _ _ h => h
  case hw2 => rfl
  case hy2 => (intro w hSw; (try dsimp only at hSw); go_simp; try with_reducible rfl)
  (try simp only [Act.put, sA, sB, sC])
  refine wpAnyH_ready (rs := [2]) (by kernel_rfl) (by simp) ?_
  refine AllReadyH.cons (o := ?o3) ?ho3 (fun K hK => ?st3) AllReadyH.nil
  case ho3 => (simp only [gA, gB, gC]; rfl)
  go_simp
  refine (HN.out _).mono ?_
  rintro e w_ ⟨rfl, rfl⟩
  refine hK.out _ _ ?_ (fun hHeld => ?_)
  · (try dsimp only); (first | assumption | exact HK.out _ HBr2.out | exact HK.out _ HBr1.out | exact HK.out _ HBr0.out)
  clear hK K
  (try simp only [Act.put, sA, sB, sC])
  cases b0
  · skip
    refine wpAnyH_take (i := 3) (oi := ?oi4) (v := ?v4) ?hi4 (by kernel_rfl) (by kernel_rfl) (by kernel_rfl) ?hQ4 (Or.inl ⟨?hw4, ?hy4⟩) (by assumption) ?rest4
    case hi4 => (simp only [gA, gB, gC]; rfl)
    case hQ4 => exact fun _ _ _ h => h
    case hw4 => rfl
    case hy4 => (intro w hSw; (try dsimp only at hSw); go_simp; try with_reducible rfl)
    (try simp only [Act.put, sA, sB, sC])
    refine wpAnyH_take (i := 4) (oi := ?oi5) (v := undef) ?hi5 (by kernel_rfl) (by kernel_rfl) (by kernel_rfl) ?hQ5 (Or.inr ⟨?hw5, rfl⟩) (by assumption) ?rest5
    case hi5 => (simp only [gA, gB, gC]; rfl)
    case hQ5 => exact fun _ _ _ h => h
    case hw5 => rfl
    (try simp only [Act.put, sA, sB, sC])
    refine wpAnyH_take (i := 5) (oi := ?oi6) (v := undef) ?hi6 (by kernel_rfl) (by kernel_rfl) (by kernel_rfl) ?hQ6 (Or.inr ⟨?hw6, rfl⟩) (by assumption) ?rest6
    case hi6 => (simp only [gA, gB, gC]; rfl)
    case hQ6 => exact fun _ _ _ h => h
    case hw6 => rfl
    (try simp only [Act.put, sA, sB, sC])
    refine wpAnyH_take (i := 6) (oi := ?oi7) (v := undef) ?hi7 (by kernel_rfl) (by kernel_rfl) (by kernel_rfl) ?hQ7 (Or.inr ⟨?hw7, rfl⟩) (by assumption) ?rest7
    case hi7 => (simp only [gA, gB, gC]; rfl)
    case hQ7 => exact fun _ _ _ h => h
    case hw7 => rfl
    (try simp only [Act.put, sA, sB, sC])
    refine wpAnyH_take (i := 7) (oi := ?oi8) (v := undef) ?hi8 (by kernel_rfl) (by kernel_rfl) (by kernel_rfl) ?hQ8 (Or.inr ⟨?hw8, rfl⟩) (by assumption) ?rest8
    case hi8 => (simp only [gA, gB, gC]; rfl)
    case hQ8 => exact fun _ _ _ h => h
    case hw8 => rfl
    (try simp only [Act.put, sA, sB, sC])
    refine wpAnyH_take (i := 8) (oi := ?oi9) (v := undef) ?hi9 (by kernel_rfl) (by kernel_rfl) (by kernel_rfl) ?hQ9 (Or.inr ⟨?hw9, rfl⟩) (by assumption) ?rest9
    case hi9 => (simp only [gA, gB, gC]; rfl)
    case hQ9 => exact fun _ _ _ h => h
    case hw9 => rfl
    (try simp only [Act.put, sA, sB, sC])
    refine wpAnyH_take (i := 9) (oi := ?oi10) (v := ?v10) ?hi10 (by kernel_rfl) (by kernel_rfl) (by kernel_rfl) ?hQ10 (Or.inl ⟨?hw10, ?hy10⟩) (by assumption) ?rest10
    case hi10 => (simp only [gA, gB, gC]; rfl)
    case hQ10 => exact fun _ _ _ h => h
    case hw10 => rfl
    case hy10 => (intro w hSw; (try dsimp only at hSw); go_simp; try with_reducible rfl)
    (try simp only [Act.put, sA, sB, sC])
    refine wpAnyH_take (i := 10) (oi := ?oi11) (v := ?v11) ?hi11 (by kernel_rfl) (by kernel_rfl) (by kernel_rfl) ?hQ11 (Or.inl ⟨?hw11, ?hy11⟩) (by assumption) ?rest11
    case hi11 => (simp only [gA, gB, gC]; rfl)
    case hQ11 => exact fun _ _ _ h => h
    case hw11 => rfl
    case hy11 => (intro w hSw; (try dsimp only at hSw); go_simp; try with_reducible rfl)
    (try simp only [Act.put, sA, sB, sC])
    refine wpAnyH_take (i := 11) (oi := ?oi12) (v := undef) ?hi12 (by kernel_rfl) (by kernel_rfl) (by kernel_rfl) ?hQ12 (Or.inr ⟨?hw12, rfl⟩) (by assumption) ?rest12
    case hi12 => (simp only [gA, gB, gC]; rfl)
    case hQ12 => exact fun _ _ _ h => h
    case hw12 => rfl
    (try simp only [Act.put, sA, sB, sC])
    refine wpAnyH_take (i := 12) (oi := ?oi13) (v := undef) ?hi13 (by kernel_rfl) (by kernel_rfl) (by kernel_rfl) ?hQ13 (Or.inr ⟨?hw13, rfl⟩) (by assumption) ?rest13
    case hi13 => (simp only [gA, gB, gC]; rfl)
    case hQ13 => exact fun _ _ _ h => h
    case hw13 => rfl
    (try simp only [Act.put, sA, sB, sC])
    refine wpAnyH_take (i := 13) (oi := ?oi14) (v := undef) ?hi14 (by kernel_rfl) (by kernel_rfl) (by kernel_rfl) ?hQ14 (Or.inr ⟨?hw14, rfl⟩) (by assumption) ?rest14
    case hi14 => (simp only [gA, gB, gC]; rfl)
    case hQ14 => exact fun _ _ _ h => h
    case hw14 => rfl
    (try simp only [Act.put, sA, sB, sC])
    refine wpAnyH_take (i := 14) (oi := ?oi15) (v := ?v15) ?hi15 (by kernel_rfl) (by kernel_rfl) (by kernel_rfl) ?hQ15 (Or.inl ⟨?hw15, ?hy15⟩) (by assumption) ?rest15
    case hi15 => (simp only [gA, gB, gC]; rfl)
    case hQ15 => exact fun _ _ _ h => h
    case hw15 => rfl
    case hy15 => (intro w hSw; (try dsimp only at hSw); go_simp; try with_reducible rfl)
    (try simp only [Act.put, sA, sB, sC])
    refine wpAnyH_take (i := 15) (oi := ?oi16) (v := ?v16) ?hi16 (by kernel_rfl) (by kernel_rfl) (by kernel_rfl) ?hQ16 (Or.inl ⟨?hw16, ?hy16⟩) (by assumption) ?rest16
    case hi16 => (simp only [gA, gB, gC]; rfl)
    case hQ16 => exact fun _ _ _ h => h
    case hw16 => rfl
    case hy16 => (intro w hSw; (try dsimp only at hSw); go_simp; try with_reducible rfl)
    (try simp only [Act.put, sA, sB, sC])
    refine wpAnyH_take (i := 16) (oi := ?oi17) (v := undef) ?hi17 (by kernel_rfl) (by kernel_rfl) (by kernel_rfl) ?hQ17 (Or.inr ⟨?hw17, rfl⟩) (by assumption) ?rest17
    case hi17 => (simp only [gA, gB, gC]; rfl)
    case hQ17 => exact fun _ _ _ h => h
    case hw17 => rfl
    (try simp only [Act.put, sA, sB, sC])
    refine wpAnyH_take (i := 17) (oi := ?oi18) (v := undef) ?hi18 (by kernel_rfl) (by kernel_rfl) (by kernel_rfl) ?hQ18 (Or.inr ⟨?hw18, rfl⟩) (by assumption) ?rest18
    case hi18 => (simp only [gA, gB, gC]; rfl)
    case hQ18 => exact fun _ _ _ h => h
    case hw18 => rfl
    (try simp only [Act.put, sA, sB, sC])
    refine wpAnyH_take (i := 18) (oi := ?oi19) (v := undef) ?hi19 (by kernel_rfl) (by kernel_rfl) (by kernel_rfl) ?hQ19 (Or.inr ⟨?hw19, rfl⟩) (by assumption) ?rest19
    case hi19 => (simp only [gA, gB, gC]; rfl)
    case hQ19 => exact fun _ _ _ h => h
    case hw19 => rfl
    (try simp only [Act.put, sA, sB, sC])
    refine wpAnyH_take (i := 19) (oi := ?oi20) (v := undef) ?hi20 (by kernel_rfl) (by kernel_rfl) (by kernel_rfl) ?hQ20 (Or.inr ⟨?hw20, rfl⟩) (by assumption) ?rest20
    case hi20 => (simp only [gA, gB, gC]; rfl)
    case hQ20 => exact fun _ _ _ h => h
    case hw20 => rfl
    (try simp only [Act.put, sA, sB, sC])
    refine wpAnyH_take (i := 20) (oi := ?oi21) (v := undef) ?hi21 (by kernel_rfl) (by kernel_rfl) (by kernel_rfl) ?hQ21 (Or.inr ⟨?hw21, rfl⟩) (by assumption) ?rest21
    case hi21 => (simp only [gA, gB, gC]; rfl)
    case hQ21 => exact fun _ _ _ h => h
    case hw21 => rfl
    (try simp only [Act.put, sA, sB, sC])
    refine wpAnyH_take (i := 21) (oi := ?oi22) (v := undef) ?hi22 (by kernel_rfl) (by kernel_rfl) (by kernel_rfl) ?hQ22 (Or.inr ⟨?hw22, rfl⟩) (by assumption) ?rest22
    case hi22 => (simp only [gA, gB, gC]; rfl)
    case hQ22 => exact fun _ _ _ h => h
    case hw22 => rfl
    (try simp only [Act.put, sA, sB, sC])
    refine wpAnyH_take (i := 22) (oi := ?oi23) (v := ?v23) ?hi23 (by kernel_rfl) (by kernel_rfl) (by kernel_rfl) ?hQ23 (Or.inl ⟨?hw23, ?hy23⟩) (by assumption) ?rest23
    case hi23 => (simp only [gA, gB, gC]; rfl)
    case hQ23 => exact fun _ _ _ h => h
    case hw23 => rfl
    case hy23 => (intro w hSw; (try dsimp only at hSw); go_simp; try with_reducible rfl)
    (try simp only [Act.put, sA, sB, sC])
    refine wpAnyH_take (i := 23) (oi := ?oi24) (v := ?v24) ?hi24 (by kernel_rfl) (by kernel_rfl) (by kernel_rfl) ?hQ24 (Or.inl ⟨?hw24, ?hy24⟩) (by assumption) ?rest24
    case hi24 => (simp only [gA, gB, gC]; rfl)
    case hQ24 => exact fun _ _ _ h => h
    case hw24 => rfl
    case hy24 => (intro w hSw; (try dsimp only at hSw); go_simp; try with_reducible rfl)
    (try simp only [Act.put, sA, sB, sC])
    refine wpAnyH_take (i := 24) (oi := ?oi25) (v := undef) ?hi25 (by kernel_rfl) (by kernel_rfl) (by kernel_rfl) ?hQ25 (Or.inr ⟨?hw25, rfl⟩) (by assumption) ?rest25
    case hi25 => (simp only [gA, gB, gC]; rfl)
    case hQ25 => exact fun _ _ _ h => h
    case hw25 => rfl
    (try simp only [Act.put, sA, sB, sC])
    refine wpAnyH_take (i := 25) (oi := ?oi26) (v := undef) ?hi26 (by kernel_rfl) (by kernel_rfl) (by kernel_rfl) ?hQ26 (Or.inr ⟨?hw26, rfl⟩) (by assumption) ?rest26
    case hi26 => (simp only [gA, gB, gC]; rfl)
    case hQ26 => exact fun _ _ _ h => h
    case hw26 => rfl
    (try simp only [Act.put, sA, sB, sC])
    refine wpAnyH_take (i := 26) (oi := ?oi27) (v := undef) ?hi27 (by kernel_rfl) (by kernel_rfl) (by kernel_rfl) ?hQ27 (Or.inr ⟨?hw27, rfl⟩) (by assumption) ?rest27
    case hi27 => (simp only [gA, gB, gC]; rfl)
    case hQ27 => exact fun _ _ _ h => h
    case hw27 => rfl
    (try simp only [Act.put, sA, sB, sC])
    refine wpAnyH_take (i := 27) (oi := ?oi28) (v := undef) ?hi28 (by kernel_rfl) (by kernel_rfl) (by kernel_rfl) ?hQ28 (Or.inr ⟨?hw28, rfl⟩) (by assumption) ?rest28
    case hi28 => (simp only [gA, gB, gC]; rfl)
    case hQ28 => exact fun _ _ _ h => h
    case hw28 => rfl
    (try simp only [Act.put, sA, sB, sC])
    refine wpAnyH_take (i := 28) (oi := ?oi29) (v := undef) ?hi29 (by kernel_rfl) (by kernel_rfl) (by kernel_rfl) ?hQ29 (Or.inr ⟨?hw29, rfl⟩) (by assumption) ?rest29
    case hi29 => (simp only [gA, gB, gC]; rfl)
    case hQ29 => exact fun _ _ _ h => h
    case hw29 => rfl
    (try simp only [Act.put, sA, sB, sC])
    refine wpAnyH_take (i := 29) (oi := ?oi30) (v := ?v30) ?hi30 (by kernel_rfl) (by kernel_rfl) (by kernel_rfl) ?hQ30 (Or.inl ⟨?hw30, ?hy30⟩) (by assumption) ?rest30
    case hi30 => (simp only [gA, gB, gC]; rfl)
    case hQ30 => exact fun _ _ _ h => h
    case hw30 => rfl
    case hy30 => (intro w hSw; (try dsimp only at hSw); go_simp; try with_reducible rfl)
    (try simp only [Act.put, sA, sB, sC])
    refine wpAnyH_take (i := 30) (oi := ?oi31) (v := ?v31) ?hi31 (by kernel_rfl) (by kernel_rfl) (by kernel_rfl) ?hQ31 (Or.inl ⟨?hw31, ?hy31⟩) (by assumption) ?rest31
    case hi31 => (simp only [gA, gB, gC]; rfl)
    case hQ31 => exact fun _ _ _ h => h
    case hw31 => rfl
    case hy31 => (intro w hSw; (try dsimp only at hSw); go_simp; try with_reducible rfl)
    (try simp only [Act.put, sA, sB, sC])
    refine wpAnyH_take (i := 31) (oi := ?oi32) (v := undef) ?hi32 (by kernel_rfl) (by kernel_rfl) (by kernel_rfl) ?hQ32 (Or.inr ⟨?hw32, rfl⟩) (by assumption) ?rest32
    case hi32 => (simp only [gA, gB, gC]; rfl)
    case hQ32 => exact fun _ _ _ h => h
    case hw32 => rfl
    (try simp only [Act.put, sA, sB, sC])
    refine wpAnyH_take (i := 32) (oi := ?oi33) (v := undef) ?hi33 (by kernel_rfl) (by kernel_rfl) (by kernel_rfl) ?hQ33 (Or.inr ⟨?hw33, rfl⟩) (by assumption) ?rest33
    case hi33 => (simp only [gA, gB, gC]; rfl)
    case hQ33 => exact fun _ _ _ h => h
    case hw33 => rfl
    (try simp only [Act.put, sA, sB, sC])
    refine wpAnyH_take (i := 33) (oi := ?oi34) (v := undef) ?hi34 (by kernel_rfl) (by kernel_rfl) (by kernel_rfl) ?hQ34 (Or.inr ⟨?hw34, rfl⟩) (by assumption) ?rest34
    case hi34 => (simp only [gA, gB, gC]; rfl)
    case hQ34 => exact fun _ _ _ h => h
    case hw34 => rfl
    (try simp only [Act.put, sA, sB, sC])
    refine wpAnyH_take (i := 34) (oi := ?oi35) (v := undef) ?hi35 (by kernel_rfl) (by kernel_rfl) (by kernel_rfl) ?hQ35 (Or.inr ⟨?hw35, rfl⟩) (by assumption) ?rest35
    case hi35 => (simp only [gA, gB, gC]; rfl)
    case hQ35 => exact fun _ _ _ h => h
    case hw35 => rfl
    (try simp only [Act.put, sA, sB, sC])
    refine wpAnyH_take (i := 35) (oi := ?oi36) (v := undef) ?hi36 (by kernel_rfl) (by kernel_rfl) (by kernel_rfl) ?hQ36 (Or.inr ⟨?hw36, rfl⟩) (by assumption) ?rest36
    case hi36 => (simp only [gA, gB, gC]; rfl)
    case hQ36 => exact fun _ _ _ h => h
    case hw36 => rfl
    (try simp only [Act.put, sA, sB, sC])
    refine wpAnyH_take (i := 36) (oi := ?oi37) (v := undef) ?hi37 (by kernel_rfl) (by kernel_rfl) (by kernel_rfl) ?hQ37 (Or.inr ⟨?hw37, rfl⟩) (by assumption) ?rest37
    case hi37 => (simp only [gA, gB, gC]; rfl)
    case hQ37 => exact fun _ _ _ h => h
    case hw37 => rfl
    (try simp only [Act.put, sA, sB, sC])
    refine wpAnyH_take (i := 37) (oi := ?oi38) (v := undef) ?hi38 (by kernel_rfl) (by kernel_rfl) (by kernel_rfl) ?hQ38 (Or.inr ⟨?hw38, rfl⟩) (by assumption) ?rest38
    case hi38 => (simp only [gA, gB, gC]; rfl)
    case hQ38 => exact fun _ _ _ h => h
    case hw38 => rfl
    (try simp only [Act.put, sA, sB, sC])
    refine wpAnyH_take (i := 38) (oi := ?oi39) (v := undef) ?hi39 (by kernel_rfl) (by kernel_rfl) (by kernel_rfl) ?hQ39 (Or.inr ⟨?hw39, rfl⟩) (by assumption) ?rest39
    case hi39 => (simp only [gA, gB, gC]; rfl)
    case hQ39 => exact fun _ _ _ h => h
    case hw39 => rfl
    (try simp only [Act.put, sA, sB, sC])
    refine wpAnyH_take (i := 39) (oi := ?oi40) (v := undef) ?hi40 (by kernel_rfl) (by kernel_rfl) (by kernel_rfl) ?hQ40 (Or.inr ⟨?hw40, rfl⟩) (by assumption) ?rest40
    case hi40 => (simp only [gA, gB, gC]; rfl)
    case hQ40 => exact fun _ _ _ h => h
    case hw40 => rfl
    (try simp only [Act.put, sA, sB, sC])
    refine wpAnyH_take (i := 40) (oi := ?oi41) (v := ?v41) ?hi41 (by kernel_rfl) (by kernel_rfl) (by kernel_rfl) ?hQ41 (Or.inl ⟨?hw41, ?hy41⟩) (by assumption) ?rest41
    case hi41 => (simp only [gA, gB, gC]; rfl)
    case hQ41 => exact fun _ _ _ h => h
    case hw41 => rfl
    case hy41 => (intro w hSw; (try dsimp only at hSw); go_simp; try with_reducible rfl)
    (try simp only [Act.put, sA, sB, sC])
    refine wpAnyH_take (i := 41) (oi := ?oi42) (v := ?v42) ?hi42 (by kernel_rfl) (by kernel_rfl) (by kernel_rfl) ?hQ42 (Or.inl ⟨?hw42, ?hy42⟩) (by assumption) ?rest42
    case hi42 => (simp only [gA, gB, gC]; rfl)
    case hQ42 => exact fun _ _ _ h => h
    case hw42 => rfl
    case hy42 => (intro w hSw; (try dsimp only at hSw); go_simp; try with_reducible rfl)
    (try simp only [Act.put, sA, sB, sC])
    refine wpAnyH_take (i := 42) (oi := ?oi43) (v := undef) ?hi43 (by kernel_rfl) (by kernel_rfl) (by kernel_rfl) ?hQ43 (Or.inr ⟨?hw43, rfl⟩) (by assumption) ?rest43
    case hi43 => (simp only [gA, gB, gC]; rfl)
    case hQ43 => exact fun _ _ _ h => h
    case hw43 => rfl
    (try simp only [Act.put, sA, sB, sC])
    refine wpAnyH_take (i := 43) (oi := ?oi44) (v := undef) ?hi44 (by kernel_rfl) (by kernel_rfl) (by kernel_rfl) ?hQ44 (Or.inr ⟨?hw44, rfl⟩) (by assumption) ?rest44
    case hi44 => (simp only [gA, gB, gC]; rfl)
    case hQ44 => exact fun _ _ _ h => h
    case hw44 => rfl
    (try simp only [Act.put, sA, sB, sC])
    refine wpAnyH_take (i := 44) (oi := ?oi45) (v := undef) ?hi45 (by kernel_rfl) (by kernel_rfl) (by kernel_rfl) ?hQ45 (Or.inr ⟨?hw45, rfl⟩) (by assumption) ?rest45
    case hi45 => (simp only [gA, gB, gC]; rfl)
    case hQ45 => exact fun _ _ _ h => h
    case hw45 => rfl
    (try simp only [Act.put, sA, sB, sC])
    refine wpAnyH_take (i := 45) (oi := ?oi46) (v := undef) ?hi46 (by kernel_rfl) (by kernel_rfl) (by kernel_rfl) ?hQ46 (Or.inr ⟨?hw46, rfl⟩) (by assumption) ?rest46
    case hi46 => (simp only [gA, gB, gC]; rfl)
    case hQ46 => exact fun _ _ _ h => h
    case hw46 => rfl
    (try simp only [Act.put, sA, sB, sC])
    refine wpAnyH_take (i := 46) (oi := ?oi47) (v := undef) ?hi47 (by kernel_rfl) (by kernel_rfl) (by kernel_rfl) ?hQ47 (Or.inr ⟨?hw47, rfl⟩) (by assumption) ?rest47
    case hi47 => (simp only [gA, gB, gC]; rfl)
    case hQ47 => exact fun _ _ _ h => h
    case hw47 => rfl
    (try simp only [Act.put, sA, sB, sC])
    refine wpAnyH_take (i := 47) (oi := ?oi48) (v := undef) ?hi48 (by kernel_rfl) (by kernel_rfl) (by kernel_rfl) ?hQ48 (Or.inr ⟨?hw48, rfl⟩) (by assumption) ?rest48
    case hi48 => (simp only [gA, gB, gC]; rfl)
    case hQ48 => exact fun _ _ _ h => h
    case hw48 => rfl
    (try simp only [Act.put, sA, sB, sC])
    refine wpAnyH_take (i := 48) (oi := ?oi49) (v := undef) ?hi49 (by kernel_rfl) (by kernel_rfl) (by kernel_rfl) ?hQ49 (Or.inr ⟨?hw49, rfl⟩) (by assumption) ?rest49
    case hi49 => (simp only [gA, gB, gC]; rfl)
    case hQ49 => exact fun _ _ _ h => h
    case hw49 => rfl
    (try simp only [Act.put, sA, sB, sC])
    refine wpAnyH_take (i := 49) (oi := ?oi50) (v := ?v50) ?hi50 (by kernel_rfl) (by kernel_rfl) (by kernel_rfl) ?hQ50 (Or.inl ⟨?hw50, ?hy50⟩) (by assumption) ?rest50
    case hi50 => (simp only [gA, gB, gC]; rfl)
    case hQ50 => exact fun _ _ _ h => h
    case hw50 => rfl
    case hy50 => (intro w hSw; (try dsimp only at hSw); go_simp; try with_reducible rfl)
    (try simp only [Act.put, sA, sB, sC])
    refine wpAnyH_take (i := 50) (oi := ?oi51) (v := ?v51) ?hi51 (by kernel_rfl) (by kernel_rfl) (by kernel_rfl) ?hQ51 (Or.inl ⟨?hw51, ?hy51⟩) (by assumption) ?rest51
    case hi51 => (simp only [gA, gB, gC]; rfl)
    case hQ51 => exact fun _ _ _ h => h
    case hw51 => rfl
    case hy51 => (intro w hSw; (try dsimp only at hSw); go_simp; try with_reducible rfl)
    (try simp only [Act.put, sA, sB, sC])
    refine wpAnyH_take (i := 51) (oi := ?oi52) (v := undef) ?hi52 (by kernel_rfl) (by kernel_rfl) (by kernel_rfl) ?hQ52 (Or.inr ⟨?hw52, rfl⟩) (by assumption) ?rest52
    case hi52 => (simp only [gA, gB, gC]; rfl)
    case hQ52 => exact fun _ _ _ h => h
    case hw52 => rfl
    (try simp only [Act.put, sA, sB, sC])
    refine wpAnyH_take (i := 52) (oi := ?oi53) (v := undef) ?hi53 (by kernel_rfl) (by kernel_rfl) (by kernel_rfl) ?hQ53 (Or.inr ⟨?hw53, rfl⟩) (by assumption) ?rest53
    case hi53 => (simp only [gA, gB, gC]; rfl)
    case hQ53 => exact fun _ _ _ h => h
    case hw53 => rfl
    (try simp only [Act.put, sA, sB, sC])
    refine wpAnyH_take (i := 53) (oi := ?oi54) (v := undef) ?hi54 (by kernel_rfl) (by kernel_rfl) (by kernel_rfl) ?hQ54 (Or.inr ⟨?hw54, rfl⟩) (by assumption) ?rest54
    case hi54 => (simp only [gA, gB, gC]; rfl)
    case hQ54 => exact fun _ _ _ h => h
    case hw54 => rfl
    (try simp only [Act.put, sA, sB, sC])
    refine wpAnyH_take (i := 54) (oi := ?oi55) (v := ?v55) ?hi55 (by kernel_rfl) (by kernel_rfl) (by kernel_rfl) ?hQ55 (Or.inl ⟨?hw55, ?hy55⟩) (by assumption) ?rest55
    case hi55 => (simp only [gA, gB, gC]; rfl)
    case hQ55 => exact fun _ _ _ h => h
    case hw55 => rfl
    case hy55 => (intro w hSw; (try dsimp only at hSw); go_simp; try with_reducible rfl)
    (try simp only [Act.put, sA, sB, sC])
    refine wpAnyH_take (i := 55) (oi := ?oi56) (v := ?v56) ?hi56 (by kernel_rfl) (by kernel_rfl) (by kernel_rfl) ?hQ56 (Or.inl ⟨?hw56, ?hy56⟩) (by assumption) ?rest56
    case hi56 => (simp only [gA, gB, gC]; rfl)
    case hQ56 => exact fun _ _ _ h => h
    case hw56 => rfl
    case hy56 => (intro w hSw; (try dsimp only at hSw); go_simp; try with_reducible rfl)
    (try simp only [Act.put, sA, sB, sC])
    refine wpAnyH_take (i := 56) (oi := ?oi57) (v := undef) ?hi57 (by kernel_rfl) (by kernel_rfl) (by kernel_rfl) ?hQ57 (Or.inr ⟨?hw57, rfl⟩) (by assumption) ?rest57
    case hi57 => (simp only [gA, gB, gC]; rfl)
    case hQ57 => exact fun _ _ _ h => h
    case hw57 => rfl
    (try simp only [Act.put, sA, sB, sC])
    refine wpAnyH_take (i := 57) (oi := ?oi58) (v := undef) ?hi58 (by kernel_rfl) (by kernel_rfl) (by kernel_rfl) ?hQ58 (Or.inr ⟨?hw58, rfl⟩) (by assumption) ?rest58
    case hi58 => (simp only [gA, gB, gC]; rfl)
    case hQ58 => exact fun _ _ _ h => h
    case hw58 => rfl
    (try simp only [Act.put, sA, sB, sC])
    refine wpAnyH_take (i := 58) (oi := ?oi59) (v := undef) ?hi59 (by kernel_rfl) (by kernel_rfl) (by kernel_rfl) ?hQ59 (Or.inr ⟨?hw59, rfl⟩) (by assumption) ?rest59
    case hi59 => (simp only [gA, gB, gC]; rfl)
    case hQ59 => exact fun _ _ _ h => h
    case hw59 => rfl
    (try simp only [Act.put, sA, sB, sC])
    refine wpAnyH_take (i := 59) (oi := ?oi60) (v := ?v60) ?hi60 (by kernel_rfl) (by kernel_rfl) (by kernel_rfl) ?hQ60 (Or.inl ⟨?hw60, ?hy60⟩) (by assumption) ?rest60
    case hi60 => (simp only [gA, gB, gC]; rfl)
    case hQ60 => exact fun _ _ _ h => h
    case hw60 => rfl
    case hy60 => (intro w hSw; (try dsimp only at hSw); go_simp; try with_reducible rfl)
    (try simp only [Act.put, sA, sB, sC])
    refine wpAnyH_take (i := 60) (oi := ?oi61) (v := ?v61) ?hi61 (by kernel_rfl) (by kernel_rfl) (by kernel_rfl) ?hQ61 (Or.inl ⟨?hw61, ?hy61⟩) (by assumption) ?rest61
    case hi61 => (simp only [gA, gB, gC]; rfl)
    case hQ61 => exact fun _ _ _ h => h
    case hw61 => rfl
    case hy61 => (intro w hSw; (try dsimp only at hSw); go_simp; try with_reducible rfl)
    (try simp only [Act.put, sA, sB, sC])
    refine wpAnyH_done (by kernel_rfl) ?_ _
    go_wp2
    go_ret
    exact ⟨ret_bool (by first | (simp [*]; done) | (simp [*]; omega)), bel2 HB0.out (by first | exact HBr2.out | exact HBr1.out | exact HBr0.out)⟩
  · skip
    refine wpAnyH_take (i := 3) (oi := ?oi62) (v := ?v62) ?hi62 (by kernel_rfl) (by kernel_rfl) (by kernel_rfl) ?hQ62 (Or.inl ⟨?hw62, ?hy62⟩) (by assumption) ?rest62
    case hi62 => (simp only [gA, gB, gC]; rfl)
    case hQ62 => exact fun _ _ _ h => h
    case hw62 => rfl
    case hy62 => (intro w hSw; (try dsimp only at hSw); go_simp; try with_reducible rfl)
    (try simp only [Act.put, sA, sB, sC])
    refine wpAnyH_take (i := 4) (oi := ?oi63) (v := ?v63) ?hi63 (by kernel_rfl) (by kernel_rfl) (by kernel_rfl) ?hQ63 (Or.inl ⟨?hw63, ?hy63⟩) (by assumption) ?rest63
    case hi63 => (simp only [gA, gB, gC]; rfl)
    case hQ63 => exact fun _ _ _ h => h
    case hw63 => rfl
    case hy63 => (intro w hSw; (try dsimp only at hSw); go_simp; try with_reducible rfl)
    (try simp only [Act.put, sA, sB, sC])
    refine wpAnyH_take (i := 5) (oi := ?oi64) (v := ?v64) ?hi64 (by kernel_rfl) (by kernel_rfl) (by kernel_rfl) ?hQ64 (Or.inl ⟨?hw64, ?hy64⟩) (by assumption) ?rest64
    case hi64 => (simp only [gA, gB, gC]; rfl)
    case hQ64 => exact fun _ _ _ h => h
    case hw64 => rfl
    case hy64 => (intro w hSw; (try dsimp only at hSw); go_simp; try with_reducible rfl)
    (try simp only [Act.put, sA, sB, sC])
    refine wpAnyH_take (i := 6) (oi := ?oi65) (v := ?v65) ?hi65 (by kernel_rfl) (by kernel_rfl) (by kernel_rfl) ?hQ65 (Or.inl ⟨?hw65, ?hy65⟩) (by assumption) ?rest65
    case hi65 => (simp only [gA, gB, gC]; rfl)
    case hQ65 => exact fun _ _ _ h => h
    case hw65 => rfl
    case hy65 => (intro w hSw; (try dsimp only at hSw); go_simp; try with_reducible rfl)
    (try simp only [Act.put, sA, sB, sC])
    refine wpAnyH_take (i := 7) (oi := ?oi66) (v := ?v66) ?hi66 (by kernel_rfl) (by kernel_rfl) (by kernel_rfl) ?hQ66 (Or.inl ⟨?hw66, ?hy66⟩) (by assumption) ?rest66
    case hi66 => (simp only [gA, gB, gC]; rfl)
    case hQ66 => exact fun _ _ _ h => h
    case hw66 => rfl
    case hy66 => (intro w hSw; (try dsimp only at hSw); go_simp; try with_reducible rfl)
    (try simp only [Act.put, sA, sB, sC])
    cases h1 : b1
    · skip
      refine wpAnyH_take (i := 8) (oi := ?oi67) (v := ?v67) ?hi67 (by kernel_rfl) (by kernel_rfl) (by kernel_rfl) ?hQ67 (Or.inl ⟨?hw67, ?hy67⟩) (by assumption) ?rest67
      case hi67 => (simp only [gA, gB, gC]; rfl)
      case hQ67 => exact fun _ _ _ h => h
      case hw67 => rfl
      case hy67 => (intro w hSw; (try dsimp only at hSw); go_simp; try with_reducible rfl)
      (try simp only [Act.put, sA, sB, sC])
      refine wpAnyH_take (i := 9) (oi := ?oi68) (v := ?v68) ?hi68 (by kernel_rfl) (by kernel_rfl) (by kernel_rfl) ?hQ68 (Or.inl ⟨?hw68, ?hy68⟩) (by assumption) ?rest68
      case hi68 => (simp only [gA, gB, gC]; rfl)
      case hQ68 => exact fun _ _ _ h => h
      case hw68 => rfl
      case hy68 => (intro w hSw; (try dsimp only at hSw); go_simp; try with_reducible rfl)
      (try simp only [Act.put, sA, sB, sC])
      refine wpAnyH_take (i := 10) (oi := ?oi69) (v := ?v69) ?hi69 (by kernel_rfl) (by kernel_rfl) (by kernel_rfl) ?hQ69 (Or.inl ⟨?hw69, ?hy69⟩) (by assumption) ?rest69
      case hi69 => (simp only [gA, gB, gC]; rfl)
      case hQ69 => exact fun _ _ _ h => h
      case hw69 => rfl
      case hy69 => (intro w hSw; (try dsimp only at hSw); go_simp; try with_reducible rfl)
      (try simp only [Act.put, sA, sB, sC])
      refine wpAnyH_take (i := 11) (oi := ?oi70) (v := undef) ?hi70 (by kernel_rfl) (by kernel_rfl) (by kernel_rfl) ?hQ70 (Or.inr ⟨?hw70, rfl⟩) (by assumption) ?rest70
      case hi70 => (simp only [gA, gB, gC]; rfl)
      case hQ70 => exact fun _ _ _ h => h
      case hw70 => rfl
      (try simp only [Act.put, sA, sB, sC])
      refine wpAnyH_take (i := 12) (oi := ?oi71) (v := undef) ?hi71 (by kernel_rfl) (by kernel_rfl) (by kernel_rfl) ?hQ71 (Or.inr ⟨?hw71, rfl⟩) (by assumption) ?rest71
      case hi71 => (simp only [gA, gB, gC]; rfl)
      case hQ71 => exact fun _ _ _ h => h
      case hw71 => rfl
      (try simp only [Act.put, sA, sB, sC])
      refine wpAnyH_take (i := 13) (oi := ?oi72) (v := undef) ?hi72 (by kernel_rfl) (by kernel_rfl) (by kernel_rfl) ?hQ72 (Or.inr ⟨?hw72, rfl⟩) (by assumption) ?rest72
      case hi72 => (simp only [gA, gB, gC]; rfl)
      case hQ72 => exact fun _ _ _ h => h
      case hw72 => rfl
      (try simp only [Act.put, sA, sB, sC])
      refine wpAnyH_take (i := 14) (oi := ?oi73) (v := ?v73) ?hi73 (by kernel_rfl) (by kernel_rfl) (by kernel_rfl) ?hQ73 (Or.inl ⟨?hw73, ?hy73⟩) (by assumption) ?rest73
      case hi73 => (simp only [gA, gB, gC]; rfl)
      case hQ73 => exact fun _ _ _ h => h
      case hw73 => rfl
      case hy73 => (intro w hSw; (try dsimp only at hSw); go_simp; try with_reducible rfl)
      (try simp only [Act.put, sA, sB, sC])
      refine wpAnyH_take (i := 15) (oi := ?oi74) (v := ?v74) ?hi74 (by kernel_rfl) (by kernel_rfl) (by kernel_rfl) ?hQ74 (Or.inl ⟨?hw74, ?hy74⟩) (by assumption) ?rest74
      case hi74 => (simp only [gA, gB, gC]; rfl)
      case hQ74 => exact fun _ _ _ h => h
      case hw74 => rfl
      case hy74 => (intro w hSw; (try dsimp only at hSw); go_simp; try with_reducible rfl)
      (try simp only [Act.put, sA, sB, sC])
      refine wpAnyH_take (i := 16) (oi := ?oi75) (v := undef) ?hi75 (by kernel_rfl) (by kernel_rfl) (by kernel_rfl) ?hQ75 (Or.inr ⟨?hw75, rfl⟩) (by assumption) ?rest75
      case hi75 => (simp only [gA, gB, gC]; rfl)
      case hQ75 => exact fun _ _ _ h => h
      case hw75 => rfl
      (try simp only [Act.put, sA, sB, sC])
      refine wpAnyH_take (i := 17) (oi := ?oi76) (v := undef) ?hi76 (by kernel_rfl) (by kernel_rfl) (by kernel_rfl) ?hQ76 (Or.inr ⟨?hw76, rfl⟩) (by assumption) ?rest76
      case hi76 => (simp only [gA, gB, gC]; rfl)
      case hQ76 => exact fun _ _ _ h => h
      case hw76 => rfl
      (try simp only [Act.put, sA, sB, sC])
      refine wpAnyH_take (i := 18) (oi := ?oi77) (v := undef) ?hi77 (by kernel_rfl) (by kernel_rfl) (by kernel_rfl) ?hQ77 (Or.inr ⟨?hw77, rfl⟩) (by assumption) ?rest77
      case hi77 => (simp only [gA, gB, gC]; rfl)
      case hQ77 => exact fun _ _ _ h => h
      case hw77 => rfl
      (try simp only [Act.put, sA, sB, sC])
      refine wpAnyH_take (i := 19) (oi := ?oi78) (v := undef) ?hi78 (by kernel_rfl) (by kernel_rfl) (by kernel_rfl) ?hQ78 (Or.inr ⟨?hw78, rfl⟩) (by assumption) ?rest78
      case hi78 => (simp only [gA, gB, gC]; rfl)
      case hQ78 => exact fun _ _ _ h => h
      case hw78 => rfl
      (try simp only [Act.put, sA, sB, sC])
      refine wpAnyH_take (i := 20) (oi := ?oi79) (v := undef) ?hi79 (by kernel_rfl) (by kernel_rfl) (by kernel_rfl) ?hQ79 (Or.inr ⟨?hw79, rfl⟩) (by assumption) ?rest79
      case hi79 => (simp only [gA, gB, gC]; rfl)
      case hQ79 => exact fun _ _ _ h => h
      case hw79 => rfl
      (try simp only [Act.put, sA, sB, sC])
      refine wpAnyH_take (i := 21) (oi := ?oi80) (v := undef) ?hi80 (by kernel_rfl) (by kernel_rfl) (by kernel_rfl) ?hQ80 (Or.inr ⟨?hw80, rfl⟩) (by assumption) ?rest80
      case hi80 => (simp only [gA, gB, gC]; rfl)
      case hQ80 => exact fun _ _ _ h => h
      case hw80 => rfl
      (try simp only [Act.put, sA, sB, sC])
      refine wpAnyH_take (i := 22) (oi := ?oi81) (v := ?v81) ?hi81 (by kernel_rfl) (by kernel_rfl) (by kernel_rfl) ?hQ81 (Or.inl ⟨?hw81, ?hy81⟩) (by assumption) ?rest81
      case hi81 => (simp only [gA, gB, gC]; rfl)
      case hQ81 => exact fun _ _ _ h => h
      case hw81 => rfl
      case hy81 => (intro w hSw; (try dsimp only at hSw); go_simp; try with_reducible rfl)
      (try simp only [Act.put, sA, sB, sC])
      refine wpAnyH_take (i := 23) (oi := ?oi82) (v := ?v82) ?hi82 (by kernel_rfl) (by kernel_rfl) (by kernel_rfl) ?hQ82 (Or.inl ⟨?hw82, ?hy82⟩) (by assumption) ?rest82
      case hi82 => (simp only [gA, gB, gC]; rfl)
      case hQ82 => exact fun _ _ _ h => h
      case hw82 => rfl
      case hy82 => (intro w hSw; (try dsimp only at hSw); go_simp; try with_reducible rfl)
      (try simp only [Act.put, sA, sB, sC])
      refine wpAnyH_take (i := 24) (oi := ?oi83) (v := undef) ?hi83 (by kernel_rfl) (by kernel_rfl) (by kernel_rfl) ?hQ83 (Or.inr ⟨?hw83, rfl⟩) (by assumption) ?rest83
      case hi83 => (simp only [gA, gB, gC]; rfl)
      case hQ83 => exact fun _ _ _ h => h
      case hw83 => rfl
      (try simp only [Act.put, sA, sB, sC])
      refine wpAnyH_take (i := 25) (oi := ?oi84) (v := undef) ?hi84 (by kernel_rfl) (by kernel_rfl) (by kernel_rfl) ?hQ84 (Or.inr ⟨?hw84, rfl⟩) (by assumption) ?rest84
      case hi84 => (simp only [gA, gB, gC]; rfl)
      case hQ84 => exact fun _ _ _ h => h
      case hw84 => rfl
      (try simp only [Act.put, sA, sB, sC])
      refine wpAnyH_take (i := 26) (oi := ?oi85) (v := undef) ?hi85 (by kernel_rfl) (by kernel_rfl) (by kernel_rfl) ?hQ85 (Or.inr ⟨?hw85, rfl⟩) (by assumption) ?rest85
      case hi85 => (simp only [gA, gB, gC]; rfl)
      case hQ85 => exact fun _ _ _ h => h
      case hw85 => rfl
      (try simp only [Act.put, sA, sB, sC])
      refine wpAnyH_take (i := 27) (oi := ?oi86) (v := undef) ?hi86 (by kernel_rfl) (by kernel_rfl) (by kernel_rfl) ?hQ86 (Or.inr ⟨?hw86, rfl⟩) (by assumption) ?rest86
      case hi86 => (simp only [gA, gB, gC]; rfl)
      case hQ86 => exact fun _ _ _ h => h
      case hw86 => rfl
      (try simp only [Act.put, sA, sB, sC])
      refine wpAnyH_take (i := 28) (oi := ?oi87) (v := undef) ?hi87 (by kernel_rfl) (by kernel_rfl) (by kernel_rfl) ?hQ87 (Or.inr ⟨?hw87, rfl⟩) (by assumption) ?rest87
      case hi87 => (simp only [gA, gB, gC]; rfl)
      case hQ87 => exact fun _ _ _ h => h
      case hw87 => rfl
      (try simp only [Act.put, sA, sB, sC])
      refine wpAnyH_take (i := 29) (oi := ?oi88) (v := ?v88) ?hi88 (by kernel_rfl) (by kernel_rfl) (by kernel_rfl) ?hQ88 (Or.inl ⟨?hw88, ?hy88⟩) (by assumption) ?rest88
      case hi88 => (simp only [gA, gB, gC]; rfl)
      case hQ88 => exact fun _ _ _ h => h
      case hw88 => rfl
      case hy88 => (intro w hSw; (try dsimp only at hSw); go_simp; try with_reducible rfl)
      (try simp only [Act.put, sA, sB, sC])
      refine wpAnyH_take (i := 30) (oi := ?oi89) (v := ?v89) ?hi89 (by kernel_rfl) (by kernel_rfl) (by kernel_rfl) ?hQ89 (Or.inl ⟨?hw89, ?hy89⟩) (by assumption) ?rest89
      case hi89 => (simp only [gA, gB, gC]; rfl)
      case hQ89 => exact fun _ _ _ h => h
      case hw89 => rfl
      case hy89 => (intro w hSw; (try dsimp only at hSw); go_simp; try with_reducible rfl)
      (try simp only [Act.put, sA, sB, sC])
      refine wpAnyH_take (i := 31) (oi := ?oi90) (v := undef) ?hi90 (by kernel_rfl) (by kernel_rfl) (by kernel_rfl) ?hQ90 (Or.inr ⟨?hw90, rfl⟩) (by assumption) ?rest90
      case hi90 => (simp only [gA, gB, gC]; rfl)
      case hQ90 => exact fun _ _ _ h => h
      case hw90 => rfl
      (try simp only [Act.put, sA, sB, sC])
      refine wpAnyH_take (i := 32) (oi := ?oi91) (v := undef) ?hi91 (by kernel_rfl) (by kernel_rfl) (by kernel_rfl) ?hQ91 (Or.inr ⟨?hw91, rfl⟩) (by assumption) ?rest91
      case hi91 => (simp only [gA, gB, gC]; rfl)
      case hQ91 => exact fun _ _ _ h => h
      case hw91 => rfl
      (try simp only [Act.put, sA, sB, sC])
      refine wpAnyH_take (i := 33) (oi := ?oi92) (v := undef) ?hi92 (by kernel_rfl) (by kernel_rfl) (by kernel_rfl) ?hQ92 (Or.inr ⟨?hw92, rfl⟩) (by assumption) ?rest92
      case hi92 => (simp only [gA, gB, gC]; rfl)
      case hQ92 => exact fun _ _ _ h => h
      case hw92 => rfl
      (try simp only [Act.put, sA, sB, sC])
      refine wpAnyH_take (i := 34) (oi := ?oi93) (v := undef) ?hi93 (by kernel_rfl) (by kernel_rfl) (by kernel_rfl) ?hQ93 (Or.inr ⟨?hw93, rfl⟩) (by assumption) ?rest93
      case hi93 => (simp only [gA, gB, gC]; rfl)
      case hQ93 => exact fun _ _ _ h => h
      case hw93 => rfl
      (try simp only [Act.put, sA, sB, sC])
      refine wpAnyH_take (i := 35) (oi := ?oi94) (v := undef) ?hi94 (by kernel_rfl) (by kernel_rfl) (by kernel_rfl) ?hQ94 (Or.inr ⟨?hw94, rfl⟩) (by assumption) ?rest94
      case hi94 => (simp only [gA, gB, gC]; rfl)
      case hQ94 => exact fun _ _ _ h => h
      case hw94 => rfl
      (try simp only [Act.put, sA, sB, sC])
      refine wpAnyH_take (i := 36) (oi := ?oi95) (v := undef) ?hi95 (by kernel_rfl) (by kernel_rfl) (by kernel_rfl) ?hQ95 (Or.inr ⟨?hw95, rfl⟩) (by assumption) ?rest95
      case hi95 => (simp only [gA, gB, gC]; rfl)
      case hQ95 => exact fun _ _ _ h => h
      case hw95 => rfl
      (try simp only [Act.put, sA, sB, sC])
      refine wpAnyH_take (i := 37) (oi := ?oi96) (v := undef) ?hi96 (by kernel_rfl) (by kernel_rfl) (by kernel_rfl) ?hQ96 (Or.inr ⟨?hw96, rfl⟩) (by assumption) ?rest96
      case hi96 => (simp only [gA, gB, gC]; rfl)
      case hQ96 => exact fun _ _ _ h => h
      case hw96 => rfl
      (try simp only [Act.put, sA, sB, sC])
      refine wpAnyH_take (i := 38) (oi := ?oi97) (v := undef) ?hi97 (by kernel_rfl) (by kernel_rfl) (by kernel_rfl) ?hQ97 (Or.inr ⟨?hw97, rfl⟩) (by assumption) ?rest97
      case hi97 => (simp only [gA, gB, gC]; rfl)
      case hQ97 => exact fun _ _ _ h => h
      case hw97 => rfl
      (try simp only [Act.put, sA, sB, sC])
      refine wpAnyH_take (i := 39) (oi := ?oi98) (v := undef) ?hi98 (by kernel_rfl) (by kernel_rfl) (by kernel_rfl) ?hQ98 (Or.inr ⟨?hw98, rfl⟩) (by assumption) ?rest98
      case hi98 => (simp only [gA, gB, gC]; rfl)
      case hQ98 => exact fun _ _ _ h => h
      case hw98 => rfl
      (try simp only [Act.put, sA, sB, sC])
      refine wpAnyH_take (i := 40) (oi := ?oi99) (v := ?v99) ?hi99 (by kernel_rfl) (by kernel_rfl) (by kernel_rfl) ?hQ99 (Or.inl ⟨?hw99, ?hy99⟩) (by assumption) ?rest99
      case hi99 => (simp only [gA, gB, gC]; rfl)
      case hQ99 => exact fun _ _ _ h => h
      case hw99 => rfl
      case hy99 => (intro w hSw; (try dsimp only at hSw); go_simp; try with_reducible rfl)
      (try simp only [Act.put, sA, sB, sC])
      refine wpAnyH_take (i := 41) (oi := ?oi100) (v := ?v100) ?hi100 (by kernel_rfl) (by kernel_rfl) (by kernel_rfl) ?hQ100 (Or.inl ⟨?hw100, ?hy100⟩) (by assumption) ?rest100
      case hi100 => (simp only [gA, gB, gC]; rfl)
      case hQ100 => exact fun _ _ _ h => h
      case hw100 => rfl
      case hy100 => (intro w hSw; (try dsimp only at hSw); go_simp; try with_reducible rfl)
      (try simp only [Act.put, sA, sB, sC])
      refine wpAnyH_take (i := 42) (oi := ?oi101) (v := undef) ?hi101 (by kernel_rfl) (by kernel_rfl) (by kernel_rfl) ?hQ101 (Or.inr ⟨?hw101, rfl⟩) (by assumption) ?rest101
      case hi101 => (simp only [gA, gB, gC]; rfl)
      case hQ101 => exact fun _ _ _ h => h
      case hw101 => rfl
      (try simp only [Act.put, sA, sB, sC])
      refine wpAnyH_take (i := 43) (oi := ?oi102) (v := undef) ?hi102 (by kernel_rfl) (by kernel_rfl) (by kernel_rfl) ?hQ102 (Or.inr ⟨?hw102, rfl⟩) (by assumption) ?rest102
      case hi102 => (simp only [gA, gB, gC]; rfl)
      case hQ102 => exact fun _ _ _ h => h
      case hw102 => rfl
      (try simp only [Act.put, sA, sB, sC])
      refine wpAnyH_take (i := 44) (oi := ?oi103) (v := undef) ?hi103 (by kernel_rfl) (by kernel_rfl) (by kernel_rfl) ?hQ103 (Or.inr ⟨?hw103, rfl⟩) (by assumption) ?rest103
      case hi103 => (simp only [gA, gB, gC]; rfl)
      case hQ103 => exact fun _ _ _ h => h
      case hw103 => rfl
      (try simp only [Act.put, sA, sB, sC])
      refine wpAnyH_take (i := 45) (oi := ?oi104) (v := undef) ?hi104 (by kernel_rfl) (by kernel_rfl) (by kernel_rfl) ?hQ104 (Or.inr ⟨?hw104, rfl⟩) (by assumption) ?rest104
      case hi104 => (simp only [gA, gB, gC]; rfl)
      case hQ104 => exact fun _ _ _ h => h
      case hw104 => rfl
      (try simp only [Act.put, sA, sB, sC])
      refine wpAnyH_take (i := 46) (oi := ?oi105) (v := undef) ?hi105 (by kernel_rfl) (by kernel_rfl) (by kernel_rfl) ?hQ105 (Or.inr ⟨?hw105, rfl⟩) (by assumption) ?rest105
      case hi105 => (simp only [gA, gB, gC]; rfl)
      case hQ105 => exact fun _ _ _ h => h
      case hw105 => rfl
      (try simp only [Act.put, sA, sB, sC])
      refine wpAnyH_take (i := 47) (oi := ?oi106) (v := undef) ?hi106 (by kernel_rfl) (by kernel_rfl) (by kernel_rfl) ?hQ106 (Or.inr ⟨?hw106, rfl⟩) (by assumption) ?rest106
      case hi106 => (simp only [gA, gB, gC]; rfl)
      case hQ106 => exact fun _ _ _ h => h
      case hw106 => rfl
      (try simp only [Act.put, sA, sB, sC])
      refine wpAnyH_take (i := 48) (oi := ?oi107) (v := undef) ?hi107 (by kernel_rfl) (by kernel_rfl) (by kernel_rfl) ?hQ107 (Or.inr ⟨?hw107, rfl⟩) (by assumption) ?rest107
      case hi107 => (simp only [gA, gB, gC]; rfl)
      case hQ107 => exact fun _ _ _ h => h
      case hw107 => rfl
      (try simp only [Act.put, sA, sB, sC])
      refine wpAnyH_take (i := 49) (oi := ?oi108) (v := ?v108) ?hi108 (by kernel_rfl) (by kernel_rfl) (by kernel_rfl) ?hQ108 (Or.inl ⟨?hw108, ?hy108⟩) (by assumption) ?rest108
      case hi108 => (simp only [gA, gB, gC]; rfl)
      case hQ108 => exact fun _ _ _ h => h
      case hw108 => rfl
      case hy108 => (intro w hSw; (try dsimp only at hSw); go_simp; try with_reducible rfl)
      (try simp only [Act.put, sA, sB, sC])
      refine wpAnyH_take (i := 50) (oi := ?oi109) (v := ?v109) ?hi109 (by kernel_rfl) (by kernel_rfl) (by kernel_rfl) ?hQ109 (Or.inl ⟨?hw109, ?hy109⟩) (by assumption) ?rest109
      case hi109 => (simp only [gA, gB, gC]; rfl)
      case hQ109 => exact fun _ _ _ h => h
      case hw109 => rfl
      case hy109 => (intro w hSw; (try dsimp only at hSw); go_simp; try with_reducible rfl)
      (try simp only [Act.put, sA, sB, sC])
      refine wpAnyH_take (i := 51) (oi := ?oi110) (v := undef) ?hi110 (by kernel_rfl) (by kernel_rfl) (by kernel_rfl) ?hQ110 (Or.inr ⟨?hw110, rfl⟩) (by assumption) ?rest110
      case hi110 => (simp only [gA, gB, gC]; rfl)
      case hQ110 => exact fun _ _ _ h => h
      case hw110 => rfl
      (try simp only [Act.put, sA, sB, sC])
      refine wpAnyH_take (i := 52) (oi := ?oi111) (v := undef) ?hi111 (by kernel_rfl) (by kernel_rfl) (by kernel_rfl) ?hQ111 (Or.inr ⟨?hw111, rfl⟩) (by assumption) ?rest111
      case hi111 => (simp only [gA, gB, gC]; rfl)
      case hQ111 => exact fun _ _ _ h => h
      case hw111 => rfl
      (try simp only [Act.put, sA, sB, sC])
      refine wpAnyH_take (i := 53) (oi := ?oi112) (v := undef) ?hi112 (by kernel_rfl) (by kernel_rfl) (by kernel_rfl) ?hQ112 (Or.inr ⟨?hw112, rfl⟩) (by assumption) ?rest112
      case hi112 => (simp only [gA, gB, gC]; rfl)
      case hQ112 => exact fun _ _ _ h => h
      case hw112 => rfl
      (try simp only [Act.put, sA, sB, sC])
      refine wpAnyH_take (i := 54) (oi := ?oi113) (v := ?v113) ?hi113 (by kernel_rfl) (by kernel_rfl) (by kernel_rfl) ?hQ113 (Or.inl ⟨?hw113, ?hy113⟩) (by assumption) ?rest113
      case hi113 => (simp only [gA, gB, gC]; rfl)
      case hQ113 => exact fun _ _ _ h => h
      case hw113 => rfl
      case hy113 => (intro w hSw; (try dsimp only at hSw); go_simp; try with_reducible rfl)
      (try simp only [Act.put, sA, sB, sC])
      refine wpAnyH_take (i := 55) (oi := ?oi114) (v := ?v114) ?hi114 (by kernel_rfl) (by kernel_rfl) (by kernel_rfl) ?hQ114 (Or.inl ⟨?hw114, ?hy114⟩) (by assumption) ?rest114
      case hi114 => (simp only [gA, gB, gC]; rfl)
      case hQ114 => exact fun _ _ _ h => h
      case hw114 => rfl
      case hy114 => (intro w hSw; (try dsimp only at hSw); go_simp; try with_reducible rfl)
      (try simp only [Act.put, sA, sB, sC])
      refine wpAnyH_take (i := 56) (oi := ?oi115) (v := undef) ?hi115 (by kernel_rfl) (by kernel_rfl) (by kernel_rfl) ?hQ115 (Or.inr ⟨?hw115, rfl⟩) (by assumption) ?rest115
      case hi115 => (simp only [gA, gB, gC]; rfl)
      case hQ115 => exact fun _ _ _ h => h
      case hw115 => rfl
      (try simp only [Act.put, sA, sB, sC])
      refine wpAnyH_take (i := 57) (oi := ?oi116) (v := undef) ?hi116 (by kernel_rfl) (by kernel_rfl) (by kernel_rfl) ?hQ116 (Or.inr ⟨?hw116, rfl⟩) (by assumption) ?rest116
      case hi116 => (simp only [gA, gB, gC]; rfl)
      case hQ116 => exact fun _ _ _ h => h
      case hw116 => rfl
      (try simp only [Act.put, sA, sB, sC])
      refine wpAnyH_take (i := 58) (oi := ?oi117) (v := undef) ?hi117 (by kernel_rfl) (by kernel_rfl) (by kernel_rfl) ?hQ117 (Or.inr ⟨?hw117, rfl⟩) (by assumption) ?rest117
      case hi117 => (simp only [gA, gB, gC]; rfl)
      case hQ117 => exact fun _ _ _ h => h
      case hw117 => rfl
      (try simp only [Act.put, sA, sB, sC])
      refine wpAnyH_take (i := 59) (oi := ?oi118) (v := ?v118) ?hi118 (by kernel_rfl) (by kernel_rfl) (by kernel_rfl) ?hQ118 (Or.inl ⟨?hw118, ?hy118⟩) (by assumption) ?rest118
      case hi118 => (simp only [gA, gB, gC]; rfl)
      case hQ118 => exact fun _ _ _ h => h
      case hw118 => rfl
      case hy118 => (intro w hSw; (try dsimp only at hSw); go_simp; try with_reducible rfl)
      (try simp only [Act.put, sA, sB, sC])
      refine wpAnyH_take (i := 60) (oi := ?oi119) (v := ?v119) ?hi119 (by kernel_rfl) (by kernel_rfl) (by kernel_rfl) ?hQ119 (Or.inl ⟨?hw119, ?hy119⟩) (by assumption) ?rest119
      case hi119 => (simp only [gA, gB, gC]; rfl)
      case hQ119 => exact fun _ _ _ h => h
      case hw119 => rfl
      case hy119 => (intro w hSw; (try dsimp only at hSw); go_simp; try with_reducible rfl)
      (try simp only [Act.put, sA, sB, sC])
      refine wpAnyH_done (by kernel_rfl) ?_ _
      go_wp2
      go_ret
      exact ⟨ret_bool (by first | (simp [*]; done) | (simp [*]; omega)), bel2 HB0.out (by first | exact HBr2.out | exact HBr1.out | exact HBr0.out)⟩
    · skip
      refine wpAnyH_take (i := 8) (oi := ?oi120) (v := ?v120) ?hi120 (by kernel_rfl) (by kernel_rfl) (by kernel_rfl) ?hQ120 (Or.inl ⟨?hw120, ?hy120⟩) (by assumption) ?rest120
      case hi120 => (simp only [gA, gB, gC]; rfl)
      case hQ120 => exact fun _ _ _ h => h
      case hw120 => rfl
      case hy120 => (intro w hSw; (try dsimp only at hSw); go_simp; try with_reducible rfl)
      (try simp only [Act.put, sA, sB, sC])
      refine wpAnyH_take (i := 9) (oi := ?oi121) (v := ?v121) ?hi121 (by kernel_rfl) (by kernel_rfl) (by kernel_rfl) ?hQ121 (Or.inl ⟨?hw121, ?hy121⟩) (by assumption) ?rest121
      case hi121 => (simp only [gA, gB, gC]; rfl)
      case hQ121 => exact fun _ _ _ h => h
      case hw121 => rfl
      case hy121 => (intro w hSw; (try dsimp only at hSw); go_simp; try with_reducible rfl)
      (try simp only [Act.put, sA, sB, sC])
      refine wpAnyH_take (i := 10) (oi := ?oi122) (v := ?v122) ?hi122 (by kernel_rfl) (by kernel_rfl) (by kernel_rfl) ?hQ122 (Or.inl ⟨?hw122, ?hy122⟩) (by assumption) ?rest122
      case hi122 => (simp only [gA, gB, gC]; rfl)
      case hQ122 => exact fun _ _ _ h => h
      case hw122 => rfl
      case hy122 => (intro w hSw; (try dsimp only at hSw); go_simp; try with_reducible rfl)
      (try simp only [Act.put, sA, sB, sC])
      refine wpAnyH_take (i := 11) (oi := ?oi123) (v := ?v123) ?hi123 (by kernel_rfl) (by kernel_rfl) (by kernel_rfl) ?hQ123 (Or.inl ⟨?hw123, ?hy123⟩) (by assumption) ?rest123
      case hi123 => (simp only [gA, gB, gC]; rfl)
      case hQ123 => exact fun _ _ _ h => h
      case hw123 => rfl
      case hy123 => (intro w hSw; (try dsimp only at hSw); go_simp; try with_reducible rfl)
      (try simp only [Act.put, sA, sB, sC])
      refine wpAnyH_take (i := 12) (oi := ?oi124) (v := ?v124) ?hi124 (by kernel_rfl) (by kernel_rfl) (by kernel_rfl) ?hQ124 (Or.inl ⟨?hw124, ?hy124⟩) (by assumption) ?rest124
      case hi124 => (simp only [gA, gB, gC]; rfl)
      case hQ124 => exact fun _ _ _ h => h
      case hw124 => rfl
      case hy124 => (intro w hSw; (try dsimp only at hSw); go_simp; try with_reducible rfl)
      (try simp only [Act.put, sA, sB, sC])
      by_cases h2 : (0 : Int) ≤ st
      · skip
        obtain ⟨j, rfl⟩ := Int.eq_ofNat_of_zero_le h2
        refine wpAnyH_take (i := 13) (oi := ?oi125) (v := ?v125) ?hi125 (by kernel_rfl) (by kernel_rfl) (by kernel_rfl) ?hQ125 (Or.inl ⟨?hw125, ?hy125⟩) (by assumption) ?rest125
        case hi125 => (simp only [gA, gB, gC]; rfl)
        case hQ125 => exact fun _ _ _ h => h
        case hw125 => rfl
        case hy125 => (intro w hSw; (try dsimp only at hSw); go_simp; try with_reducible rfl)
        (try simp only [Act.put, sA, sB, sC])
        refine wpAnyH_take (i := 14) (oi := ?oi126) (v := ?v126) ?hi126 (by kernel_rfl) (by kernel_rfl) (by kernel_rfl) ?hQ126 (Or.inl ⟨?hw126, ?hy126⟩) (by assumption) ?rest126
        case hi126 => (simp only [gA, gB, gC]; rfl)
        case hQ126 => exact fun _ _ _ h => h
        case hw126 => rfl
        case hy126 => (intro w hSw; (try dsimp only at hSw); go_simp; try with_reducible rfl)
        (try simp only [Act.put, sA, sB, sC])
        refine wpAnyH_take (i := 15) (oi := ?oi127) (v := ?v127) ?hi127 (by kernel_rfl) (by kernel_rfl) (by kernel_rfl) ?hQ127 (Or.inl ⟨?hw127, ?hy127⟩) (by assumption) ?rest127
        case hi127 => (simp only [gA, gB, gC]; rfl)
        case hQ127 => exact fun _ _ _ h => h
        case hw127 => rfl
        case hy127 => (intro w hSw; (try dsimp only at hSw); go_simp; try with_reducible rfl)
        (try simp only [Act.put, sA, sB, sC])
        refine wpAnyH_take (i := 16) (oi := ?oi128) (v := ?v128) ?hi128 (by kernel_rfl) (by kernel_rfl) (by kernel_rfl) ?hQ128 (Or.inl ⟨?hw128, ?hy128⟩) (by assumption) ?rest128
        case hi128 => (simp only [gA, gB, gC]; rfl)
        case hQ128 => exact fun _ _ _ h => h
        case hw128 => rfl
        case hy128 => (intro w hSw; (try dsimp only at hSw); go_simp; try with_reducible rfl)
        (try simp only [Act.put, sA, sB, sC])
        refine wpAnyH_take (i := 17) (oi := ?oi129) (v := ?v129) ?hi129 (by kernel_rfl) (by kernel_rfl) (by kernel_rfl) ?hQ129 (Or.inl ⟨?hw129, ?hy129⟩) (by assumption) ?rest129
        case hi129 => (simp only [gA, gB, gC]; rfl)
        case hQ129 => exact fun _ _ _ h => h
        case hw129 => rfl
        case hy129 => (intro w hSw; (try dsimp only at hSw); go_simp; try with_reducible rfl)
        (try simp only [Act.put, sA, sB, sC])
        refine wpAnyH_take (i := 18) (oi := ?oi130) (v := ?v130) ?hi130 (by kernel_rfl) (by kernel_rfl) (by kernel_rfl) ?hQ130 (Or.inl ⟨?hw130, ?hy130⟩) (by assumption) ?rest130
        case hi130 => (simp only [gA, gB, gC]; rfl)
        case hQ130 => exact fun _ _ _ h => h
        case hw130 => rfl
        case hy130 => (intro w hSw; (try dsimp only at hSw); go_simp; try with_reducible rfl)
        (try simp only [Act.put, sA, sB, sC])
        refine wpAnyH_take (i := 19) (oi := ?oi131) (v := ?v131) ?hi131 (by kernel_rfl) (by kernel_rfl) (by kernel_rfl) ?hQ131 (Or.inl ⟨?hw131, ?hy131⟩) (by assumption) ?rest131
        case hi131 => (simp only [gA, gB, gC]; rfl)
        case hQ131 => exact fun _ _ _ h => h
        case hw131 => rfl
        case hy131 => (intro w hSw; (try dsimp only at hSw); go_simp; try with_reducible rfl)
        (try simp only [Act.put, sA, sB, sC])
        refine wpAnyH_take (i := 20) (oi := ?oi132) (v := ?v132) ?hi132 (by kernel_rfl) (by kernel_rfl) (by kernel_rfl) ?hQ132 (Or.inl ⟨?hw132, ?hy132⟩) (by assumption) ?rest132
        case hi132 => (simp only [gA, gB, gC]; rfl)
        case hQ132 => exact fun _ _ _ h => h
        case hw132 => rfl
        case hy132 => (intro w hSw; (try dsimp only at hSw); go_simp; try with_reducible rfl)
        (try simp only [Act.put, sA, sB, sC])
        by_cases h3 : (j : Int) < (ct.ss.length : Int)
        · skip
          have hjl : j < ct.ss.length := by omega
          refine wpAnyH_take (i := 21) (oi := ?oi133) (v := ?v133) ?hi133 (by kernel_rfl) (by kernel_rfl) (by kernel_rfl) ?hQ133 (Or.inl ⟨?hw133, ?hy133⟩) (by assumption) ?rest133
          case hi133 => (simp only [gA, gB, gC]; rfl)
          case hQ133 => exact fun _ _ _ h => h
          case hw133 => rfl
          case hy133 => (intro w hSw; (try dsimp only at hSw); go_simp; try with_reducible rfl)
          (try simp only [Act.put, sA, sB, sC])
          refine wpAnyH_take (i := 22) (oi := ?oi134) (v := ?v134) ?hi134 (by kernel_rfl) (by kernel_rfl) (by kernel_rfl) ?hQ134 (Or.inl ⟨?hw134, ?hy134⟩) (by assumption) ?rest134
          case hi134 => (simp only [gA, gB, gC]; rfl)
          case hQ134 => exact fun _ _ _ h => h
          case hw134 => rfl
          case hy134 => (intro w hSw; (try dsimp only at hSw); go_simp; try with_reducible rfl)
          (try simp only [Act.put, sA, sB, sC])
          refine wpAnyH_take (i := 23) (oi := ?oi135) (v := ?v135) ?hi135 (by kernel_rfl) (by kernel_rfl) (by kernel_rfl) ?hQ135 (Or.inl ⟨?hw135, ?hy135⟩) (by assumption) ?rest135
          case hi135 => (simp only [gA, gB, gC]; rfl)
          case hQ135 => exact fun _ _ _ h => h
          case hw135 => rfl
          case hy135 => (intro w hSw; (try dsimp only at hSw); go_simp; try with_reducible rfl)
          (try simp only [Act.put, sA, sB, sC])
          refine wpAnyH_take (i := 24) (oi := ?oi136) (v := ?v136) ?hi136 (by kernel_rfl) (by kernel_rfl) (by kernel_rfl) ?hQ136 (Or.inl ⟨?hw136, ?hy136⟩) (by assumption) ?rest136
          case hi136 => (simp only [gA, gB, gC]; rfl)
          case hQ136 => exact fun _ _ _ h => h
          case hw136 => rfl
          case hy136 => (intro w hSw; (try dsimp only at hSw); go_simp; try with_reducible rfl)
          (try simp only [Act.put, sA, sB, sC])
          refine wpAnyH_take (i := 25) (oi := ?oi137) (v := ?v137) ?hi137 (by kernel_rfl) (by kernel_rfl) (by kernel_rfl) ?hQ137 (Or.inl ⟨?hw137, ?hy137⟩) (by assumption) ?rest137
          case hi137 => (simp only [gA, gB, gC]; rfl)
          case hQ137 => exact fun _ _ _ h => h
          case hw137 => rfl
          case hy137 => (intro w hSw; (try dsimp only at hSw); go_simp; try with_reducible rfl)
          (try simp only [Act.put, sA, sB, sC])
          refine wpAnyH_take (i := 26) (oi := ?oi138) (v := ?v138) ?hi138 (by kernel_rfl) (by kernel_rfl) (by kernel_rfl) ?hQ138 (Or.inl ⟨?hw138, ?hy138⟩) (by assumption) ?rest138
          case hi138 => (simp only [gA, gB, gC]; rfl)
          case hQ138 => exact fun _ _ _ h => h
          case hw138 => rfl
          case hy138 => (intro w hSw; (try dsimp only at hSw); go_simp; try with_reducible rfl)
          (try simp only [Act.put, sA, sB, sC])
          refine wpAnyH_take (i := 27) (oi := ?oi139) (v := ?v139) ?hi139 (by kernel_rfl) (by kernel_rfl) (by kernel_rfl) ?hQ139 (Or.inl ⟨?hw139, ?hy139⟩) (by assumption) ?rest139
          case hi139 => (simp only [gA, gB, gC]; rfl)
          case hQ139 => exact fun _ _ _ h => h
          case hw139 => rfl
          case hy139 => (intro w hSw; (try dsimp only at hSw); go_simp; try with_reducible rfl)
          (try simp only [Act.put, sA, sB, sC])
          refine wpAnyH_ready (rs := [28]) (by kernel_rfl) (by simp) ?_
          refine AllReadyH.cons (o := ?o140) ?ho140 (fun K hK => ?st140) AllReadyH.nil
          case ho140 => (simp only [gA, gB, gC]; rfl)
          go_simp
          refine (HFT.out _ (bel2 HB0.out HBr0.out)).mono ?_
          rintro e wr1 ⟨rfl, hbr1⟩
          have HBr1 := Lib.hid (bel2 HBr0.out hbr1)
          clear hbr1
          refine hK.out _ _ ?_ (fun hHeld => ?_)
          · (try dsimp only); (first | assumption | exact HK.out _ HBr2.out | exact HK.out _ HBr1.out | exact HK.out _ HBr0.out)
          clear hK K
          (try simp only [Act.put, sA, sB, sC])
          cases b4
          · skip
            refine wpAnyH_take (i := 29) (oi := ?oi141) (v := ?v141) ?hi141 (by kernel_rfl) (by kernel_rfl) (by kernel_rfl) ?hQ141 (Or.inl ⟨?hw141, ?hy141⟩) (by assumption) ?rest141
            case hi141 => (simp only [gA, gB, gC]; rfl)
            case hQ141 => exact fun _ _ _ h => h
            case hw141 => rfl
            case hy141 => (intro w hSw; (try dsimp only at hSw); go_simp; try with_reducible rfl)
            (try simp only [Act.put, sA, sB, sC])
            refine wpAnyH_take (i := 30) (oi := ?oi142) (v := ?v142) ?hi142 (by kernel_rfl) (by kernel_rfl) (by kernel_rfl) ?hQ142 (Or.inl ⟨?hw142, ?hy142⟩) (by assumption) ?rest142
            case hi142 => (simp only [gA, gB, gC]; rfl)
            case hQ142 => exact fun _ _ _ h => h
            case hw142 => rfl
            case hy142 => (intro w hSw; (try dsimp only at hSw); go_simp; try with_reducible rfl)
            (try simp only [Act.put, sA, sB, sC])
            refine wpAnyH_take (i := 31) (oi := ?oi143) (v := undef) ?hi143 (by kernel_rfl) (by kernel_rfl) (by kernel_rfl) ?hQ143 (Or.inr ⟨?hw143, rfl⟩) (by assumption) ?rest143
            case hi143 => (simp only [gA, gB, gC]; rfl)
            case hQ143 => exact fun _ _ _ h => h
            case hw143 => rfl
            (try simp only [Act.put, sA, sB, sC])
            refine wpAnyH_take (i := 32) (oi := ?oi144) (v := undef) ?hi144 (by kernel_rfl) (by kernel_rfl) (by kernel_rfl) ?hQ144 (Or.inr ⟨?hw144, rfl⟩) (by assumption) ?rest144
            case hi144 => (simp only [gA, gB, gC]; rfl)
            case hQ144 => exact fun _ _ _ h => h
            case hw144 => rfl
            (try simp only [Act.put, sA, sB, sC])
            refine wpAnyH_take (i := 33) (oi := ?oi145) (v := undef) ?hi145 (by kernel_rfl) (by kernel_rfl) (by kernel_rfl) ?hQ145 (Or.inr ⟨?hw145, rfl⟩) (by assumption) ?rest145
            case hi145 => (simp only [gA, gB, gC]; rfl)
            case hQ145 => exact fun _ _ _ h => h
            case hw145 => rfl
            (try simp only [Act.put, sA, sB, sC])
            refine wpAnyH_take (i := 34) (oi := ?oi146) (v := undef) ?hi146 (by kernel_rfl) (by kernel_rfl) (by kernel_rfl) ?hQ146 (Or.inr ⟨?hw146, rfl⟩) (by assumption) ?rest146
            case hi146 => (simp only [gA, gB, gC]; rfl)
            case hQ146 => exact fun _ _ _ h => h
            case hw146 => rfl
            (try simp only [Act.put, sA, sB, sC])
            refine wpAnyH_take (i := 35) (oi := ?oi147) (v := undef) ?hi147 (by kernel_rfl) (by kernel_rfl) (by kernel_rfl) ?hQ147 (Or.inr ⟨?hw147, rfl⟩) (by assumption) ?rest147
            case hi147 => (simp only [gA, gB, gC]; rfl)
            case hQ147 => exact fun _ _ _ h => h
            case hw147 => rfl
            (try simp only [Act.put, sA, sB, sC])
            refine wpAnyH_take (i := 36) (oi := ?oi148) (v := undef) ?hi148 (by kernel_rfl) (by kernel_rfl) (by kernel_rfl) ?hQ148 (Or.inr ⟨?hw148, rfl⟩) (by assumption) ?rest148
            case hi148 => (simp only [gA, gB, gC]; rfl)
            case hQ148 => exact fun _ _ _ h => h
            case hw148 => rfl
            (try simp only [Act.put, sA, sB, sC])
            refine wpAnyH_take (i := 37) (oi := ?oi149) (v := undef) ?hi149 (by kernel_rfl) (by kernel_rfl) (by kernel_rfl) ?hQ149 (Or.inr ⟨?hw149, rfl⟩) (by assumption) ?rest149
            case hi149 => (simp only [gA, gB, gC]; rfl)
            case hQ149 => exact fun _ _ _ h => h
            case hw149 => rfl
            (try simp only [Act.put, sA, sB, sC])
            refine wpAnyH_take (i := 38) (oi := ?oi150) (v := undef) ?hi150 (by kernel_rfl) (by kernel_rfl) (by kernel_rfl) ?hQ150 (Or.inr ⟨?hw150, rfl⟩) (by assumption) ?rest150
            case hi150 => (simp only [gA, gB, gC]; rfl)
            case hQ150 => exact fun _ _ _ h => h
            case hw150 => rfl
            (try simp only [Act.put, sA, sB, sC])
            refine wpAnyH_take (i := 39) (oi := ?oi151) (v := undef) ?hi151 (by kernel_rfl) (by kernel_rfl) (by kernel_rfl) ?hQ151 (Or.inr ⟨?hw151, rfl⟩) (by assumption) ?rest151
            case hi151 => (simp only [gA, gB, gC]; rfl)
            case hQ151 => exact fun _ _ _ h => h
            case hw151 => rfl
            (try simp only [Act.put, sA, sB, sC])
            refine wpAnyH_take (i := 40) (oi := ?oi152) (v := ?v152) ?hi152 (by kernel_rfl) (by kernel_rfl) (by kernel_rfl) ?hQ152 (Or.inl ⟨?hw152, ?hy152⟩) (by assumption) ?rest152
            case hi152 => (simp only [gA, gB, gC]; rfl)
            case hQ152 => exact fun _ _ _ h => h
            case hw152 => rfl
            case hy152 => (intro w hSw; (try dsimp only at hSw); go_simp; try with_reducible rfl)
            (try simp only [Act.put, sA, sB, sC])
            refine wpAnyH_take (i := 41) (oi := ?oi153) (v := ?v153) ?hi153 (by kernel_rfl) (by kernel_rfl) (by kernel_rfl) ?hQ153 (Or.inl ⟨?hw153, ?hy153⟩) (by assumption) ?rest153
            case hi153 => (simp only [gA, gB, gC]; rfl)
            case hQ153 => exact fun _ _ _ h => h
            case hw153 => rfl
            case hy153 => (intro w hSw; (try dsimp only at hSw); go_simp; try with_reducible rfl)
            (try simp only [Act.put, sA, sB, sC])
            refine wpAnyH_take (i := 42) (oi := ?oi154) (v := undef) ?hi154 (by kernel_rfl) (by kernel_rfl) (by kernel_rfl) ?hQ154 (Or.inr ⟨?hw154, rfl⟩) (by assumption) ?rest154
            case hi154 => (simp only [gA, gB, gC]; rfl)
            case hQ154 => exact fun _ _ _ h => h
            case hw154 => rfl
            (try simp only [Act.put, sA, sB, sC])
            refine wpAnyH_take (i := 43) (oi := ?oi155) (v := undef) ?hi155 (by kernel_rfl) (by kernel_rfl) (by kernel_rfl) ?hQ155 (Or.inr ⟨?hw155, rfl⟩) (by assumption) ?rest155
            case hi155 => (simp only [gA, gB, gC]; rfl)
            case hQ155 => exact fun _ _ _ h => h
            case hw155 => rfl
            (try simp only [Act.put, sA, sB, sC])
            refine wpAnyH_take (i := 44) (oi := ?oi156) (v := undef) ?hi156 (by kernel_rfl) (by kernel_rfl) (by kernel_rfl) ?hQ156 (Or.inr ⟨?hw156, rfl⟩) (by assumption) ?rest156
            case hi156 => (simp only [gA, gB, gC]; rfl)
            case hQ156 => exact fun _ _ _ h => h
            case hw156 => rfl
            (try simp only [Act.put, sA, sB, sC])
            refine wpAnyH_take (i := 45) (oi := ?oi157) (v := undef) ?hi157 (by kernel_rfl) (by kernel_rfl) (by kernel_rfl) ?hQ157 (Or.inr ⟨?hw157, rfl⟩) (by assumption) ?rest157
            case hi157 => (simp only [gA, gB, gC]; rfl)
            case hQ157 => exact fun _ _ _ h => h
            case hw157 => rfl
            (try simp only [Act.put, sA, sB, sC])
            refine wpAnyH_take (i := 46) (oi := ?oi158) (v := undef) ?hi158 (by kernel_rfl) (by kernel_rfl) (by kernel_rfl) ?hQ158 (Or.inr ⟨?hw158, rfl⟩) (by assumption) ?rest158
            case hi158 => (simp only [gA, gB, gC]; rfl)
            case hQ158 => exact fun _ _ _ h => h
            case hw158 => rfl
            (try simp only [Act.put, sA, sB, sC])
            refine wpAnyH_take (i := 47) (oi := ?oi159) (v := undef) ?hi159 (by kernel_rfl) (by kernel_rfl) (by kernel_rfl) ?hQ159 (Or.inr ⟨?hw159, rfl⟩) (by assumption) ?rest159
            case hi159 => (simp only [gA, gB, gC]; rfl)
            case hQ159 => exact fun _ _ _ h => h
            case hw159 => rfl
            (try simp only [Act.put, sA, sB, sC])
            refine wpAnyH_take (i := 48) (oi := ?oi160) (v := undef) ?hi160 (by kernel_rfl) (by kernel_rfl) (by kernel_rfl) ?hQ160 (Or.inr ⟨?hw160, rfl⟩) (by assumption) ?rest160
            case hi160 => (simp only [gA, gB, gC]; rfl)
            case hQ160 => exact fun _ _ _ h => h
            case hw160 => rfl
            (try simp only [Act.put, sA, sB, sC])
            refine wpAnyH_take (i := 49) (oi := ?oi161) (v := ?v161) ?hi161 (by kernel_rfl) (by kernel_rfl) (by kernel_rfl) ?hQ161 (Or.inl ⟨?hw161, ?hy161⟩) (by assumption) ?rest161
            case hi161 => (simp only [gA, gB, gC]; rfl)
            case hQ161 => exact fun _ _ _ h => h
            case hw161 => rfl
            case hy161 => (intro w hSw; (try dsimp only at hSw); go_simp; try with_reducible rfl)
            (try simp only [Act.put, sA, sB, sC])
            refine wpAnyH_take (i := 50) (oi := ?oi162) (v := ?v162) ?hi162 (by kernel_rfl) (by kernel_rfl) (by kernel_rfl) ?hQ162 (Or.inl ⟨?hw162, ?hy162⟩) (by assumption) ?rest162
            case hi162 => (simp only [gA, gB, gC]; rfl)
            case hQ162 => exact fun _ _ _ h => h
            case hw162 => rfl
            case hy162 => (intro w hSw; (try dsimp only at hSw); go_simp; try with_reducible rfl)
            (try simp only [Act.put, sA, sB, sC])
            refine wpAnyH_take (i := 51) (oi := ?oi163) (v := undef) ?hi163 (by kernel_rfl) (by kernel_rfl) (by kernel_rfl) ?hQ163 (Or.inr ⟨?hw163, rfl⟩) (by assumption) ?rest163
            case hi163 => (simp only [gA, gB, gC]; rfl)
            case hQ163 => exact fun _ _ _ h => h
            case hw163 => rfl
            (try simp only [Act.put, sA, sB, sC])
            refine wpAnyH_take (i := 52) (oi := ?oi164) (v := undef) ?hi164 (by kernel_rfl) (by kernel_rfl) (by kernel_rfl) ?hQ164 (Or.inr ⟨?hw164, rfl⟩) (by assumption) ?rest164
            case hi164 => (simp only [gA, gB, gC]; rfl)
            case hQ164 => exact fun _ _ _ h => h
            case hw164 => rfl
            (try simp only [Act.put, sA, sB, sC])
            refine wpAnyH_take (i := 53) (oi := ?oi165) (v := undef) ?hi165 (by kernel_rfl) (by kernel_rfl) (by kernel_rfl) ?hQ165 (Or.inr ⟨?hw165, rfl⟩) (by assumption) ?rest165
            case hi165 => (simp only [gA, gB, gC]; rfl)
            case hQ165 => exact fun _ _ _ h => h
            case hw165 => rfl
            (try simp only [Act.put, sA, sB, sC])
            refine wpAnyH_take (i := 54) (oi := ?oi166) (v := ?v166) ?hi166 (by kernel_rfl) (by kernel_rfl) (by kernel_rfl) ?hQ166 (Or.inl ⟨?hw166, ?hy166⟩) (by assumption) ?rest166
            case hi166 => (simp only [gA, gB, gC]; rfl)
            case hQ166 => exact fun _ _ _ h => h
            case hw166 => rfl
            case hy166 => (intro w hSw; (try dsimp only at hSw); go_simp; try with_reducible rfl)
            (try simp only [Act.put, sA, sB, sC])
            refine wpAnyH_take (i := 55) (oi := ?oi167) (v := ?v167) ?hi167 (by kernel_rfl) (by kernel_rfl) (by kernel_rfl) ?hQ167 (Or.inl ⟨?hw167, ?hy167⟩) (by assumption) ?rest167
            case hi167 => (simp only [gA, gB, gC]; rfl)
            case hQ167 => exact fun _ _ _ h => h
            case hw167 => rfl
            case hy167 => (intro w hSw; (try dsimp only at hSw); go_simp; try with_reducible rfl)
            (try simp only [Act.put, sA, sB, sC])
            refine wpAnyH_take (i := 56) (oi := ?oi168) (v := undef) ?hi168 (by kernel_rfl) (by kernel_rfl) (by kernel_rfl) ?hQ168 (Or.inr ⟨?hw168, rfl⟩) (by assumption) ?rest168
            case hi168 => (simp only [gA, gB, gC]; rfl)
            case hQ168 => exact fun _ _ _ h => h
            case hw168 => rfl
            (try simp only [Act.put, sA, sB, sC])
            refine wpAnyH_take (i := 57) (oi := ?oi169) (v := undef) ?hi169 (by kernel_rfl) (by kernel_rfl) (by kernel_rfl) ?hQ169 (Or.inr ⟨?hw169, rfl⟩) (by assumption) ?rest169
            case hi169 => (simp only [gA, gB, gC]; rfl)
            case hQ169 => exact fun _ _ _ h => h
            case hw169 => rfl
            (try simp only [Act.put, sA, sB, sC])
            refine wpAnyH_take (i := 58) (oi := ?oi170) (v := undef) ?hi170 (by kernel_rfl) (by kernel_rfl) (by kernel_rfl) ?hQ170 (Or.inr ⟨?hw170, rfl⟩) (by assumption) ?rest170
            case hi170 => (simp only [gA, gB, gC]; rfl)
            case hQ170 => exact fun _ _ _ h => h
            case hw170 => rfl
            (try simp only [Act.put, sA, sB, sC])
            refine wpAnyH_take (i := 59) (oi := ?oi171) (v := ?v171) ?hi171 (by kernel_rfl) (by kernel_rfl) (by kernel_rfl) ?hQ171 (Or.inl ⟨?hw171, ?hy171⟩) (by assumption) ?rest171
            case hi171 => (simp only [gA, gB, gC]; rfl)
            case hQ171 => exact fun _ _ _ h => h
            case hw171 => rfl
            case hy171 => (intro w hSw; (try dsimp only at hSw); go_simp; try with_reducible rfl)
            (try simp only [Act.put, sA, sB, sC])
            refine wpAnyH_take (i := 60) (oi := ?oi172) (v := ?v172) ?hi172 (by kernel_rfl) (by kernel_rfl) (by kernel_rfl) ?hQ172 (Or.inl ⟨?hw172, ?hy172⟩) (by assumption) ?rest172
            case hi172 => (simp only [gA, gB, gC]; rfl)
            case hQ172 => exact fun _ _ _ h => h
            case hw172 => rfl
            case hy172 => (intro w hSw; (try dsimp only at hSw); go_simp; try with_reducible rfl)
            (try simp only [Act.put, sA, sB, sC])
            refine wpAnyH_done (by kernel_rfl) ?_ _
            go_wp2
            go_ret
            exact ⟨ret_bool (by first | (simp [*]; done) | (simp [*]; omega)), bel2 HB0.out (by first | exact HBr2.out | exact HBr1.out | exact HBr0.out)⟩
          · skip
            obtain ⟨sd, A, c, rfl, hsl, s0, s1, s2, hso⟩ := stg_at (HSS.out _ (bel2 HB0.out HBr1.out)) hjl
            have HEN := Lib.hid (rightEnds_any EA ec ends (stgAt ct j) A c wr1 (HEE.out _ (bel2 HB0.out HBr1.out)) hso)
            generalize endsR (stgAt ct (j : Int)).orgs (-1) ends = b5 at *
            generalize stgAt ct (j : Int) = sg at *
            clear hso
            refine wpAnyH_take (i := 29) (oi := ?oi173) (v := ?v173) ?hi173 (by kernel_rfl) (by kernel_rfl) (by kernel_rfl) ?hQ173 (Or.inl ⟨?hw173, ?hy173⟩) (by assumption) ?rest173
            case hi173 => (simp only [gA, gB, gC]; rfl)
            case hQ173 => exact fun _ _ _ h => h
            case hw173 => rfl
            case hy173 => (intro w hSw; (try dsimp only at hSw); go_simp; try with_reducible rfl)
            (try simp only [Act.put, sA, sB, sC])
            refine wpAnyH_take (i := 30) (oi := ?oi174) (v := ?v174) ?hi174 (by kernel_rfl) (by kernel_rfl) (by kernel_rfl) ?hQ174 (Or.inl ⟨?hw174, ?hy174⟩) (by assumption) ?rest174
            case hi174 => (simp only [gA, gB, gC]; rfl)
            case hQ174 => exact fun _ _ _ h => h
            case hw174 => rfl
            case hy174 => (intro w hSw; (try dsimp only at hSw); go_simp; try with_reducible rfl)
            (try simp only [Act.put, sA, sB, sC])
            refine wpAnyH_take (i := 31) (oi := ?oi175) (v := ?v175) ?hi175 (by kernel_rfl) (by kernel_rfl) (by kernel_rfl) ?hQ175 (Or.inl ⟨?hw175, ?hy175⟩) (by assumption) ?rest175
            case hi175 => (simp only [gA, gB, gC]; rfl)
            case hQ175 => exact fun _ _ _ h => h
            case hw175 => rfl
            case hy175 => (intro w hSw; (try dsimp only at hSw); go_simp; try with_reducible rfl)
            (try simp only [Act.put, sA, sB, sC])
            refine wpAnyH_take (i := 32) (oi := ?oi176) (v := ?v176) ?hi176 (by kernel_rfl) (by kernel_rfl) (by kernel_rfl) ?hQ176 (Or.inl ⟨?hw176, ?hy176⟩) (by assumption) ?rest176
            case hi176 => (simp only [gA, gB, gC]; rfl)
            case hQ176 => exact fun _ _ _ h => h
            case hw176 => rfl
            case hy176 => (intro w hSw; (try dsimp only at hSw); go_simp; try with_reducible rfl)
            (try simp only [Act.put, sA, sB, sC])
            refine wpAnyH_take (i := 33) (oi := ?oi177) (v := ?v177) ?hi177 (by kernel_rfl) (by kernel_rfl) (by kernel_rfl) ?hQ177 (Or.inl ⟨?hw177, ?hy177⟩) (by assumption) ?rest177
            case hi177 => (simp only [gA, gB, gC]; rfl)
            case hQ177 => exact fun _ _ _ h => h
            case hw177 => rfl
            case hy177 => (intro w hSw; (try dsimp only at hSw); go_simp; try with_reducible rfl)
            (try simp only [Act.put, sA, sB, sC])
            refine wpAnyH_take (i := 34) (oi := ?oi178) (v := ?v178) ?hi178 (by kernel_rfl) (by kernel_rfl) (by kernel_rfl) ?hQ178 (Or.inl ⟨?hw178, ?hy178⟩) (by assumption) ?rest178
            case hi178 => (simp only [gA, gB, gC]; rfl)
            case hQ178 => exact fun _ _ _ h => h
            case hw178 => rfl
            case hy178 => (intro w hSw; (try dsimp only at hSw); go_simp; try with_reducible rfl)
            (try simp only [Act.put, sA, sB, sC])
            refine wpAnyH_take (i := 35) (oi := ?oi179) (v := ?v179) ?hi179 (by kernel_rfl) (by kernel_rfl) (by kernel_rfl) ?hQ179 (Or.inl ⟨?hw179, ?hy179⟩) (by assumption) ?rest179
            case hi179 => (simp only [gA, gB, gC]; rfl)
            case hQ179 => exact fun _ _ _ h => h
            case hw179 => rfl
            case hy179 => (intro w hSw; (try dsimp only at hSw); go_simp; try with_reducible rfl)
            (try simp only [Act.put, sA, sB, sC])
            refine wpAnyH_take (i := 36) (oi := ?oi180) (v := ?v180) ?hi180 (by kernel_rfl) (by kernel_rfl) (by kernel_rfl) ?hQ180 (Or.inl ⟨?hw180, ?hy180⟩) (by assumption) ?rest180
            case hi180 => (simp only [gA, gB, gC]; rfl)
            case hQ180 => exact fun _ _ _ h => h
            case hw180 => rfl
            case hy180 => (intro w hSw; (try dsimp only at hSw); go_simp; try with_reducible rfl)
            (try simp only [Act.put, sA, sB, sC])
            refine wpAnyH_take (i := 37) (oi := ?oi181) (v := ?v181) ?hi181 (by kernel_rfl) (by kernel_rfl) (by kernel_rfl) ?hQ181 (Or.inl ⟨?hw181, ?hy181⟩) (by assumption) ?rest181
            case hi181 => (simp only [gA, gB, gC]; rfl)
            case hQ181 => exact fun _ _ _ h => h
            case hw181 => rfl
            case hy181 => (intro w hSw; (try dsimp only at hSw); go_simp; try with_reducible rfl)
            (try simp only [Act.put, sA, sB, sC])
            refine wpAnyH_ready (rs := [38]) (by kernel_rfl) (by simp) ?_
            refine AllReadyH.cons (o := ?o182) ?ho182 (fun K hK => ?st182) AllReadyH.nil
            case ho182 => (simp only [gA, gB, gC]; rfl)
            go_simp
            refine hK.out _ _ ?_ (fun hHeld => ?_)
            · (try dsimp only); (first | assumption | exact HK.out _ HBr2.out | exact HK.out _ HBr1.out | exact HK.out _ HBr0.out)
            clear hK K
            (try simp only [Act.put, sA, sB, sC])
            refine wpAnyH_ready (rs := [39]) (by kernel_rfl) (by simp) ?_
            refine AllReadyH.cons (o := ?o183) ?ho183 (fun K hK => ?st183) AllReadyH.nil
            case ho183 => (simp only [gA, gB, gC]; rfl)
            go_simp
            refine HEN.out.mono ?_
            rintro e wr2 ⟨rfl, hbr2⟩
            have HBr2 := Lib.hid (bel2 HBr1.out hbr2)
            clear hbr2
            refine hK.out _ _ ?_ (fun hHeld => ?_)
            · (try dsimp only); (first | assumption | exact HK.out _ HBr2.out | exact HK.out _ HBr1.out | exact HK.out _ HBr0.out)
            clear hK K
            (try simp only [Act.put, sA, sB, sC])
            cases b5
            · skip
              refine wpAnyH_take (i := 40) (oi := ?oi184) (v := ?v184) ?hi184 (by kernel_rfl) (by kernel_rfl) (by kernel_rfl) ?hQ184 (Or.inl ⟨?hw184, ?hy184⟩) (by assumption) ?rest184
              case hi184 => (simp only [gA, gB, gC]; rfl)
              case hQ184 => exact fun _ _ _ h => h
              case hw184 => rfl
              case hy184 => (intro w hSw; (try dsimp only at hSw); go_simp; try with_reducible rfl)
              (try simp only [Act.put, sA, sB, sC])
              refine wpAnyH_take (i := 41) (oi := ?oi185) (v := ?v185) ?hi185 (by kernel_rfl) (by kernel_rfl) (by kernel_rfl) ?hQ185 (Or.inl ⟨?hw185, ?hy185⟩) (by assumption) ?rest185
              case hi185 => (simp only [gA, gB, gC]; rfl)
              case hQ185 => exact fun _ _ _ h => h
              case hw185 => rfl
              case hy185 => (intro w hSw; (try dsimp only at hSw); go_simp; try with_reducible rfl)
              (try simp only [Act.put, sA, sB, sC])
              refine wpAnyH_take (i := 42) (oi := ?oi186) (v := undef) ?hi186 (by kernel_rfl) (by kernel_rfl) (by kernel_rfl) ?hQ186 (Or.inr ⟨?hw186, rfl⟩) (by assumption) ?rest186
              case hi186 => (simp only [gA, gB, gC]; rfl)
              case hQ186 => exact fun _ _ _ h => h
              case hw186 => rfl
              (try simp only [Act.put, sA, sB, sC])
              refine wpAnyH_take (i := 43) (oi := ?oi187) (v := undef) ?hi187 (by kernel_rfl) (by kernel_rfl) (by kernel_rfl) ?hQ187 (Or.inr ⟨?hw187, rfl⟩) (by assumption) ?rest187
              case hi187 => (simp only [gA, gB, gC]; rfl)
              case hQ187 => exact fun _ _ _ h => h
              case hw187 => rfl
              (try simp only [Act.put, sA, sB, sC])
              refine wpAnyH_take (i := 44) (oi := ?oi188) (v := undef) ?hi188 (by kernel_rfl) (by kernel_rfl) (by kernel_rfl) ?hQ188 (Or.inr ⟨?hw188, rfl⟩) (by assumption) ?rest188
              case hi188 => (simp only [gA, gB, gC]; rfl)
              case hQ188 => exact fun _ _ _ h => h
              case hw188 => rfl
              (try simp only [Act.put, sA, sB, sC])
              refine wpAnyH_take (i := 45) (oi := ?oi189) (v := undef) ?hi189 (by kernel_rfl) (by kernel_rfl) (by kernel_rfl) ?hQ189 (Or.inr ⟨?hw189, rfl⟩) (by assumption) ?rest189
              case hi189 => (simp only [gA, gB, gC]; rfl)
              case hQ189 => exact fun _ _ _ h => h
              case hw189 => rfl
              (try simp only [Act.put, sA, sB, sC])
              refine wpAnyH_take (i := 46) (oi := ?oi190) (v := undef) ?hi190 (by kernel_rfl) (by kernel_rfl) (by kernel_rfl) ?hQ190 (Or.inr ⟨?hw190, rfl⟩) (by assumption) ?rest190
              case hi190 => (simp only [gA, gB, gC]; rfl)
              case hQ190 => exact fun _ _ _ h => h
              case hw190 => rfl
              (try simp only [Act.put, sA, sB, sC])
              refine wpAnyH_take (i := 47) (oi := ?oi191) (v := undef) ?hi191 (by kernel_rfl) (by kernel_rfl) (by kernel_rfl) ?hQ191 (Or.inr ⟨?hw191, rfl⟩) (by assumption) ?rest191
              case hi191 => (simp only [gA, gB, gC]; rfl)
              case hQ191 => exact fun _ _ _ h => h
              case hw191 => rfl
              (try simp only [Act.put, sA, sB, sC])
              refine wpAnyH_take (i := 48) (oi := ?oi192) (v := undef) ?hi192 (by kernel_rfl) (by kernel_rfl) (by kernel_rfl) ?hQ192 (Or.inr ⟨?hw192, rfl⟩) (by assumption) ?rest192
              case hi192 => (simp only [gA, gB, gC]; rfl)
              case hQ192 => exact fun _ _ _ h => h
              case hw192 => rfl
              (try simp only [Act.put, sA, sB, sC])
              refine wpAnyH_take (i := 49) (oi := ?oi193) (v := ?v193) ?hi193 (by kernel_rfl) (by kernel_rfl) (by kernel_rfl) ?hQ193 (Or.inl ⟨?hw193, ?hy193⟩) (by assumption) ?rest193
              case hi193 => (simp only [gA, gB, gC]; rfl)
              case hQ193 => exact fun _ _ _ h => h
              case hw193 => rfl
              case hy193 => (intro w hSw; (try dsimp only at hSw); go_simp; try with_reducible rfl)
              (try simp only [Act.put, sA, sB, sC])
              refine wpAnyH_take (i := 50) (oi := ?oi194) (v := ?v194) ?hi194 (by kernel_rfl) (by kernel_rfl) (by kernel_rfl) ?hQ194 (Or.inl ⟨?hw194, ?hy194⟩) (by assumption) ?rest194
              case hi194 => (simp only [gA, gB, gC]; rfl)
              case hQ194 => exact fun _ _ _ h => h
              case hw194 => rfl
              case hy194 => (intro w hSw; (try dsimp only at hSw); go_simp; try with_reducible rfl)
              (try simp only [Act.put, sA, sB, sC])
              refine wpAnyH_take (i := 51) (oi := ?oi195) (v := undef) ?hi195 (by kernel_rfl) (by kernel_rfl) (by kernel_rfl) ?hQ195 (Or.inr ⟨?hw195, rfl⟩) (by assumption) ?rest195
              case hi195 => (simp only [gA, gB, gC]; rfl)
              case hQ195 => exact fun _ _ _ h => h
              case hw195 => rfl
              (try simp only [Act.put, sA, sB, sC])
              refine wpAnyH_take (i := 52) (oi := ?oi196) (v := undef) ?hi196 (by kernel_rfl) (by kernel_rfl) (by kernel_rfl) ?hQ196 (Or.inr ⟨?hw196, rfl⟩) (by assumption) ?rest196
              case hi196 => (simp only [gA, gB, gC]; rfl)
              case hQ196 => exact fun _ _ _ h => h
              case hw196 => rfl
              (try simp only [Act.put, sA, sB, sC])
              refine wpAnyH_take (i := 53) (oi := ?oi197) (v := undef) ?hi197 (by kernel_rfl) (by kernel_rfl) (by kernel_rfl) ?hQ197 (Or.inr ⟨?hw197, rfl⟩) (by assumption) ?rest197
              case hi197 => (simp only [gA, gB, gC]; rfl)
              case hQ197 => exact fun _ _ _ h => h
              case hw197 => rfl
              (try simp only [Act.put, sA, sB, sC])
              refine wpAnyH_take (i := 54) (oi := ?oi198) (v := ?v198) ?hi198 (by kernel_rfl) (by kernel_rfl) (by kernel_rfl) ?hQ198 (Or.inl ⟨?hw198, ?hy198⟩) (by assumption) ?rest198
              case hi198 => (simp only [gA, gB, gC]; rfl)
              case hQ198 => exact fun _ _ _ h => h
              case hw198 => rfl
              case hy198 => (intro w hSw; (try dsimp only at hSw); go_simp; try with_reducible rfl)
              (try simp only [Act.put, sA, sB, sC])
              refine wpAnyH_take (i := 55) (oi := ?oi199) (v := ?v199) ?hi199 (by kernel_rfl) (by kernel_rfl) (by kernel_rfl) ?hQ199 (Or.inl ⟨?hw199, ?hy199⟩) (by assumption) ?rest199
              case hi199 => (simp only [gA, gB, gC]; rfl)
              case hQ199 => exact fun _ _ _ h => h
              case hw199 => rfl
              case hy199 => (intro w hSw; (try dsimp only at hSw); go_simp; try with_reducible rfl)
              (try simp only [Act.put, sA, sB, sC])
              refine wpAnyH_take (i := 56) (oi := ?oi200) (v := undef) ?hi200 (by kernel_rfl) (by kernel_rfl) (by kernel_rfl) ?hQ200 (Or.inr ⟨?hw200, rfl⟩) (by assumption) ?rest200
              case hi200 => (simp only [gA, gB, gC]; rfl)
              case hQ200 => exact fun _ _ _ h => h
              case hw200 => rfl
              (try simp only [Act.put, sA, sB, sC])
              refine wpAnyH_take (i := 57) (oi := ?oi201) (v := undef) ?hi201 (by kernel_rfl) (by kernel_rfl) (by kernel_rfl) ?hQ201 (Or.inr ⟨?hw201, rfl⟩) (by assumption) ?rest201
              case hi201 => (simp only [gA, gB, gC]; rfl)
              case hQ201 => exact fun _ _ _ h => h
              case hw201 => rfl
              (try simp only [Act.put, sA, sB, sC])
              refine wpAnyH_take (i := 58) (oi := ?oi202) (v := undef) ?hi202 (by kernel_rfl) (by kernel_rfl) (by kernel_rfl) ?hQ202 (Or.inr ⟨?hw202, rfl⟩) (by assumption) ?rest202
              case hi202 => (simp only [gA, gB, gC]; rfl)
              case hQ202 => exact fun _ _ _ h => h
              case hw202 => rfl
              (try simp only [Act.put, sA, sB, sC])
              refine wpAnyH_take (i := 59) (oi := ?oi203) (v := ?v203) ?hi203 (by kernel_rfl) (by kernel_rfl) (by kernel_rfl) ?hQ203 (Or.inl ⟨?hw203, ?hy203⟩) (by assumption) ?rest203
              case hi203 => (simp only [gA, gB, gC]; rfl)
              case hQ203 => exact fun _ _ _ h => h
              case hw203 => rfl
              case hy203 => (intro w hSw; (try dsimp only at hSw); go_simp; try with_reducible rfl)
              (try simp only [Act.put, sA, sB, sC])
              refine wpAnyH_take (i := 60) (oi := ?oi204) (v := ?v204) ?hi204 (by kernel_rfl) (by kernel_rfl) (by kernel_rfl) ?hQ204 (Or.inl ⟨?hw204, ?hy204⟩) (by assumption) ?rest204
              case hi204 => (simp only [gA, gB, gC]; rfl)
              case hQ204 => exact fun _ _ _ h => h
              case hw204 => rfl
              case hy204 => (intro w hSw; (try dsimp only at hSw); go_simp; try with_reducible rfl)
              (try simp only [Act.put, sA, sB, sC])
              refine wpAnyH_done (by kernel_rfl) ?_ _
              go_wp2
              go_ret
              exact ⟨ret_bool (by first | (simp [*]; done) | (simp [*]; omega)), bel2 HB0.out (by first | exact HBr2.out | exact HBr1.out | exact HBr0.out)⟩
            · skip
              refine wpAnyH_take (i := 40) (oi := ?oi205) (v := ?v205) ?hi205 (by kernel_rfl) (by kernel_rfl) (by kernel_rfl) ?hQ205 (Or.inl ⟨?hw205, ?hy205⟩) (by assumption) ?rest205
              case hi205 => (simp only [gA, gB, gC]; rfl)
              case hQ205 => exact fun _ _ _ h => h
              case hw205 => rfl
              case hy205 => (intro w hSw; (try dsimp only at hSw); go_simp; try with_reducible rfl)
              (try simp only [Act.put, sA, sB, sC])
              refine wpAnyH_take (i := 41) (oi := ?oi206) (v := ?v206) ?hi206 (by kernel_rfl) (by kernel_rfl) (by kernel_rfl) ?hQ206 (Or.inl ⟨?hw206, ?hy206⟩) (by assumption) ?rest206
              case hi206 => (simp only [gA, gB, gC]; rfl)
              case hQ206 => exact fun _ _ _ h => h
              case hw206 => rfl
              case hy206 => (intro w hSw; (try dsimp only at hSw); go_simp; try with_reducible rfl)
              (try simp only [Act.put, sA, sB, sC])
              refine wpAnyH_take (i := 42) (oi := ?oi207) (v := ?v207) ?hi207 (by kernel_rfl) (by kernel_rfl) (by kernel_rfl) ?hQ207 (Or.inl ⟨?hw207, ?hy207⟩) (by assumption) ?rest207
              case hi207 => (simp only [gA, gB, gC]; rfl)
              case hQ207 => exact fun _ _ _ h => h
              case hw207 => rfl
              case hy207 => (intro w hSw; (try dsimp only at hSw); go_simp; try with_reducible rfl)
              (try simp only [Act.put, sA, sB, sC])
              cases su
              · skip
                refine wpAnyH_take (i := 43) (oi := ?oi208) (v := ?v208) ?hi208 (by kernel_rfl) (by kernel_rfl) (by kernel_rfl) ?hQ208 (Or.inl ⟨?hw208, ?hy208⟩) (by assumption) ?rest208
                case hi208 => (simp only [gA, gB, gC]; rfl)
                case hQ208 => exact fun _ _ _ h => h
                case hw208 => rfl
                case hy208 => (intro w hSw; (try dsimp only at hSw); go_simp; try with_reducible rfl)
                (try simp only [Act.put, sA, sB, sC])
                refine wpAnyH_take (i := 44) (oi := ?oi209) (v := ?v209) ?hi209 (by kernel_rfl) (by kernel_rfl) (by kernel_rfl) ?hQ209 (Or.inl ⟨?hw209, ?hy209⟩) (by assumption) ?rest209
                case hi209 => (simp only [gA, gB, gC]; rfl)
                case hQ209 => exact fun _ _ _ h => h
                case hw209 => rfl
                case hy209 => (intro w hSw; (try dsimp only at hSw); go_simp; try with_reducible rfl)
                (try simp only [Act.put, sA, sB, sC])
                refine wpAnyH_take (i := 45) (oi := ?oi210) (v := undef) ?hi210 (by kernel_rfl) (by kernel_rfl) (by kernel_rfl) ?hQ210 (Or.inr ⟨?hw210, rfl⟩) (by assumption) ?rest210
                case hi210 => (simp only [gA, gB, gC]; rfl)
                case hQ210 => exact fun _ _ _ h => h
                case hw210 => rfl
                (try simp only [Act.put, sA, sB, sC])
                refine wpAnyH_take (i := 46) (oi := ?oi211) (v := undef) ?hi211 (by kernel_rfl) (by kernel_rfl) (by kernel_rfl) ?hQ211 (Or.inr ⟨?hw211, rfl⟩) (by assumption) ?rest211
                case hi211 => (simp only [gA, gB, gC]; rfl)
                case hQ211 => exact fun _ _ _ h => h
                case hw211 => rfl
                (try simp only [Act.put, sA, sB, sC])
                refine wpAnyH_take (i := 47) (oi := ?oi212) (v := ?v212) ?hi212 (by kernel_rfl) (by kernel_rfl) (by kernel_rfl) ?hQ212 (Or.inl ⟨?hw212, ?hy212⟩) (by assumption) ?rest212
                case hi212 => (simp only [gA, gB, gC]; rfl)
                case hQ212 => exact fun _ _ _ h => h
                case hw212 => rfl
                case hy212 => (intro w hSw; (try dsimp only at hSw); go_simp; try with_reducible rfl)
                (try simp only [Act.put, sA, sB, sC])
                refine wpAnyH_take (i := 48) (oi := ?oi213) (v := ?v213) ?hi213 (by kernel_rfl) (by kernel_rfl) (by kernel_rfl) ?hQ213 (Or.inl ⟨?hw213, ?hy213⟩) (by assumption) ?rest213
                case hi213 => (simp only [gA, gB, gC]; rfl)
                case hQ213 => exact fun _ _ _ h => h
                case hw213 => rfl
                case hy213 => (intro w hSw; (try dsimp only at hSw); go_simp; try with_reducible rfl)
                (try simp only [Act.put, sA, sB, sC])
                refine wpAnyH_take (i := 49) (oi := ?oi214) (v := ?v214) ?hi214 (by kernel_rfl) (by kernel_rfl) (by kernel_rfl) ?hQ214 (Or.inl ⟨?hw214, ?hy214⟩) (by assumption) ?rest214
                case hi214 => (simp only [gA, gB, gC]; rfl)
                case hQ214 => exact fun _ _ _ h => h
                case hw214 => rfl
                case hy214 => (intro w hSw; (try dsimp only at hSw); go_simp; try with_reducible rfl)
                (try simp only [Act.put, sA, sB, sC])
                refine wpAnyH_take (i := 50) (oi := ?oi215) (v := ?v215) ?hi215 (by kernel_rfl) (by kernel_rfl) (by kernel_rfl) ?hQ215 (Or.inl ⟨?hw215, ?hy215⟩) (by assumption) ?rest215
                case hi215 => (simp only [gA, gB, gC]; rfl)
                case hQ215 => exact fun _ _ _ h => h
                case hw215 => rfl
                case hy215 => (intro w hSw; (try dsimp only at hSw); go_simp; try with_reducible rfl)
                (try simp only [Act.put, sA, sB, sC])
                refine wpAnyH_take (i := 51) (oi := ?oi216) (v := ?v216) ?hi216 (by kernel_rfl) (by kernel_rfl) (by kernel_rfl) ?hQ216 (Or.inl ⟨?hw216, ?hy216⟩) (by assumption) ?rest216
                case hi216 => (simp only [gA, gB, gC]; rfl)
                case hQ216 => exact fun _ _ _ h => h
                case hw216 => rfl
                case hy216 => (intro w hSw; (try dsimp only at hSw); go_simp; try with_reducible rfl)
                (try simp only [Act.put, sA, sB, sC])
                refine wpAnyH_take (i := 52) (oi := ?oi217) (v := ?v217) ?hi217 (by kernel_rfl) (by kernel_rfl) (by kernel_rfl) ?hQ217 (Or.inl ⟨?hw217, ?hy217⟩) (by assumption) ?rest217
                case hi217 => (simp only [gA, gB, gC]; rfl)
                case hQ217 => exact fun _ _ _ h => h
                case hw217 => rfl
                case hy217 => (intro w hSw; (try dsimp only at hSw); go_simp; try with_reducible rfl)
                (try simp only [Act.put, sA, sB, sC])
                by_cases h7 : (0 : Int) ≤ sp
                · skip
                  refine wpAnyH_take (i := 53) (oi := ?oi218) (v := ?v218) ?hi218 (by kernel_rfl) (by kernel_rfl) (by kernel_rfl) ?hQ218 (Or.inl ⟨?hw218, ?hy218⟩) (by assumption) ?rest218
                  case hi218 => (simp only [gA, gB, gC]; rfl)
                  case hQ218 => exact fun _ _ _ h => h
                  case hw218 => rfl
                  case hy218 => (intro w hSw; (try dsimp only at hSw); go_simp; try with_reducible rfl)
                  (try simp only [Act.put, sA, sB, sC])
                  refine wpAnyH_take (i := 54) (oi := ?oi219) (v := ?v219) ?hi219 (by kernel_rfl) (by kernel_rfl) (by kernel_rfl) ?hQ219 (Or.inl ⟨?hw219, ?hy219⟩) (by assumption) ?rest219
                  case hi219 => (simp only [gA, gB, gC]; rfl)
                  case hQ219 => exact fun _ _ _ h => h
                  case hw219 => rfl
                  case hy219 => (intro w hSw; (try dsimp only at hSw); go_simp; try with_reducible rfl)
                  (try simp only [Act.put, sA, sB, sC])
                  refine wpAnyH_take (i := 55) (oi := ?oi220) (v := ?v220) ?hi220 (by kernel_rfl) (by kernel_rfl) (by kernel_rfl) ?hQ220 (Or.inl ⟨?hw220, ?hy220⟩) (by assumption) ?rest220
                  case hi220 => (simp only [gA, gB, gC]; rfl)
                  case hQ220 => exact fun _ _ _ h => h
                  case hw220 => rfl
                  case hy220 => (intro w hSw; (try dsimp only at hSw); go_simp; try with_reducible rfl)
                  (try simp only [Act.put, sA, sB, sC])
                  refine wpAnyH_take (i := 56) (oi := ?oi221) (v := ?v221) ?hi221 (by kernel_rfl) (by kernel_rfl) (by kernel_rfl) ?hQ221 (Or.inl ⟨?hw221, ?hy221⟩) (by assumption) ?rest221
                  case hi221 => (simp only [gA, gB, gC]; rfl)
                  case hQ221 => exact fun _ _ _ h => h
                  case hw221 => rfl
                  case hy221 => (intro w hSw; (try dsimp only at hSw); go_simp; try with_reducible rfl)
                  (try simp only [Act.put, sA, sB, sC])
                  refine wpAnyH_take (i := 57) (oi := ?oi222) (v := ?v222) ?hi222 (by kernel_rfl) (by kernel_rfl) (by kernel_rfl) ?hQ222 (Or.inl ⟨?hw222, ?hy222⟩) (by assumption) ?rest222
                  case hi222 => (simp only [gA, gB, gC]; rfl)
                  case hQ222 => exact fun _ _ _ h => h
                  case hw222 => rfl
                  case hy222 => (intro w hSw; (try dsimp only at hSw); go_simp; try with_reducible rfl)
                  (try simp only [Act.put, sA, sB, sC])
                  by_cases h8 : sp ≤ 1099511627776
                  · skip
                    refine wpAnyH_take (i := 58) (oi := ?oi223) (v := ?v223) ?hi223 (by kernel_rfl) (by kernel_rfl) (by kernel_rfl) ?hQ223 (Or.inl ⟨?hw223, ?hy223⟩) (by assumption) ?rest223
                    case hi223 => (simp only [gA, gB, gC]; rfl)
                    case hQ223 => exact fun _ _ _ h => h
                    case hw223 => rfl
                    case hy223 => (intro w hSw; (try dsimp only at hSw); go_simp; try with_reducible rfl)
                    (try simp only [Act.put, sA, sB, sC])
                    refine wpAnyH_take (i := 59) (oi := ?oi224) (v := ?v224) ?hi224 (by kernel_rfl) (by kernel_rfl) (by kernel_rfl) ?hQ224 (Or.inl ⟨?hw224, ?hy224⟩) (by assumption) ?rest224
                    case hi224 => (simp only [gA, gB, gC]; rfl)
                    case hQ224 => exact fun _ _ _ h => h
                    case hw224 => rfl
                    case hy224 => (intro w hSw; (try dsimp only at hSw); go_simp; try with_reducible rfl)
                    (try simp only [Act.put, sA, sB, sC])
                    refine wpAnyH_take (i := 60) (oi := ?oi225) (v := ?v225) ?hi225 (by kernel_rfl) (by kernel_rfl) (by kernel_rfl) ?hQ225 (Or.inl ⟨?hw225, ?hy225⟩) (by assumption) ?rest225
                    case hi225 => (simp only [gA, gB, gC]; rfl)
                    case hQ225 => exact fun _ _ _ h => h
                    case hw225 => rfl
                    case hy225 => (intro w hSw; (try dsimp only at hSw); go_simp; try with_reducible rfl)
                    (try simp only [Act.put, sA, sB, sC])
                    refine wpAnyH_done (by kernel_rfl) ?_ _
                    go_wp2
                    go_ret
                    exact ⟨ret_bool (by first | (simp [*]; done) | (simp [*]; omega)), bel2 HB0.out (by first | exact HBr2.out | exact HBr1.out | exact HBr0.out)⟩
                  · skip
                    refine wpAnyH_take (i := 58) (oi := ?oi226) (v := ?v226) ?hi226 (by kernel_rfl) (by kernel_rfl) (by kernel_rfl) ?hQ226 (Or.inl ⟨?hw226, ?hy226⟩) (by assumption) ?rest226
                    case hi226 => (simp only [gA, gB, gC]; rfl)
                    case hQ226 => exact fun _ _ _ h => h
                    case hw226 => rfl
                    case hy226 => (intro w hSw; (try dsimp only at hSw); go_simp; try with_reducible rfl)
                    (try simp only [Act.put, sA, sB, sC])
                    refine wpAnyH_take (i := 59) (oi := ?oi227) (v := ?v227) ?hi227 (by kernel_rfl) (by kernel_rfl) (by kernel_rfl) ?hQ227 (Or.inl ⟨?hw227, ?hy227⟩) (by assumption) ?rest227
                    case hi227 => (simp only [gA, gB, gC]; rfl)
                    case hQ227 => exact fun _ _ _ h => h
                    case hw227 => rfl
                    case hy227 => (intro w hSw; (try dsimp only at hSw); go_simp; try with_reducible rfl)
                    (try simp only [Act.put, sA, sB, sC])
                    refine wpAnyH_take (i := 60) (oi := ?oi228) (v := ?v228) ?hi228 (by kernel_rfl) (by kernel_rfl) (by kernel_rfl) ?hQ228 (Or.inl ⟨?hw228, ?hy228⟩) (by assumption) ?rest228
                    case hi228 => (simp only [gA, gB, gC]; rfl)
                    case hQ228 => exact fun _ _ _ h => h
                    case hw228 => rfl
                    case hy228 => (intro w hSw; (try dsimp only at hSw); go_simp; try with_reducible rfl)
                    (try simp only [Act.put, sA, sB, sC])
                    refine wpAnyH_done (by kernel_rfl) ?_ _
                    go_wp2
                    go_ret
                    exact ⟨ret_bool (by first | (simp [*]; done) | (simp [*]; omega)), bel2 HB0.out (by first | exact HBr2.out | exact HBr1.out | exact HBr0.out)⟩
                · skip
                  refine wpAnyH_take (i := 53) (oi := ?oi229) (v := ?v229) ?hi229 (by kernel_rfl) (by kernel_rfl) (by kernel_rfl) ?hQ229 (Or.inl ⟨?hw229, ?hy229⟩) (by assumption) ?rest229
                  case hi229 => (simp only [gA, gB, gC]; rfl)
                  case hQ229 => exact fun _ _ _ h => h
                  case hw229 => rfl
                  case hy229 => (intro w hSw; (try dsimp only at hSw); go_simp; try with_reducible rfl)
                  (try simp only [Act.put, sA, sB, sC])
                  refine wpAnyH_take (i := 54) (oi := ?oi230) (v := ?v230) ?hi230 (by kernel_rfl) (by kernel_rfl) (by kernel_rfl) ?hQ230 (Or.inl ⟨?hw230, ?hy230⟩) (by assumption) ?rest230
                  case hi230 => (simp only [gA, gB, gC]; rfl)
                  case hQ230 => exact fun _ _ _ h => h
                  case hw230 => rfl
                  case hy230 => (intro w hSw; (try dsimp only at hSw); go_simp; try with_reducible rfl)
                  (try simp only [Act.put, sA, sB, sC])
                  refine wpAnyH_take (i := 55) (oi := ?oi231) (v := ?v231) ?hi231 (by kernel_rfl) (by kernel_rfl) (by kernel_rfl) ?hQ231 (Or.inl ⟨?hw231, ?hy231⟩) (by assumption) ?rest231
                  case hi231 => (simp only [gA, gB, gC]; rfl)
                  case hQ231 => exact fun _ _ _ h => h
                  case hw231 => rfl
                  case hy231 => (intro w hSw; (try dsimp only at hSw); go_simp; try with_reducible rfl)
                  (try simp only [Act.put, sA, sB, sC])
                  refine wpAnyH_take (i := 56) (oi := ?oi232) (v := undef) ?hi232 (by kernel_rfl) (by kernel_rfl) (by kernel_rfl) ?hQ232 (Or.inr ⟨?hw232, rfl⟩) (by assumption) ?rest232
                  case hi232 => (simp only [gA, gB, gC]; rfl)
                  case hQ232 => exact fun _ _ _ h => h
                  case hw232 => rfl
                  (try simp only [Act.put, sA, sB, sC])
                  refine wpAnyH_take (i := 57) (oi := ?oi233) (v := undef) ?hi233 (by kernel_rfl) (by kernel_rfl) (by kernel_rfl) ?hQ233 (Or.inr ⟨?hw233, rfl⟩) (by assumption) ?rest233
                  case hi233 => (simp only [gA, gB, gC]; rfl)
                  case hQ233 => exact fun _ _ _ h => h
                  case hw233 => rfl
                  (try simp only [Act.put, sA, sB, sC])
                  refine wpAnyH_take (i := 58) (oi := ?oi234) (v := undef) ?hi234 (by kernel_rfl) (by kernel_rfl) (by kernel_rfl) ?hQ234 (Or.inr ⟨?hw234, rfl⟩) (by assumption) ?rest234
                  case hi234 => (simp only [gA, gB, gC]; rfl)
                  case hQ234 => exact fun _ _ _ h => h
                  case hw234 => rfl
                  (try simp only [Act.put, sA, sB, sC])
                  refine wpAnyH_take (i := 59) (oi := ?oi235) (v := ?v235) ?hi235 (by kernel_rfl) (by kernel_rfl) (by kernel_rfl) ?hQ235 (Or.inl ⟨?hw235, ?hy235⟩) (by assumption) ?rest235
                  case hi235 => (simp only [gA, gB, gC]; rfl)
                  case hQ235 => exact fun _ _ _ h => h
                  case hw235 => rfl
                  case hy235 => (intro w hSw; (try dsimp only at hSw); go_simp; try with_reducible rfl)
                  (try simp only [Act.put, sA, sB, sC])
                  refine wpAnyH_take (i := 60) (oi := ?oi236) (v := ?v236) ?hi236 (by kernel_rfl) (by kernel_rfl) (by kernel_rfl) ?hQ236 (Or.inl ⟨?hw236, ?hy236⟩) (by assumption) ?rest236
                  case hi236 => (simp only [gA, gB, gC]; rfl)
                  case hQ236 => exact fun _ _ _ h => h
                  case hw236 => rfl
                  case hy236 => (intro w hSw; (try dsimp only at hSw); go_simp; try with_reducible rfl)
                  (try simp only [Act.put, sA, sB, sC])
                  refine wpAnyH_done (by kernel_rfl) ?_ _
                  go_wp2
                  go_ret
                  exact ⟨ret_bool (by first | (simp [*]; done) | (simp [*]; omega)), bel2 HB0.out (by first | exact HBr2.out | exact HBr1.out | exact HBr0.out)⟩
              · skip
                refine wpAnyH_take (i := 43) (oi := ?oi237) (v := ?v237) ?hi237 (by kernel_rfl) (by kernel_rfl) (by kernel_rfl) ?hQ237 (Or.inl ⟨?hw237, ?hy237⟩) (by assumption) ?rest237
                case hi237 => (simp only [gA, gB, gC]; rfl)
                case hQ237 => exact fun _ _ _ h => h
                case hw237 => rfl
                case hy237 => (intro w hSw; (try dsimp only at hSw); go_simp; try with_reducible rfl)
                (try simp only [Act.put, sA, sB, sC])
                refine wpAnyH_take (i := 44) (oi := ?oi238) (v := ?v238) ?hi238 (by kernel_rfl) (by kernel_rfl) (by kernel_rfl) ?hQ238 (Or.inl ⟨?hw238, ?hy238⟩) (by assumption) ?rest238
                case hi238 => (simp only [gA, gB, gC]; rfl)
                case hQ238 => exact fun _ _ _ h => h
                case hw238 => rfl
                case hy238 => (intro w hSw; (try dsimp only at hSw); go_simp; try with_reducible rfl)
                (try simp only [Act.put, sA, sB, sC])
                refine wpAnyH_take (i := 45) (oi := ?oi239) (v := ?v239) ?hi239 (by kernel_rfl) (by kernel_rfl) (by kernel_rfl) ?hQ239 (Or.inl ⟨?hw239, ?hy239⟩) (by assumption) ?rest239
                case hi239 => (simp only [gA, gB, gC]; rfl)
                case hQ239 => exact fun _ _ _ h => h
                case hw239 => rfl
                case hy239 => (intro w hSw; (try dsimp only at hSw); go_simp; try with_reducible rfl)
                (try simp only [Act.put, sA, sB, sC])
                cases sh
                · skip
                  refine wpAnyH_take (i := 46) (oi := ?oi240) (v := ?v240) ?hi240 (by kernel_rfl) (by kernel_rfl) (by kernel_rfl) ?hQ240 (Or.inl ⟨?hw240, ?hy240⟩) (by assumption) ?rest240
                  case hi240 => (simp only [gA, gB, gC]; rfl)
                  case hQ240 => exact fun _ _ _ h => h
                  case hw240 => rfl
                  case hy240 => (intro w hSw; (try dsimp only at hSw); go_simp; try with_reducible rfl)
                  (try simp only [Act.put, sA, sB, sC])
                  refine wpAnyH_take (i := 47) (oi := ?oi241) (v := ?v241) ?hi241 (by kernel_rfl) (by kernel_rfl) (by kernel_rfl) ?hQ241 (Or.inl ⟨?hw241, ?hy241⟩) (by assumption) ?rest241
                  case hi241 => (simp only [gA, gB, gC]; rfl)
                  case hQ241 => exact fun _ _ _ h => h
                  case hw241 => rfl
                  case hy241 => (intro w hSw; (try dsimp only at hSw); go_simp; try with_reducible rfl)
                  (try simp only [Act.put, sA, sB, sC])
                  refine wpAnyH_take (i := 48) (oi := ?oi242) (v := ?v242) ?hi242 (by kernel_rfl) (by kernel_rfl) (by kernel_rfl) ?hQ242 (Or.inl ⟨?hw242, ?hy242⟩) (by assumption) ?rest242
                  case hi242 => (simp only [gA, gB, gC]; rfl)
                  case hQ242 => exact fun _ _ _ h => h
                  case hw242 => rfl
                  case hy242 => (intro w hSw; (try dsimp only at hSw); go_simp; try with_reducible rfl)
                  (try simp only [Act.put, sA, sB, sC])
                  refine wpAnyH_take (i := 49) (oi := ?oi243) (v := ?v243) ?hi243 (by kernel_rfl) (by kernel_rfl) (by kernel_rfl) ?hQ243 (Or.inl ⟨?hw243, ?hy243⟩) (by assumption) ?rest243
                  case hi243 => (simp only [gA, gB, gC]; rfl)
                  case hQ243 => exact fun _ _ _ h => h
                  case hw243 => rfl
                  case hy243 => (intro w hSw; (try dsimp only at hSw); go_simp; try with_reducible rfl)
                  (try simp only [Act.put, sA, sB, sC])
                  refine wpAnyH_take (i := 50) (oi := ?oi244) (v := ?v244) ?hi244 (by kernel_rfl) (by kernel_rfl) (by kernel_rfl) ?hQ244 (Or.inl ⟨?hw244, ?hy244⟩) (by assumption) ?rest244
                  case hi244 => (simp only [gA, gB, gC]; rfl)
                  case hQ244 => exact fun _ _ _ h => h
                  case hw244 => rfl
                  case hy244 => (intro w hSw; (try dsimp only at hSw); go_simp; try with_reducible rfl)
                  (try simp only [Act.put, sA, sB, sC])
                  refine wpAnyH_take (i := 51) (oi := ?oi245) (v := ?v245) ?hi245 (by kernel_rfl) (by kernel_rfl) (by kernel_rfl) ?hQ245 (Or.inl ⟨?hw245, ?hy245⟩) (by assumption) ?rest245
                  case hi245 => (simp only [gA, gB, gC]; rfl)
                  case hQ245 => exact fun _ _ _ h => h
                  case hw245 => rfl
                  case hy245 => (intro w hSw; (try dsimp only at hSw); go_simp; try with_reducible rfl)
                  (try simp only [Act.put, sA, sB, sC])
                  refine wpAnyH_take (i := 52) (oi := ?oi246) (v := ?v246) ?hi246 (by kernel_rfl) (by kernel_rfl) (by kernel_rfl) ?hQ246 (Or.inl ⟨?hw246, ?hy246⟩) (by assumption) ?rest246
                  case hi246 => (simp only [gA, gB, gC]; rfl)
                  case hQ246 => exact fun _ _ _ h => h
                  case hw246 => rfl
                  case hy246 => (intro w hSw; (try dsimp only at hSw); go_simp; try with_reducible rfl)
                  (try simp only [Act.put, sA, sB, sC])
                  by_cases h7 : (0 : Int) ≤ sp
                  · skip
                    refine wpAnyH_take (i := 53) (oi := ?oi247) (v := ?v247) ?hi247 (by kernel_rfl) (by kernel_rfl) (by kernel_rfl) ?hQ247 (Or.inl ⟨?hw247, ?hy247⟩) (by assumption) ?rest247
                    case hi247 => (simp only [gA, gB, gC]; rfl)
                    case hQ247 => exact fun _ _ _ h => h
                    case hw247 => rfl
                    case hy247 => (intro w hSw; (try dsimp only at hSw); go_simp; try with_reducible rfl)
                    (try simp only [Act.put, sA, sB, sC])
                    refine wpAnyH_take (i := 54) (oi := ?oi248) (v := ?v248) ?hi248 (by kernel_rfl) (by kernel_rfl) (by kernel_rfl) ?hQ248 (Or.inl ⟨?hw248, ?hy248⟩) (by assumption) ?rest248
                    case hi248 => (simp only [gA, gB, gC]; rfl)
                    case hQ248 => exact fun _ _ _ h => h
                    case hw248 => rfl
                    case hy248 => (intro w hSw; (try dsimp only at hSw); go_simp; try with_reducible rfl)
                    (try simp only [Act.put, sA, sB, sC])
                    refine wpAnyH_take (i := 55) (oi := ?oi249) (v := ?v249) ?hi249 (by kernel_rfl) (by kernel_rfl) (by kernel_rfl) ?hQ249 (Or.inl ⟨?hw249, ?hy249⟩) (by assumption) ?rest249
                    case hi249 => (simp only [gA, gB, gC]; rfl)
                    case hQ249 => exact fun _ _ _ h => h
                    case hw249 => rfl
                    case hy249 => (intro w hSw; (try dsimp only at hSw); go_simp; try with_reducible rfl)
                    (try simp only [Act.put, sA, sB, sC])
                    refine wpAnyH_take (i := 56) (oi := ?oi250) (v := ?v250) ?hi250 (by kernel_rfl) (by kernel_rfl) (by kernel_rfl) ?hQ250 (Or.inl ⟨?hw250, ?hy250⟩) (by assumption) ?rest250
                    case hi250 => (simp only [gA, gB, gC]; rfl)
                    case hQ250 => exact fun _ _ _ h => h
                    case hw250 => rfl
                    case hy250 => (intro w hSw; (try dsimp only at hSw); go_simp; try with_reducible rfl)
                    (try simp only [Act.put, sA, sB, sC])
                    refine wpAnyH_take (i := 57) (oi := ?oi251) (v := ?v251) ?hi251 (by kernel_rfl) (by kernel_rfl) (by kernel_rfl) ?hQ251 (Or.inl ⟨?hw251, ?hy251⟩) (by assumption) ?rest251
                    case hi251 => (simp only [gA, gB, gC]; rfl)
                    case hQ251 => exact fun _ _ _ h => h
                    case hw251 => rfl
                    case hy251 => (intro w hSw; (try dsimp only at hSw); go_simp; try with_reducible rfl)
                    (try simp only [Act.put, sA, sB, sC])
                    by_cases h8 : sp ≤ 1099511627776
                    · skip
                      refine wpAnyH_take (i := 58) (oi := ?oi252) (v := ?v252) ?hi252 (by kernel_rfl) (by kernel_rfl) (by kernel_rfl) ?hQ252 (Or.inl ⟨?hw252, ?hy252⟩) (by assumption) ?rest252
                      case hi252 => (simp only [gA, gB, gC]; rfl)
                      case hQ252 => exact fun _ _ _ h => h
                      case hw252 => rfl
                      case hy252 => (intro w hSw; (try dsimp only at hSw); go_simp; try with_reducible rfl)
                      (try simp only [Act.put, sA, sB, sC])
                      refine wpAnyH_take (i := 59) (oi := ?oi253) (v := ?v253) ?hi253 (by kernel_rfl) (by kernel_rfl) (by kernel_rfl) ?hQ253 (Or.inl ⟨?hw253, ?hy253⟩) (by assumption) ?rest253
                      case hi253 => (simp only [gA, gB, gC]; rfl)
                      case hQ253 => exact fun _ _ _ h => h
                      case hw253 => rfl
                      case hy253 => (intro w hSw; (try dsimp only at hSw); go_simp; try with_reducible rfl)
                      (try simp only [Act.put, sA, sB, sC])
                      refine wpAnyH_take (i := 60) (oi := ?oi254) (v := ?v254) ?hi254 (by kernel_rfl) (by kernel_rfl) (by kernel_rfl) ?hQ254 (Or.inl ⟨?hw254, ?hy254⟩) (by assumption) ?rest254
                      case hi254 => (simp only [gA, gB, gC]; rfl)
                      case hQ254 => exact fun _ _ _ h => h
                      case hw254 => rfl
                      case hy254 => (intro w hSw; (try dsimp only at hSw); go_simp; try with_reducible rfl)
                      (try simp only [Act.put, sA, sB, sC])
                      refine wpAnyH_done (by kernel_rfl) ?_ _
                      go_wp2
                      go_ret
                      exact ⟨ret_bool (by first | (simp [*]; done) | (simp [*]; omega)), bel2 HB0.out (by first | exact HBr2.out | exact HBr1.out | exact HBr0.out)⟩
                    · skip
                      refine wpAnyH_take (i := 58) (oi := ?oi255) (v := ?v255) ?hi255 (by kernel_rfl) (by kernel_rfl) (by kernel_rfl) ?hQ255 (Or.inl ⟨?hw255, ?hy255⟩) (by assumption) ?rest255
                      case hi255 => (simp only [gA, gB, gC]; rfl)
                      case hQ255 => exact fun _ _ _ h => h
                      case hw255 => rfl
                      case hy255 => (intro w hSw; (try dsimp only at hSw); go_simp; try with_reducible rfl)
                      (try simp only [Act.put, sA, sB, sC])
                      refine wpAnyH_take (i := 59) (oi := ?oi256) (v := ?v256) ?hi256 (by kernel_rfl) (by kernel_rfl) (by kernel_rfl) ?hQ256 (Or.inl ⟨?hw256, ?hy256⟩) (by assumption) ?rest256
                      case hi256 => (simp only [gA, gB, gC]; rfl)
                      case hQ256 => exact fun _ _ _ h => h
                      case hw256 => rfl
                      case hy256 => (intro w hSw; (try dsimp only at hSw); go_simp; try with_reducible rfl)
                      (try simp only [Act.put, sA, sB, sC])
                      refine wpAnyH_take (i := 60) (oi := ?oi257) (v := ?v257) ?hi257 (by kernel_rfl) (by kernel_rfl) (by kernel_rfl) ?hQ257 (Or.inl ⟨?hw257, ?hy257⟩) (by assumption) ?rest257
                      case hi257 => (simp only [gA, gB, gC]; rfl)
                      case hQ257 => exact fun _ _ _ h => h
                      case hw257 => rfl
                      case hy257 => (intro w hSw; (try dsimp only at hSw); go_simp; try with_reducible rfl)
                      (try simp only [Act.put, sA, sB, sC])
                      refine wpAnyH_done (by kernel_rfl) ?_ _
                      go_wp2
                      go_ret
                      exact ⟨ret_bool (by first | (simp [*]; done) | (simp [*]; omega)), bel2 HB0.out (by first | exact HBr2.out | exact HBr1.out | exact HBr0.out)⟩
                  · skip
                    refine wpAnyH_take (i := 53) (oi := ?oi258) (v := ?v258) ?hi258 (by kernel_rfl) (by kernel_rfl) (by kernel_rfl) ?hQ258 (Or.inl ⟨?hw258, ?hy258⟩) (by assumption) ?rest258
                    case hi258 => (simp only [gA, gB, gC]; rfl)
                    case hQ258 => exact fun _ _ _ h => h
                    case hw258 => rfl
                    case hy258 => (intro w hSw; (try dsimp only at hSw); go_simp; try with_reducible rfl)
                    (try simp only [Act.put, sA, sB, sC])
                    refine wpAnyH_take (i := 54) (oi := ?oi259) (v := ?v259) ?hi259 (by kernel_rfl) (by kernel_rfl) (by kernel_rfl) ?hQ259 (Or.inl ⟨?hw259, ?hy259⟩) (by assumption) ?rest259
                    case hi259 => (simp only [gA, gB, gC]; rfl)
                    case hQ259 => exact fun _ _ _ h => h
                    case hw259 => rfl
                    case hy259 => (intro w hSw; (try dsimp only at hSw); go_simp; try with_reducible rfl)
                    (try simp only [Act.put, sA, sB, sC])
                    refine wpAnyH_take (i := 55) (oi := ?oi260) (v := ?v260) ?hi260 (by kernel_rfl) (by kernel_rfl) (by kernel_rfl) ?hQ260 (Or.inl ⟨?hw260, ?hy260⟩) (by assumption) ?rest260
                    case hi260 => (simp only [gA, gB, gC]; rfl)
                    case hQ260 => exact fun _ _ _ h => h
                    case hw260 => rfl
                    case hy260 => (intro w hSw; (try dsimp only at hSw); go_simp; try with_reducible rfl)
                    (try simp only [Act.put, sA, sB, sC])
                    refine wpAnyH_take (i := 56) (oi := ?oi261) (v := undef) ?hi261 (by kernel_rfl) (by kernel_rfl) (by kernel_rfl) ?hQ261 (Or.inr ⟨?hw261, rfl⟩) (by assumption) ?rest261
                    case hi261 => (simp only [gA, gB, gC]; rfl)
                    case hQ261 => exact fun _ _ _ h => h
                    case hw261 => rfl
                    (try simp only [Act.put, sA, sB, sC])
                    refine wpAnyH_take (i := 57) (oi := ?oi262) (v := undef) ?hi262 (by kernel_rfl) (by kernel_rfl) (by kernel_rfl) ?hQ262 (Or.inr ⟨?hw262, rfl⟩) (by assumption) ?rest262
                    case hi262 => (simp only [gA, gB, gC]; rfl)
                    case hQ262 => exact fun _ _ _ h => h
                    case hw262 => rfl
                    (try simp only [Act.put, sA, sB, sC])
                    refine wpAnyH_take (i := 58) (oi := ?oi263) (v := undef) ?hi263 (by kernel_rfl) (by kernel_rfl) (by kernel_rfl) ?hQ263 (Or.inr ⟨?hw263, rfl⟩) (by assumption) ?rest263
                    case hi263 => (simp only [gA, gB, gC]; rfl)
                    case hQ263 => exact fun _ _ _ h => h
                    case hw263 => rfl
                    (try simp only [Act.put, sA, sB, sC])
                    refine wpAnyH_take (i := 59) (oi := ?oi264) (v := ?v264) ?hi264 (by kernel_rfl) (by kernel_rfl) (by kernel_rfl) ?hQ264 (Or.inl ⟨?hw264, ?hy264⟩) (by assumption) ?rest264
                    case hi264 => (simp only [gA, gB, gC]; rfl)
                    case hQ264 => exact fun _ _ _ h => h
                    case hw264 => rfl
                    case hy264 => (intro w hSw; (try dsimp only at hSw); go_simp; try with_reducible rfl)
                    (try simp only [Act.put, sA, sB, sC])
                    refine wpAnyH_take (i := 60) (oi := ?oi265) (v := ?v265) ?hi265 (by kernel_rfl) (by kernel_rfl) (by kernel_rfl) ?hQ265 (Or.inl ⟨?hw265, ?hy265⟩) (by assumption) ?rest265
                    case hi265 => (simp only [gA, gB, gC]; rfl)
                    case hQ265 => exact fun _ _ _ h => h
                    case hw265 => rfl
                    case hy265 => (intro w hSw; (try dsimp only at hSw); go_simp; try with_reducible rfl)
                    (try simp only [Act.put, sA, sB, sC])
                    refine wpAnyH_done (by kernel_rfl) ?_ _
                    go_wp2
                    go_ret
                    exact ⟨ret_bool (by first | (simp [*]; done) | (simp [*]; omega)), bel2 HB0.out (by first | exact HBr2.out | exact HBr1.out | exact HBr0.out)⟩
                · skip
                  refine wpAnyH_take (i := 46) (oi := ?oi266) (v := ?v266) ?hi266 (by kernel_rfl) (by kernel_rfl) (by kernel_rfl) ?hQ266 (Or.inl ⟨?hw266, ?hy266⟩) (by assumption) ?rest266
                  case hi266 => (simp only [gA, gB, gC]; rfl)
                  case hQ266 => exact fun _ _ _ h => h
                  case hw266 => rfl
                  case hy266 => (intro w hSw; (try dsimp only at hSw); go_simp; try with_reducible rfl)
                  (try simp only [Act.put, sA, sB, sC])
                  refine wpAnyH_take (i := 47) (oi := ?oi267) (v := ?v267) ?hi267 (by kernel_rfl) (by kernel_rfl) (by kernel_rfl) ?hQ267 (Or.inl ⟨?hw267, ?hy267⟩) (by assumption) ?rest267
                  case hi267 => (simp only [gA, gB, gC]; rfl)
                  case hQ267 => exact fun _ _ _ h => h
                  case hw267 => rfl
                  case hy267 => (intro w hSw; (try dsimp only at hSw); go_simp; try with_reducible rfl)
                  (try simp only [Act.put, sA, sB, sC])
                  refine wpAnyH_take (i := 48) (oi := ?oi268) (v := ?v268) ?hi268 (by kernel_rfl) (by kernel_rfl) (by kernel_rfl) ?hQ268 (Or.inl ⟨?hw268, ?hy268⟩) (by assumption) ?rest268
                  case hi268 => (simp only [gA, gB, gC]; rfl)
                  case hQ268 => exact fun _ _ _ h => h
                  case hw268 => rfl
                  case hy268 => (intro w hSw; (try dsimp only at hSw); go_simp; try with_reducible rfl)
                  (try simp only [Act.put, sA, sB, sC])
                  refine wpAnyH_take (i := 49) (oi := ?oi269) (v := ?v269) ?hi269 (by kernel_rfl) (by kernel_rfl) (by kernel_rfl) ?hQ269 (Or.inl ⟨?hw269, ?hy269⟩) (by assumption) ?rest269
                  case hi269 => (simp only [gA, gB, gC]; rfl)
                  case hQ269 => exact fun _ _ _ h => h
                  case hw269 => rfl
                  case hy269 => (intro w hSw; (try dsimp only at hSw); go_simp; try with_reducible rfl)
                  (try simp only [Act.put, sA, sB, sC])
                  refine wpAnyH_take (i := 50) (oi := ?oi270) (v := ?v270) ?hi270 (by kernel_rfl) (by kernel_rfl) (by kernel_rfl) ?hQ270 (Or.inl ⟨?hw270, ?hy270⟩) (by assumption) ?rest270
                  case hi270 => (simp only [gA, gB, gC]; rfl)
                  case hQ270 => exact fun _ _ _ h => h
                  case hw270 => rfl
                  case hy270 => (intro w hSw; (try dsimp only at hSw); go_simp; try with_reducible rfl)
                  (try simp only [Act.put, sA, sB, sC])
                  refine wpAnyH_take (i := 51) (oi := ?oi271) (v := undef) ?hi271 (by kernel_rfl) (by kernel_rfl) (by kernel_rfl) ?hQ271 (Or.inr ⟨?hw271, rfl⟩) (by assumption) ?rest271
                  case hi271 => (simp only [gA, gB, gC]; rfl)
                  case hQ271 => exact fun _ _ _ h => h
                  case hw271 => rfl
                  (try simp only [Act.put, sA, sB, sC])
                  refine wpAnyH_take (i := 52) (oi := ?oi272) (v := undef) ?hi272 (by kernel_rfl) (by kernel_rfl) (by kernel_rfl) ?hQ272 (Or.inr ⟨?hw272, rfl⟩) (by assumption) ?rest272
                  case hi272 => (simp only [gA, gB, gC]; rfl)
                  case hQ272 => exact fun _ _ _ h => h
                  case hw272 => rfl
                  (try simp only [Act.put, sA, sB, sC])
                  refine wpAnyH_take (i := 53) (oi := ?oi273) (v := undef) ?hi273 (by kernel_rfl) (by kernel_rfl) (by kernel_rfl) ?hQ273 (Or.inr ⟨?hw273, rfl⟩) (by assumption) ?rest273
                  case hi273 => (simp only [gA, gB, gC]; rfl)
                  case hQ273 => exact fun _ _ _ h => h
                  case hw273 => rfl
                  (try simp only [Act.put, sA, sB, sC])
                  refine wpAnyH_take (i := 54) (oi := ?oi274) (v := ?v274) ?hi274 (by kernel_rfl) (by kernel_rfl) (by kernel_rfl) ?hQ274 (Or.inl ⟨?hw274, ?hy274⟩) (by assumption) ?rest274
                  case hi274 => (simp only [gA, gB, gC]; rfl)
                  case hQ274 => exact fun _ _ _ h => h
                  case hw274 => rfl
                  case hy274 => (intro w hSw; (try dsimp only at hSw); go_simp; try with_reducible rfl)
                  (try simp only [Act.put, sA, sB, sC])
                  refine wpAnyH_take (i := 55) (oi := ?oi275) (v := ?v275) ?hi275 (by kernel_rfl) (by kernel_rfl) (by kernel_rfl) ?hQ275 (Or.inl ⟨?hw275, ?hy275⟩) (by assumption) ?rest275
                  case hi275 => (simp only [gA, gB, gC]; rfl)
                  case hQ275 => exact fun _ _ _ h => h
                  case hw275 => rfl
                  case hy275 => (intro w hSw; (try dsimp only at hSw); go_simp; try with_reducible rfl)
                  (try simp only [Act.put, sA, sB, sC])
                  refine wpAnyH_take (i := 56) (oi := ?oi276) (v := undef) ?hi276 (by kernel_rfl) (by kernel_rfl) (by kernel_rfl) ?hQ276 (Or.inr ⟨?hw276, rfl⟩) (by assumption) ?rest276
                  case hi276 => (simp only [gA, gB, gC]; rfl)
                  case hQ276 => exact fun _ _ _ h => h
                  case hw276 => rfl
                  (try simp only [Act.put, sA, sB, sC])
                  refine wpAnyH_take (i := 57) (oi := ?oi277) (v := undef) ?hi277 (by kernel_rfl) (by kernel_rfl) (by kernel_rfl) ?hQ277 (Or.inr ⟨?hw277, rfl⟩) (by assumption) ?rest277
                  case hi277 => (simp only [gA, gB, gC]; rfl)
                  case hQ277 => exact fun _ _ _ h => h
                  case hw277 => rfl
                  (try simp only [Act.put, sA, sB, sC])
                  refine wpAnyH_take (i := 58) (oi := ?oi278) (v := undef) ?hi278 (by kernel_rfl) (by kernel_rfl) (by kernel_rfl) ?hQ278 (Or.inr ⟨?hw278, rfl⟩) (by assumption) ?rest278
                  case hi278 => (simp only [gA, gB, gC]; rfl)
                  case hQ278 => exact fun _ _ _ h => h
                  case hw278 => rfl
                  (try simp only [Act.put, sA, sB, sC])
                  refine wpAnyH_take (i := 59) (oi := ?oi279) (v := ?v279) ?hi279 (by kernel_rfl) (by kernel_rfl) (by kernel_rfl) ?hQ279 (Or.inl ⟨?hw279, ?hy279⟩) (by assumption) ?rest279
                  case hi279 => (simp only [gA, gB, gC]; rfl)
                  case hQ279 => exact fun _ _ _ h => h
                  case hw279 => rfl
                  case hy279 => (intro w hSw; (try dsimp only at hSw); go_simp; try with_reducible rfl)
                  (try simp only [Act.put, sA, sB, sC])
                  refine wpAnyH_take (i := 60) (oi := ?oi280) (v := ?v280) ?hi280 (by kernel_rfl) (by kernel_rfl) (by kernel_rfl) ?hQ280 (Or.inl ⟨?hw280, ?hy280⟩) (by assumption) ?rest280
                  case hi280 => (simp only [gA, gB, gC]; rfl)
                  case hQ280 => exact fun _ _ _ h => h
                  case hw280 => rfl
                  case hy280 => (intro w hSw; (try dsimp only at hSw); go_simp; try with_reducible rfl)
                  (try simp only [Act.put, sA, sB, sC])
                  refine wpAnyH_done (by kernel_rfl) ?_ _
                  go_wp2
                  go_ret
                  exact ⟨ret_bool (by first | (simp [*]; done) | (simp [*]; omega)), bel2 HB0.out (by first | exact HBr2.out | exact HBr1.out | exact HBr0.out)⟩
        · skip
          refine wpAnyH_take (i := 21) (oi := ?oi281) (v := ?v281) ?hi281 (by kernel_rfl) (by kernel_rfl) (by kernel_rfl) ?hQ281 (Or.inl ⟨?hw281, ?hy281⟩) (by assumption) ?rest281
          case hi281 => (simp only [gA, gB, gC]; rfl)
          case hQ281 => exact fun _ _ _ h => h
          case hw281 => rfl
          case hy281 => (intro w hSw; (try dsimp only at hSw); go_simp; try with_reducible rfl)
          (try simp only [Act.put, sA, sB, sC])
          refine wpAnyH_take (i := 22) (oi := ?oi282) (v := ?v282) ?hi282 (by kernel_rfl) (by kernel_rfl) (by kernel_rfl) ?hQ282 (Or.inl ⟨?hw282, ?hy282⟩) (by assumption) ?rest282
          case hi282 => (simp only [gA, gB, gC]; rfl)
          case hQ282 => exact fun _ _ _ h => h
          case hw282 => rfl
          case hy282 => (intro w hSw; (try dsimp only at hSw); go_simp; try with_reducible rfl)
          (try simp only [Act.put, sA, sB, sC])
          refine wpAnyH_take (i := 23) (oi := ?oi283) (v := ?v283) ?hi283 (by kernel_rfl) (by kernel_rfl) (by kernel_rfl) ?hQ283 (Or.inl ⟨?hw283, ?hy283⟩) (by assumption) ?rest283
          case hi283 => (simp only [gA, gB, gC]; rfl)
          case hQ283 => exact fun _ _ _ h => h
          case hw283 => rfl
          case hy283 => (intro w hSw; (try dsimp only at hSw); go_simp; try with_reducible rfl)
          (try simp only [Act.put, sA, sB, sC])
          refine wpAnyH_take (i := 24) (oi := ?oi284) (v := undef) ?hi284 (by kernel_rfl) (by kernel_rfl) (by kernel_rfl) ?hQ284 (Or.inr ⟨?hw284, rfl⟩) (by assumption) ?rest284
          case hi284 => (simp only [gA, gB, gC]; rfl)
          case hQ284 => exact fun _ _ _ h => h
          case hw284 => rfl
          (try simp only [Act.put, sA, sB, sC])
          refine wpAnyH_take (i := 25) (oi := ?oi285) (v := undef) ?hi285 (by kernel_rfl) (by kernel_rfl) (by kernel_rfl) ?hQ285 (Or.inr ⟨?hw285, rfl⟩) (by assumption) ?rest285
          case hi285 => (simp only [gA, gB, gC]; rfl)
          case hQ285 => exact fun _ _ _ h => h
          case hw285 => rfl
          (try simp only [Act.put, sA, sB, sC])
          refine wpAnyH_take (i := 26) (oi := ?oi286) (v := undef) ?hi286 (by kernel_rfl) (by kernel_rfl) (by kernel_rfl) ?hQ286 (Or.inr ⟨?hw286, rfl⟩) (by assumption) ?rest286
          case hi286 => (simp only [gA, gB, gC]; rfl)
          case hQ286 => exact fun _ _ _ h => h
          case hw286 => rfl
          (try simp only [Act.put, sA, sB, sC])
          refine wpAnyH_take (i := 27) (oi := ?oi287) (v := undef) ?hi287 (by kernel_rfl) (by kernel_rfl) (by kernel_rfl) ?hQ287 (Or.inr ⟨?hw287, rfl⟩) (by assumption) ?rest287
          case hi287 => (simp only [gA, gB, gC]; rfl)
          case hQ287 => exact fun _ _ _ h => h
          case hw287 => rfl
          (try simp only [Act.put, sA, sB, sC])
          refine wpAnyH_take (i := 28) (oi := ?oi288) (v := undef) ?hi288 (by kernel_rfl) (by kernel_rfl) (by kernel_rfl) ?hQ288 (Or.inr ⟨?hw288, rfl⟩) (by assumption) ?rest288
          case hi288 => (simp only [gA, gB, gC]; rfl)
          case hQ288 => exact fun _ _ _ h => h
          case hw288 => rfl
          (try simp only [Act.put, sA, sB, sC])
          refine wpAnyH_take (i := 29) (oi := ?oi289) (v := ?v289) ?hi289 (by kernel_rfl) (by kernel_rfl) (by kernel_rfl) ?hQ289 (Or.inl ⟨?hw289, ?hy289⟩) (by assumption) ?rest289
          case hi289 => (simp only [gA, gB, gC]; rfl)
          case hQ289 => exact fun _ _ _ h => h
          case hw289 => rfl
          case hy289 => (intro w hSw; (try dsimp only at hSw); go_simp; try with_reducible rfl)
          (try simp only [Act.put, sA, sB, sC])
          refine wpAnyH_take (i := 30) (oi := ?oi290) (v := ?v290) ?hi290 (by kernel_rfl) (by kernel_rfl) (by kernel_rfl) ?hQ290 (Or.inl ⟨?hw290, ?hy290⟩) (by assumption) ?rest290
          case hi290 => (simp only [gA, gB, gC]; rfl)
          case hQ290 => exact fun _ _ _ h => h
          case hw290 => rfl
          case hy290 => (intro w hSw; (try dsimp only at hSw); go_simp; try with_reducible rfl)
          (try simp only [Act.put, sA, sB, sC])
          refine wpAnyH_take (i := 31) (oi := ?oi291) (v := undef) ?hi291 (by kernel_rfl) (by kernel_rfl) (by kernel_rfl) ?hQ291 (Or.inr ⟨?hw291, rfl⟩) (by assumption) ?rest291
          case hi291 => (simp only [gA, gB, gC]; rfl)
          case hQ291 => exact fun _ _ _ h => h
          case hw291 => rfl
          (try simp only [Act.put, sA, sB, sC])
          refine wpAnyH_take (i := 32) (oi := ?oi292) (v := undef) ?hi292 (by kernel_rfl) (by kernel_rfl) (by kernel_rfl) ?hQ292 (Or.inr ⟨?hw292, rfl⟩) (by assumption) ?rest292
          case hi292 => (simp only [gA, gB, gC]; rfl)
          case hQ292 => exact fun _ _ _ h => h
          case hw292 => rfl
          (try simp only [Act.put, sA, sB, sC])
          refine wpAnyH_take (i := 33) (oi := ?oi293) (v := undef) ?hi293 (by kernel_rfl) (by kernel_rfl) (by kernel_rfl) ?hQ293 (Or.inr ⟨?hw293, rfl⟩) (by assumption) ?rest293
          case hi293 => (simp only [gA, gB, gC]; rfl)
          case hQ293 => exact fun _ _ _ h => h
          case hw293 => rfl
          (try simp only [Act.put, sA, sB, sC])
          refine wpAnyH_take (i := 34) (oi := ?oi294) (v := undef) ?hi294 (by kernel_rfl) (by kernel_rfl) (by kernel_rfl) ?hQ294 (Or.inr ⟨?hw294, rfl⟩) (by assumption) ?rest294
          case hi294 => (simp only [gA, gB, gC]; rfl)
          case hQ294 => exact fun _ _ _ h => h
          case hw294 => rfl
          (try simp only [Act.put, sA, sB, sC])
          refine wpAnyH_take (i := 35) (oi := ?oi295) (v := undef) ?hi295 (by kernel_rfl) (by kernel_rfl) (by kernel_rfl) ?hQ295 (Or.inr ⟨?hw295, rfl⟩) (by assumption) ?rest295
          case hi295 => (simp only [gA, gB, gC]; rfl)
          case hQ295 => exact fun _ _ _ h => h
          case hw295 => rfl
          (try simp only [Act.put, sA, sB, sC])
          refine wpAnyH_take (i := 36) (oi := ?oi296) (v := undef) ?hi296 (by kernel_rfl) (by kernel_rfl) (by kernel_rfl) ?hQ296 (Or.inr ⟨?hw296, rfl⟩) (by assumption) ?rest296
          case hi296 => (simp only [gA, gB, gC]; rfl)
          case hQ296 => exact fun _ _ _ h => h
          case hw296 => rfl
          (try simp only [Act.put, sA, sB, sC])
          refine wpAnyH_take (i := 37) (oi := ?oi297) (v := undef) ?hi297 (by kernel_rfl) (by kernel_rfl) (by kernel_rfl) ?hQ297 (Or.inr ⟨?hw297, rfl⟩) (by assumption) ?rest297
          case hi297 => (simp only [gA, gB, gC]; rfl)
          case hQ297 => exact fun _ _ _ h => h
          case hw297 => rfl
          (try simp only [Act.put, sA, sB, sC])
          refine wpAnyH_take (i := 38) (oi := ?oi298) (v := undef) ?hi298 (by kernel_rfl) (by kernel_rfl) (by kernel_rfl) ?hQ298 (Or.inr ⟨?hw298, rfl⟩) (by assumption) ?rest298
          case hi298 => (simp only [gA, gB, gC]; rfl)
          case hQ298 => exact fun _ _ _ h => h
          case hw298 => rfl
          (try simp only [Act.put, sA, sB, sC])
          refine wpAnyH_take (i := 39) (oi := ?oi299) (v := undef) ?hi299 (by kernel_rfl) (by kernel_rfl) (by kernel_rfl) ?hQ299 (Or.inr ⟨?hw299, rfl⟩) (by assumption) ?rest299
          case hi299 => (simp only [gA, gB, gC]; rfl)
          case hQ299 => exact fun _ _ _ h => h
          case hw299 => rfl
          (try simp only [Act.put, sA, sB, sC])
          refine wpAnyH_take (i := 40) (oi := ?oi300) (v := ?v300) ?hi300 (by kernel_rfl) (by kernel_rfl) (by kernel_rfl) ?hQ300 (Or.inl ⟨?hw300, ?hy300⟩) (by assumption) ?rest300
          case hi300 => (simp only [gA, gB, gC]; rfl)
          case hQ300 => exact fun _ _ _ h => h
          case hw300 => rfl
          case hy300 => (intro w hSw; (try dsimp only at hSw); go_simp; try with_reducible rfl)
          (try simp only [Act.put, sA, sB, sC])
          refine wpAnyH_take (i := 41) (oi := ?oi301) (v := ?v301) ?hi301 (by kernel_rfl) (by kernel_rfl) (by kernel_rfl) ?hQ301 (Or.inl ⟨?hw301, ?hy301⟩) (by assumption) ?rest301
          case hi301 => (simp only [gA, gB, gC]; rfl)
          case hQ301 => exact fun _ _ _ h => h
          case hw301 => rfl
          case hy301 => (intro w hSw; (try dsimp only at hSw); go_simp; try with_reducible rfl)
          (try simp only [Act.put, sA, sB, sC])
          refine wpAnyH_take (i := 42) (oi := ?oi302) (v := undef) ?hi302 (by kernel_rfl) (by kernel_rfl) (by kernel_rfl) ?hQ302 (Or.inr ⟨?hw302, rfl⟩) (by assumption) ?rest302
          case hi302 => (simp only [gA, gB, gC]; rfl)
          case hQ302 => exact fun _ _ _ h => h
          case hw302 => rfl
          (try simp only [Act.put, sA, sB, sC])
          refine wpAnyH_take (i := 43) (oi := ?oi303) (v := undef) ?hi303 (by kernel_rfl) (by kernel_rfl) (by kernel_rfl) ?hQ303 (Or.inr ⟨?hw303, rfl⟩) (by assumption) ?rest303
          case hi303 => (simp only [gA, gB, gC]; rfl)
          case hQ303 => exact fun _ _ _ h => h
          case hw303 => rfl
          (try simp only [Act.put, sA, sB, sC])
          refine wpAnyH_take (i := 44) (oi := ?oi304) (v := undef) ?hi304 (by kernel_rfl) (by kernel_rfl) (by kernel_rfl) ?hQ304 (Or.inr ⟨?hw304, rfl⟩) (by assumption) ?rest304
          case hi304 => (simp only [gA, gB, gC]; rfl)
          case hQ304 => exact fun _ _ _ h => h
          case hw304 => rfl
          (try simp only [Act.put, sA, sB, sC])
          refine wpAnyH_take (i := 45) (oi := ?oi305) (v := undef) ?hi305 (by kernel_rfl) (by kernel_rfl) (by kernel_rfl) ?hQ305 (Or.inr ⟨?hw305, rfl⟩) (by assumption) ?rest305
          case hi305 => (simp only [gA, gB, gC]; rfl)
          case hQ305 => exact fun _ _ _ h => h
          case hw305 => rfl
          (try simp only [Act.put, sA, sB, sC])
          refine wpAnyH_take (i := 46) (oi := ?oi306) (v := undef) ?hi306 (by kernel_rfl) (by kernel_rfl) (by kernel_rfl) ?hQ306 (Or.inr ⟨?hw306, rfl⟩) (by assumption) ?rest306
          case hi306 => (simp only [gA, gB, gC]; rfl)
          case hQ306 => exact fun _ _ _ h => h
          case hw306 => rfl
          (try simp only [Act.put, sA, sB, sC])
          refine wpAnyH_take (i := 47) (oi := ?oi307) (v := undef) ?hi307 (by kernel_rfl) (by kernel_rfl) (by kernel_rfl) ?hQ307 (Or.inr ⟨?hw307, rfl⟩) (by assumption) ?rest307
          case hi307 => (simp only [gA, gB, gC]; rfl)
          case hQ307 => exact fun _ _ _ h => h
          case hw307 => rfl
          (try simp only [Act.put, sA, sB, sC])
          refine wpAnyH_take (i := 48) (oi := ?oi308) (v := undef) ?hi308 (by kernel_rfl) (by kernel_rfl) (by kernel_rfl) ?hQ308 (Or.inr ⟨?hw308, rfl⟩) (by assumption) ?rest308
          case hi308 => (simp only [gA, gB, gC]; rfl)
          case hQ308 => exact fun _ _ _ h => h
          case hw308 => rfl
          (try simp only [Act.put, sA, sB, sC])
          refine wpAnyH_take (i := 49) (oi := ?oi309) (v := ?v309) ?hi309 (by kernel_rfl) (by kernel_rfl) (by kernel_rfl) ?hQ309 (Or.inl ⟨?hw309, ?hy309⟩) (by assumption) ?rest309
          case hi309 => (simp only [gA, gB, gC]; rfl)
          case hQ309 => exact fun _ _ _ h => h
          case hw309 => rfl
          case hy309 => (intro w hSw; (try dsimp only at hSw); go_simp; try with_reducible rfl)
          (try simp only [Act.put, sA, sB, sC])
          refine wpAnyH_take (i := 50) (oi := ?oi310) (v := ?v310) ?hi310 (by kernel_rfl) (by kernel_rfl) (by kernel_rfl) ?hQ310 (Or.inl ⟨?hw310, ?hy310⟩) (by assumption) ?rest310
          case hi310 => (simp only [gA, gB, gC]; rfl)
          case hQ310 => exact fun _ _ _ h => h
          case hw310 => rfl
          case hy310 => (intro w hSw; (try dsimp only at hSw); go_simp; try with_reducible rfl)
          (try simp only [Act.put, sA, sB, sC])
          refine wpAnyH_take (i := 51) (oi := ?oi311) (v := undef) ?hi311 (by kernel_rfl) (by kernel_rfl) (by kernel_rfl) ?hQ311 (Or.inr ⟨?hw311, rfl⟩) (by assumption) ?rest311
          case hi311 => (simp only [gA, gB, gC]; rfl)
          case hQ311 => exact fun _ _ _ h => h
          case hw311 => rfl
          (try simp only [Act.put, sA, sB, sC])
          refine wpAnyH_take (i := 52) (oi := ?oi312) (v := undef) ?hi312 (by kernel_rfl) (by kernel_rfl) (by kernel_rfl) ?hQ312 (Or.inr ⟨?hw312, rfl⟩) (by assumption) ?rest312
          case hi312 => (simp only [gA, gB, gC]; rfl)
          case hQ312 => exact fun _ _ _ h => h
          case hw312 => rfl
          (try simp only [Act.put, sA, sB, sC])
          refine wpAnyH_take (i := 53) (oi := ?oi313) (v := undef) ?hi313 (by kernel_rfl) (by kernel_rfl) (by kernel_rfl) ?hQ313 (Or.inr ⟨?hw313, rfl⟩) (by assumption) ?rest313
          case hi313 => (simp only [gA, gB, gC]; rfl)
          case hQ313 => exact fun _ _ _ h => h
          case hw313 => rfl
          (try simp only [Act.put, sA, sB, sC])
          refine wpAnyH_take (i := 54) (oi := ?oi314) (v := ?v314) ?hi314 (by kernel_rfl) (by kernel_rfl) (by kernel_rfl) ?hQ314 (Or.inl ⟨?hw314, ?hy314⟩) (by assumption) ?rest314
          case hi314 => (simp only [gA, gB, gC]; rfl)
          case hQ314 => exact fun _ _ _ h => h
          case hw314 => rfl
          case hy314 => (intro w hSw; (try dsimp only at hSw); go_simp; try with_reducible rfl)
          (try simp only [Act.put, sA, sB, sC])
          refine wpAnyH_take (i := 55) (oi := ?oi315) (v := ?v315) ?hi315 (by kernel_rfl) (by kernel_rfl) (by kernel_rfl) ?hQ315 (Or.inl ⟨?hw315, ?hy315⟩) (by assumption) ?rest315
          case hi315 => (simp only [gA, gB, gC]; rfl)
          case hQ315 => exact fun _ _ _ h => h
          case hw315 => rfl
          case hy315 => (intro w hSw; (try dsimp only at hSw); go_simp; try with_reducible rfl)
          (try simp only [Act.put, sA, sB, sC])
          refine wpAnyH_take (i := 56) (oi := ?oi316) (v := undef) ?hi316 (by kernel_rfl) (by kernel_rfl) (by kernel_rfl) ?hQ316 (Or.inr ⟨?hw316, rfl⟩) (by assumption) ?rest316
          case hi316 => (simp only [gA, gB, gC]; rfl)
          case hQ316 => exact fun _ _ _ h => h
          case hw316 => rfl
          (try simp only [Act.put, sA, sB, sC])
          refine wpAnyH_take (i := 57) (oi := ?oi317) (v := undef) ?hi317 (by kernel_rfl) (by kernel_rfl) (by kernel_rfl) ?hQ317 (Or.inr ⟨?hw317, rfl⟩) (by assumption) ?rest317
          case hi317 => (simp only [gA, gB, gC]; rfl)
          case hQ317 => exact fun _ _ _ h => h
          case hw317 => rfl
          (try simp only [Act.put, sA, sB, sC])
          refine wpAnyH_take (i := 58) (oi := ?oi318) (v := undef) ?hi318 (by kernel_rfl) (by kernel_rfl) (by kernel_rfl) ?hQ318 (Or.inr ⟨?hw318, rfl⟩) (by assumption) ?rest318
          case hi318 => (simp only [gA, gB, gC]; rfl)
          case hQ318 => exact fun _ _ _ h => h
          case hw318 => rfl
          (try simp only [Act.put, sA, sB, sC])
          refine wpAnyH_take (i := 59) (oi := ?oi319) (v := ?v319) ?hi319 (by kernel_rfl) (by kernel_rfl) (by kernel_rfl) ?hQ319 (Or.inl ⟨?hw319, ?hy319⟩) (by assumption) ?rest319
          case hi319 => (simp only [gA, gB, gC]; rfl)
          case hQ319 => exact fun _ _ _ h => h
          case hw319 => rfl
          case hy319 => (intro w hSw; (try dsimp only at hSw); go_simp; try with_reducible rfl)
          (try simp only [Act.put, sA, sB, sC])
          refine wpAnyH_take (i := 60) (oi := ?oi320) (v := ?v320) ?hi320 (by kernel_rfl) (by kernel_rfl) (by kernel_rfl) ?hQ320 (Or.inl ⟨?hw320, ?hy320⟩) (by assumption) ?rest320
          case hi320 => (simp only [gA, gB, gC]; rfl)
          case hQ320 => exact fun _ _ _ h => h
          case hw320 => rfl
          case hy320 => (intro w hSw; (try dsimp only at hSw); go_simp; try with_reducible rfl)
          (try simp only [Act.put, sA, sB, sC])
          refine wpAnyH_done (by kernel_rfl) ?_ _
          go_wp2
          go_ret
          exact ⟨ret_bool (by first | (simp [*]; done) | (simp [*]; omega)), bel2 HB0.out (by first | exact HBr2.out | exact HBr1.out | exact HBr0.out)⟩
      · skip
        refine wpAnyH_take (i := 13) (oi := ?oi321) (v := ?v321) ?hi321 (by kernel_rfl) (by kernel_rfl) (by kernel_rfl) ?hQ321 (Or.inl ⟨?hw321, ?hy321⟩) (by assumption) ?rest321
        case hi321 => (simp only [gA, gB, gC]; rfl)
        case hQ321 => exact fun _ _ _ h => h
        case hw321 => rfl
        case hy321 => (intro w hSw; (try dsimp only at hSw); go_simp; try with_reducible rfl)
        (try simp only [Act.put, sA, sB, sC])
        refine wpAnyH_take (i := 14) (oi := ?oi322) (v := ?v322) ?hi322 (by kernel_rfl) (by kernel_rfl) (by kernel_rfl) ?hQ322 (Or.inl ⟨?hw322, ?hy322⟩) (by assumption) ?rest322
        case hi322 => (simp only [gA, gB, gC]; rfl)
        case hQ322 => exact fun _ _ _ h => h
        case hw322 => rfl
        case hy322 => (intro w hSw; (try dsimp only at hSw); go_simp; try with_reducible rfl)
        (try simp only [Act.put, sA, sB, sC])
        refine wpAnyH_take (i := 15) (oi := ?oi323) (v := ?v323) ?hi323 (by kernel_rfl) (by kernel_rfl) (by kernel_rfl) ?hQ323 (Or.inl ⟨?hw323, ?hy323⟩) (by assumption) ?rest323
        case hi323 => (simp only [gA, gB, gC]; rfl)
        case hQ323 => exact fun _ _ _ h => h
        case hw323 => rfl
        case hy323 => (intro w hSw; (try dsimp only at hSw); go_simp; try with_reducible rfl)
        (try simp only [Act.put, sA, sB, sC])
        refine wpAnyH_take (i := 16) (oi := ?oi324) (v := undef) ?hi324 (by kernel_rfl) (by kernel_rfl) (by kernel_rfl) ?hQ324 (Or.inr ⟨?hw324, rfl⟩) (by assumption) ?rest324
        case hi324 => (simp only [gA, gB, gC]; rfl)
        case hQ324 => exact fun _ _ _ h => h
        case hw324 => rfl
        (try simp only [Act.put, sA, sB, sC])
        refine wpAnyH_take (i := 17) (oi := ?oi325) (v := undef) ?hi325 (by kernel_rfl) (by kernel_rfl) (by kernel_rfl) ?hQ325 (Or.inr ⟨?hw325, rfl⟩) (by assumption) ?rest325
        case hi325 => (simp only [gA, gB, gC]; rfl)
        case hQ325 => exact fun _ _ _ h => h
        case hw325 => rfl
        (try simp only [Act.put, sA, sB, sC])
        refine wpAnyH_take (i := 18) (oi := ?oi326) (v := undef) ?hi326 (by kernel_rfl) (by kernel_rfl) (by kernel_rfl) ?hQ326 (Or.inr ⟨?hw326, rfl⟩) (by assumption) ?rest326
        case hi326 => (simp only [gA, gB, gC]; rfl)
        case hQ326 => exact fun _ _ _ h => h
        case hw326 => rfl
        (try simp only [Act.put, sA, sB, sC])
        refine wpAnyH_take (i := 19) (oi := ?oi327) (v := undef) ?hi327 (by kernel_rfl) (by kernel_rfl) (by kernel_rfl) ?hQ327 (Or.inr ⟨?hw327, rfl⟩) (by assumption) ?rest327
        case hi327 => (simp only [gA, gB, gC]; rfl)
        case hQ327 => exact fun _ _ _ h => h
        case hw327 => rfl
        (try simp only [Act.put, sA, sB, sC])
        refine wpAnyH_take (i := 20) (oi := ?oi328) (v := undef) ?hi328 (by kernel_rfl) (by kernel_rfl) (by kernel_rfl) ?hQ328 (Or.inr ⟨?hw328, rfl⟩) (by assumption) ?rest328
        case hi328 => (simp only [gA, gB, gC]; rfl)
        case hQ328 => exact fun _ _ _ h => h
        case hw328 => rfl
        (try simp only [Act.put, sA, sB, sC])
        refine wpAnyH_take (i := 21) (oi := ?oi329) (v := undef) ?hi329 (by kernel_rfl) (by kernel_rfl) (by kernel_rfl) ?hQ329 (Or.inr ⟨?hw329, rfl⟩) (by assumption) ?rest329
        case hi329 => (simp only [gA, gB, gC]; rfl)
        case hQ329 => exact fun _ _ _ h => h
        case hw329 => rfl
        (try simp only [Act.put, sA, sB, sC])
        refine wpAnyH_take (i := 22) (oi := ?oi330) (v := ?v330) ?hi330 (by kernel_rfl) (by kernel_rfl) (by kernel_rfl) ?hQ330 (Or.inl ⟨?hw330, ?hy330⟩) (by assumption) ?rest330
        case hi330 => (simp only [gA, gB, gC]; rfl)
        case hQ330 => exact fun _ _ _ h => h
        case hw330 => rfl
        case hy330 => (intro w hSw; (try dsimp only at hSw); go_simp; try with_reducible rfl)
        (try simp only [Act.put, sA, sB, sC])
        refine wpAnyH_take (i := 23) (oi := ?oi331) (v := ?v331) ?hi331 (by kernel_rfl) (by kernel_rfl) (by kernel_rfl) ?hQ331 (Or.inl ⟨?hw331, ?hy331⟩) (by assumption) ?rest331
        case hi331 => (simp only [gA, gB, gC]; rfl)
        case hQ331 => exact fun _ _ _ h => h
        case hw331 => rfl
        case hy331 => (intro w hSw; (try dsimp only at hSw); go_simp; try with_reducible rfl)
        (try simp only [Act.put, sA, sB, sC])
        refine wpAnyH_take (i := 24) (oi := ?oi332) (v := undef) ?hi332 (by kernel_rfl) (by kernel_rfl) (by kernel_rfl) ?hQ332 (Or.inr ⟨?hw332, rfl⟩) (by assumption) ?rest332
        case hi332 => (simp only [gA, gB, gC]; rfl)
        case hQ332 => exact fun _ _ _ h => h
        case hw332 => rfl
        (try simp only [Act.put, sA, sB, sC])
        refine wpAnyH_take (i := 25) (oi := ?oi333) (v := undef) ?hi333 (by kernel_rfl) (by kernel_rfl) (by kernel_rfl) ?hQ333 (Or.inr ⟨?hw333, rfl⟩) (by assumption) ?rest333
        case hi333 => (simp only [gA, gB, gC]; rfl)
        case hQ333 => exact fun _ _ _ h => h
        case hw333 => rfl
        (try simp only [Act.put, sA, sB, sC])
        refine wpAnyH_take (i := 26) (oi := ?oi334) (v := undef) ?hi334 (by kernel_rfl) (by kernel_rfl) (by kernel_rfl) ?hQ334 (Or.inr ⟨?hw334, rfl⟩) (by assumption) ?rest334
        case hi334 => (simp only [gA, gB, gC]; rfl)
        case hQ334 => exact fun _ _ _ h => h
        case hw334 => rfl
        (try simp only [Act.put, sA, sB, sC])
        refine wpAnyH_take (i := 27) (oi := ?oi335) (v := undef) ?hi335 (by kernel_rfl) (by kernel_rfl) (by kernel_rfl) ?hQ335 (Or.inr ⟨?hw335, rfl⟩) (by assumption) ?rest335
        case hi335 => (simp only [gA, gB, gC]; rfl)
        case hQ335 => exact fun _ _ _ h => h
        case hw335 => rfl
        (try simp only [Act.put, sA, sB, sC])
        refine wpAnyH_take (i := 28) (oi := ?oi336) (v := undef) ?hi336 (by kernel_rfl) (by kernel_rfl) (by kernel_rfl) ?hQ336 (Or.inr ⟨?hw336, rfl⟩) (by assumption) ?rest336
        case hi336 => (simp only [gA, gB, gC]; rfl)
        case hQ336 => exact fun _ _ _ h => h
        case hw336 => rfl
        (try simp only [Act.put, sA, sB, sC])
        refine wpAnyH_take (i := 29) (oi := ?oi337) (v := ?v337) ?hi337 (by kernel_rfl) (by kernel_rfl) (by kernel_rfl) ?hQ337 (Or.inl ⟨?hw337, ?hy337⟩) (by assumption) ?rest337
        case hi337 => (simp only [gA, gB, gC]; rfl)
        case hQ337 => exact fun _ _ _ h => h
        case hw337 => rfl
        case hy337 => (intro w hSw; (try dsimp only at hSw); go_simp; try with_reducible rfl)
        (try simp only [Act.put, sA, sB, sC])
        refine wpAnyH_take (i := 30) (oi := ?oi338) (v := ?v338) ?hi338 (by kernel_rfl) (by kernel_rfl) (by kernel_rfl) ?hQ338 (Or.inl ⟨?hw338, ?hy338⟩) (by assumption) ?rest338
        case hi338 => (simp only [gA, gB, gC]; rfl)
        case hQ338 => exact fun _ _ _ h => h
        case hw338 => rfl
        case hy338 => (intro w hSw; (try dsimp only at hSw); go_simp; try with_reducible rfl)
        (try simp only [Act.put, sA, sB, sC])
        refine wpAnyH_take (i := 31) (oi := ?oi339) (v := undef) ?hi339 (by kernel_rfl) (by kernel_rfl) (by kernel_rfl) ?hQ339 (Or.inr ⟨?hw339, rfl⟩) (by assumption) ?rest339
        case hi339 => (simp only [gA, gB, gC]; rfl)
        case hQ339 => exact fun _ _ _ h => h
        case hw339 => rfl
        (try simp only [Act.put, sA, sB, sC])
        refine wpAnyH_take (i := 32) (oi := ?oi340) (v := undef) ?hi340 (by kernel_rfl) (by kernel_rfl) (by kernel_rfl) ?hQ340 (Or.inr ⟨?hw340, rfl⟩) (by assumption) ?rest340
        case hi340 => (simp only [gA, gB, gC]; rfl)
        case hQ340 => exact fun _ _ _ h => h
        case hw340 => rfl
        (try simp only [Act.put, sA, sB, sC])
        refine wpAnyH_take (i := 33) (oi := ?oi341) (v := undef) ?hi341 (by kernel_rfl) (by kernel_rfl) (by kernel_rfl) ?hQ341 (Or.inr ⟨?hw341, rfl⟩) (by assumption) ?rest341
        case hi341 => (simp only [gA, gB, gC]; rfl)
        case hQ341 => exact fun _ _ _ h => h
        case hw341 => rfl
        (try simp only [Act.put, sA, sB, sC])
        refine wpAnyH_take (i := 34) (oi := ?oi342) (v := undef) ?hi342 (by kernel_rfl) (by kernel_rfl) (by kernel_rfl) ?hQ342 (Or.inr ⟨?hw342, rfl⟩) (by assumption) ?rest342
        case hi342 => (simp only [gA, gB, gC]; rfl)
        case hQ342 => exact fun _ _ _ h => h
        case hw342 => rfl
        (try simp only [Act.put, sA, sB, sC])
        refine wpAnyH_take (i := 35) (oi := ?oi343) (v := undef) ?hi343 (by kernel_rfl) (by kernel_rfl) (by kernel_rfl) ?hQ343 (Or.inr ⟨?hw343, rfl⟩) (by assumption) ?rest343
        case hi343 => (simp only [gA, gB, gC]; rfl)
        case hQ343 => exact fun _ _ _ h => h
        case hw343 => rfl
        (try simp only [Act.put, sA, sB, sC])
        refine wpAnyH_take (i := 36) (oi := ?oi344) (v := undef) ?hi344 (by kernel_rfl) (by kernel_rfl) (by kernel_rfl) ?hQ344 (Or.inr ⟨?hw344, rfl⟩) (by assumption) ?rest344
        case hi344 => (simp only [gA, gB, gC]; rfl)
        case hQ344 => exact fun _ _ _ h => h
        case hw344 => rfl
        (try simp only [Act.put, sA, sB, sC])
        refine wpAnyH_take (i := 37) (oi := ?oi345) (v := undef) ?hi345 (by kernel_rfl) (by kernel_rfl) (by kernel_rfl) ?hQ345 (Or.inr ⟨?hw345, rfl⟩) (by assumption) ?rest345
        case hi345 => (simp only [gA, gB, gC]; rfl)
        case hQ345 => exact fun _ _ _ h => h
        case hw345 => rfl
        (try simp only [Act.put, sA, sB, sC])
        refine wpAnyH_take (i := 38) (oi := ?oi346) (v := undef) ?hi346 (by kernel_rfl) (by kernel_rfl) (by kernel_rfl) ?hQ346 (Or.inr ⟨?hw346, rfl⟩) (by assumption) ?rest346
        case hi346 => (simp only [gA, gB, gC]; rfl)
        case hQ346 => exact fun _ _ _ h => h
        case hw346 => rfl
        (try simp only [Act.put, sA, sB, sC])
        refine wpAnyH_take (i := 39) (oi := ?oi347) (v := undef) ?hi347 (by kernel_rfl) (by kernel_rfl) (by kernel_rfl) ?hQ347 (Or.inr ⟨?hw347, rfl⟩) (by assumption) ?rest347
        case hi347 => (simp only [gA, gB, gC]; rfl)
        case hQ347 => exact fun _ _ _ h => h
        case hw347 => rfl
        (try simp only [Act.put, sA, sB, sC])
        refine wpAnyH_take (i := 40) (oi := ?oi348) (v := ?v348) ?hi348 (by kernel_rfl) (by kernel_rfl) (by kernel_rfl) ?hQ348 (Or.inl ⟨?hw348, ?hy348⟩) (by assumption) ?rest348
        case hi348 => (simp only [gA, gB, gC]; rfl)
        case hQ348 => exact fun _ _ _ h => h
        case hw348 => rfl
        case hy348 => (intro w hSw; (try dsimp only at hSw); go_simp; try with_reducible rfl)
        (try simp only [Act.put, sA, sB, sC])
        refine wpAnyH_take (i := 41) (oi := ?oi349) (v := ?v349) ?hi349 (by kernel_rfl) (by kernel_rfl) (by kernel_rfl) ?hQ349 (Or.inl ⟨?hw349, ?hy349⟩) (by assumption) ?rest349
        case hi349 => (simp only [gA, gB, gC]; rfl)
        case hQ349 => exact fun _ _ _ h => h
        case hw349 => rfl
        case hy349 => (intro w hSw; (try dsimp only at hSw); go_simp; try with_reducible rfl)
        (try simp only [Act.put, sA, sB, sC])
        refine wpAnyH_take (i := 42) (oi := ?oi350) (v := undef) ?hi350 (by kernel_rfl) (by kernel_rfl) (by kernel_rfl) ?hQ350 (Or.inr ⟨?hw350, rfl⟩) (by assumption) ?rest350
        case hi350 => (simp only [gA, gB, gC]; rfl)
        case hQ350 => exact fun _ _ _ h => h
        case hw350 => rfl
        (try simp only [Act.put, sA, sB, sC])
        refine wpAnyH_take (i := 43) (oi := ?oi351) (v := undef) ?hi351 (by kernel_rfl) (by kernel_rfl) (by kernel_rfl) ?hQ351 (Or.inr ⟨?hw351, rfl⟩) (by assumption) ?rest351
        case hi351 => (simp only [gA, gB, gC]; rfl)
        case hQ351 => exact fun _ _ _ h => h
        case hw351 => rfl
        (try simp only [Act.put, sA, sB, sC])
        refine wpAnyH_take (i := 44) (oi := ?oi352) (v := undef) ?hi352 (by kernel_rfl) (by kernel_rfl) (by kernel_rfl) ?hQ352 (Or.inr ⟨?hw352, rfl⟩) (by assumption) ?rest352
        case hi352 => (simp only [gA, gB, gC]; rfl)
        case hQ352 => exact fun _ _ _ h => h
        case hw352 => rfl
        (try simp only [Act.put, sA, sB, sC])
        refine wpAnyH_take (i := 45) (oi := ?oi353) (v := undef) ?hi353 (by kernel_rfl) (by kernel_rfl) (by kernel_rfl) ?hQ353 (Or.inr ⟨?hw353, rfl⟩) (by assumption) ?rest353
        case hi353 => (simp only [gA, gB, gC]; rfl)
        case hQ353 => exact fun _ _ _ h => h
        case hw353 => rfl
        (try simp only [Act.put, sA, sB, sC])
        refine wpAnyH_take (i := 46) (oi := ?oi354) (v := undef) ?hi354 (by kernel_rfl) (by kernel_rfl) (by kernel_rfl) ?hQ354 (Or.inr ⟨?hw354, rfl⟩) (by assumption) ?rest354
        case hi354 => (simp only [gA, gB, gC]; rfl)
        case hQ354 => exact fun _ _ _ h => h
        case hw354 => rfl
        (try simp only [Act.put, sA, sB, sC])
        refine wpAnyH_take (i := 47) (oi := ?oi355) (v := undef) ?hi355 (by kernel_rfl) (by kernel_rfl) (by kernel_rfl) ?hQ355 (Or.inr ⟨?hw355, rfl⟩) (by assumption) ?rest355
        case hi355 => (simp only [gA, gB, gC]; rfl)
        case hQ355 => exact fun _ _ _ h => h
        case hw355 => rfl
        (try simp only [Act.put, sA, sB, sC])
        refine wpAnyH_take (i := 48) (oi := ?oi356) (v := undef) ?hi356 (by kernel_rfl) (by kernel_rfl) (by kernel_rfl) ?hQ356 (Or.inr ⟨?hw356, rfl⟩) (by assumption) ?rest356
        case hi356 => (simp only [gA, gB, gC]; rfl)
        case hQ356 => exact fun _ _ _ h => h
        case hw356 => rfl
        (try simp only [Act.put, sA, sB, sC])
        refine wpAnyH_take (i := 49) (oi := ?oi357) (v := ?v357) ?hi357 (by kernel_rfl) (by kernel_rfl) (by kernel_rfl) ?hQ357 (Or.inl ⟨?hw357, ?hy357⟩) (by assumption) ?rest357
        case hi357 => (simp only [gA, gB, gC]; rfl)
        case hQ357 => exact fun _ _ _ h => h
        case hw357 => rfl
        case hy357 => (intro w hSw; (try dsimp only at hSw); go_simp; try with_reducible rfl)
        (try simp only [Act.put, sA, sB, sC])
        refine wpAnyH_take (i := 50) (oi := ?oi358) (v := ?v358) ?hi358 (by kernel_rfl) (by kernel_rfl) (by kernel_rfl) ?hQ358 (Or.inl ⟨?hw358, ?hy358⟩) (by assumption) ?rest358
        case hi358 => (simp only [gA, gB, gC]; rfl)
        case hQ358 => exact fun _ _ _ h => h
        case hw358 => rfl
        case hy358 => (intro w hSw; (try dsimp only at hSw); go_simp; try with_reducible rfl)
        (try simp only [Act.put, sA, sB, sC])
        refine wpAnyH_take (i := 51) (oi := ?oi359) (v := undef) ?hi359 (by kernel_rfl) (by kernel_rfl) (by kernel_rfl) ?hQ359 (Or.inr ⟨?hw359, rfl⟩) (by assumption) ?rest359
        case hi359 => (simp only [gA, gB, gC]; rfl)
        case hQ359 => exact fun _ _ _ h => h
        case hw359 => rfl
        (try simp only [Act.put, sA, sB, sC])
        refine wpAnyH_take (i := 52) (oi := ?oi360) (v := undef) ?hi360 (by kernel_rfl) (by kernel_rfl) (by kernel_rfl) ?hQ360 (Or.inr ⟨?hw360, rfl⟩) (by assumption) ?rest360
        case hi360 => (simp only [gA, gB, gC]; rfl)
        case hQ360 => exact fun _ _ _ h => h
        case hw360 => rfl
        (try simp only [Act.put, sA, sB, sC])
        refine wpAnyH_take (i := 53) (oi := ?oi361) (v := undef) ?hi361 (by kernel_rfl) (by kernel_rfl) (by kernel_rfl) ?hQ361 (Or.inr ⟨?hw361, rfl⟩) (by assumption) ?rest361
        case hi361 => (simp only [gA, gB, gC]; rfl)
        case hQ361 => exact fun _ _ _ h => h
        case hw361 => rfl
        (try simp only [Act.put, sA, sB, sC])
        refine wpAnyH_take (i := 54) (oi := ?oi362) (v := ?v362) ?hi362 (by kernel_rfl) (by kernel_rfl) (by kernel_rfl) ?hQ362 (Or.inl ⟨?hw362, ?hy362⟩) (by assumption) ?rest362
        case hi362 => (simp only [gA, gB, gC]; rfl)
        case hQ362 => exact fun _ _ _ h => h
        case hw362 => rfl
        case hy362 => (intro w hSw; (try dsimp only at hSw); go_simp; try with_reducible rfl)
        (try simp only [Act.put, sA, sB, sC])
        refine wpAnyH_take (i := 55) (oi := ?oi363) (v := ?v363) ?hi363 (by kernel_rfl) (by kernel_rfl) (by kernel_rfl) ?hQ363 (Or.inl ⟨?hw363, ?hy363⟩) (by assumption) ?rest363
        case hi363 => (simp only [gA, gB, gC]; rfl)
        case hQ363 => exact fun _ _ _ h => h
        case hw363 => rfl
        case hy363 => (intro w hSw; (try dsimp only at hSw); go_simp; try with_reducible rfl)
        (try simp only [Act.put, sA, sB, sC])
        refine wpAnyH_take (i := 56) (oi := ?oi364) (v := undef) ?hi364 (by kernel_rfl) (by kernel_rfl) (by kernel_rfl) ?hQ364 (Or.inr ⟨?hw364, rfl⟩) (by assumption) ?rest364
        case hi364 => (simp only [gA, gB, gC]; rfl)
        case hQ364 => exact fun _ _ _ h => h
        case hw364 => rfl
        (try simp only [Act.put, sA, sB, sC])
        refine wpAnyH_take (i := 57) (oi := ?oi365) (v := undef) ?hi365 (by kernel_rfl) (by kernel_rfl) (by kernel_rfl) ?hQ365 (Or.inr ⟨?hw365, rfl⟩) (by assumption) ?rest365
        case hi365 => (simp only [gA, gB, gC]; rfl)
        case hQ365 => exact fun _ _ _ h => h
        case hw365 => rfl
        (try simp only [Act.put, sA, sB, sC])
        refine wpAnyH_take (i := 58) (oi := ?oi366) (v := undef) ?hi366 (by kernel_rfl) (by kernel_rfl) (by kernel_rfl) ?hQ366 (Or.inr ⟨?hw366, rfl⟩) (by assumption) ?rest366
        case hi366 => (simp only [gA, gB, gC]; rfl)
        case hQ366 => exact fun _ _ _ h => h
        case hw366 => rfl
        (try simp only [Act.put, sA, sB, sC])
        refine wpAnyH_take (i := 59) (oi := ?oi367) (v := ?v367) ?hi367 (by kernel_rfl) (by kernel_rfl) (by kernel_rfl) ?hQ367 (Or.inl ⟨?hw367, ?hy367⟩) (by assumption) ?rest367
        case hi367 => (simp only [gA, gB, gC]; rfl)
        case hQ367 => exact fun _ _ _ h => h
        case hw367 => rfl
        case hy367 => (intro w hSw; (try dsimp only at hSw); go_simp; try with_reducible rfl)
        (try simp only [Act.put, sA, sB, sC])
        refine wpAnyH_take (i := 60) (oi := ?oi368) (v := ?v368) ?hi368 (by kernel_rfl) (by kernel_rfl) (by kernel_rfl) ?hQ368 (Or.inl ⟨?hw368, ?hy368⟩) (by assumption) ?rest368
        case hi368 => (simp only [gA, gB, gC]; rfl)
        case hQ368 => exact fun _ _ _ h => h
        case hw368 => rfl
        case hy368 => (intro w hSw; (try dsimp only at hSw); go_simp; try with_reducible rfl)
        (try simp only [Act.put, sA, sB, sC])
        refine wpAnyH_done (by kernel_rfl) ?_ _
        go_wp2
        go_ret
        exact ⟨ret_bool (by first | (simp [*]; done) | (simp [*]; omega)), bel2 HB0.out (by first | exact HBr2.out | exact HBr1.out | exact HBr0.out)⟩
end Go.Proofs.YtkahhoefbphllaaGreat

/- Layer 7: rows of values, of ints are cloned; a case is opened. (Made by gen/gencase.py.) -/
namespace Go.Proofs.YtkahhoefbphllaaGreat
open Go.RowKit
set_option linter.unusedVariables false
set_option linter.unusedSimpArgs false
set_option maxRecDepth 20000

abbrev vCells (v : Vl) : List Value := [.int .i64 v.k, .int .i64 v.i, .bool v.b, .string v.s, .float .f64 v.n]
theorem vCells_one (l : List Vl) : ∀ u ∈ l.flatMap vCells, u.oneCell' = true := fun u hu => by
  obtain ⟨v, -, hv⟩ := List.mem_flatMap.1 hu
  simp only [vCells, List.mem_cons, List.not_mem_nil, or_false] at hv
  rcases hv with rfl | rfl | rfl | rfl | rfl <;> rfl
theorem Vlp.cells {w : World} {p : Addr} {y : Vl} (h : Vlp w p y) : ∀ o u, (vCells y)[o]? = some u → w.cell? (p.add o) = some u := by
  obtain ⟨h0, h1, h2, h3, h4⟩ := h
  intro o u hu
  match o, hu with
  | 0, hu => injection hu with hu; subst hu; rw [Addr.add_zero']; exact h0
  | 1, hu => injection hu with hu; subst hu; rw [Addr.add_succ']; exact h1
  | 2, hu => injection hu with hu; subst hu; rw [Addr.add_succ']; exact h2
  | 3, hu => injection hu with hu; subst hu; rw [Addr.add_succ']; exact h3
  | 4, hu => injection hu with hu; subst hu; rw [Addr.add_succ']; exact h4
theorem VlK.rows {w : World} {A : Option Addr} {c : Nat} {l : List Vl} (h : VlK w A c l) : RowS w 5 (.slice A l.length c) l.length (l.flatMap vCells) := by
  obtain ⟨h1, h2, h3, h4⟩ := h
  refine ⟨A, c, rfl, flat_len vCells 5 (fun _ => rfl) l, fun ha => by have := h3 ha; omega, fun a ha j u hj => ?_⟩
  have hjl : j < l.length * 5 := by
    have := (List.getElem?_eq_some_iff.1 hj).1
    rwa [flat_len vCells 5 (fun _ => rfl) l] at this
  have hq : j / 5 < l.length := by omega
  rw [show j = j / 5 * 5 + j % 5 by omega, flat_get vCells 5 (fun _ => rfl) l _ _ hq (Nat.mod_lt _ (by decide))] at hj
  obtain ⟨ad, e1, -, e3⟩ := h4 _ hq
  rw [ha] at e1
  injection e1 with e1
  subst e1
  rw [show j = j / 5 * 5 + j % 5 by omega, ← add_add']
  exact e3.cells _ _ hj
/-- values' rows that are own lie in new memory -/
theorem vlN_own {T : Nat → Prop} {w : World} {base : Nat} {v : Value} {n : Nat} {l : List Vl} (h : w.ownsRow base 55 5 v n (l.flatMap vCells)) (hT : ∀ b, base ≤ b → T b) : ∃ A c, v = .slice A l.length c ∧ VlN T w A c l := by
  obtain ⟨A, c, h1, h2⟩ := rowN_own vCells (fun _ => rfl) (by decide) id (R := Vlp) h hT fun q hq b i hc => ⟨hc 0 (by omega), hc 1 (by omega), hc 2 (by omega), hc 3 (by omega), hc 4 (by omega)⟩
  rw [List.map_id] at h1 h2
  exact ⟨A, c, h1, h2⟩
theorem map_intC : ∀ l : List Int, l.map (Value.int .i64) = l.flatMap intC
  | [] => rfl
  | x :: l => by rw [List.map_cons, List.flatMap_cons, map_intC l]; rfl
theorem isN_own {T : Nat → Prop} {w : World} {base : Nat} {v : Value} {n : Nat} {l : List Int} (h : w.ownsRow base 3 1 v n (l.map (Value.int .i64))) (hT : ∀ b, base ≤ b → T b) : ∃ A c, v = .slice A l.length c ∧ IsN T w A c l := by
  rw [map_intC] at h
  obtain ⟨A, c, h1, h2⟩ := rowN_own intC (fun _ => rfl) (by decide) id (R := IntP) h hT fun q hq b i hc => hc 0 Nat.one_pos
  rw [List.map_id] at h1 h2
  exact ⟨A, c, h1, h2⟩
theorem int_one (l : List Int) : ∀ u ∈ l.map (Value.int .i64), u.oneCell' = true := fun u hu => by
  obtain ⟨n, -, rfl⟩ := List.mem_map.1 hu
  rfl
theorem is_rows {w : World} {A : Option Addr} {c : Nat} {l : List Int} (h : Is w (.slice A l.length c) l) : RowS w 1 (.slice A l.length c) l.length (l.map (Value.int .i64)) := by
  obtain ⟨A', c', hv, hc, hm, hn, hx⟩ := h
  injection hv with e1 e2 e3
  subst e1 e3
  rw [List.length_map] at hc
  refine ⟨A, c, rfl, by simp, fun ha => ⟨by have := hn ha; omega, hn ha⟩, fun a ha j u hj => ?_⟩
  have hne : l.map (Value.int .i64) ≠ [] := fun e => by rw [e] at hj; simp at hj
  obtain ⟨ad, h1, h2, h3⟩ := hx hne
  rw [ha] at h1
  injection h1 with h1
  subst h1
  exact h3 j u hj
/-- what a clone of values leaves -/
def ClV (l : List Vl) (w : World) (e : Ending) (w' : World) : Prop := ∃ v, e = .returned v ∧ w'.ownsRow w.heap.size 55 5 v l.length (l.flatMap vCells) ∧ Below w.heap.size w w'
def ClI (l : List Int) (w : World) (e : Ending) (w' : World) : Prop := ∃ v, e = .returned v ∧ w'.ownsRow w.heap.size 3 1 v l.length (l.map (Value.int .i64)) ∧ Below w.heap.size w w'
theorem infoVl : (Tryz.prog.info? 55).map (fun i => (i.zero, i.size, i.bytes)) = some (some (.agg #[.int .i64 0, .int .i64 0, .bool false, .string ⟨#[]⟩, .float .f64 0]), 5, 48) := by kernel_rfl
theorem infoIn : (Tryz.prog.info? 3).map (fun i => (i.zero, i.size, i.bytes)) = some (some (.int .i64 0), 1, 8) := by kernel_rfl
set_option maxHeartbeats 1000000 in
theorem cloneVl_any (A : Option Addr) (c : Nat) (l : List Vl) (w : World) (hv : VlK w A c l) (hl : l.length ≤ 1000) : Calls Tryz.prog 54 #[.slice A l.length c] w (ClV l w) := by
  obtain ⟨i1, hi1, hz1, hsz1, hby1⟩ := infoZ infoVl
  have hrows : RowS w 5 (.slice A l.length c) l.length (l.flatMap vCells) := hv.rows
  rcases A with _ | ad
  · obtain ⟨-, -, -, hn, -⟩ := id hrows
    have hl0 : l = [] := List.eq_nil_of_length_eq_zero (by obtain ⟨A', c', e, h1, h2, h3⟩ := hrows; injection e with e1 e2 e3; exact (h2 e1.symm).1)
    subst hl0
    clear hn hv hrows
    have he := fun (w : World) => Lib.run_eql_slice_nil (P := Tryz.prog) w 42 55 none 0 c 0 0 Tryz.underlying42
    simp only [List.length_nil]
    go_enter Tryz.func54, Tryz.ntmps54
    go_wp2
    go_ret
    exact ⟨_, rfl, World.ownsRow_nil _ _ _ _, Below.refl _ _⟩
  · have HR := Lib.hid hrows
    have HL := Lib.hid hl
    clear hv hrows hl
    have he := fun (w : World) => Lib.run_eql_slice_nil (P := Tryz.prog) w 42 55 (some ad) l.length c 0 0 Tryz.underlying42
    go_enter Tryz.func54, Tryz.ntmps54
    go_wp2_with (at_builtin; refine wpList_append_rows rfl (.tmp 5) (.tmp 6) 42 rfl w.heap.size 55 i1 (.agg #[.int .i64 0, .int .i64 0, .bool false, .string ⟨#[]⟩, .float .f64 0]) 5 48 Tryz.underlying42 hi1 hz1 hsz1 hby1 rfl (by decide) _ 0 [] rfl (World.ownsRow_made w #[] 0 (Nat.le_refl _) (Nat.zero_le _) rfl) _ l.length (l.flatMap vCells) rfl (HR.out.below (alloc1 _ _)) (vCells_one l) (by have := HL.out; unfold maxLen; omega) (by have := HL.out; omega) (by simp) ?_; intro v2 w2 hown2 hg2 hor2)
    go_ret
    refine ⟨_, rfl, by simpa using hown2, ?_⟩
    exact ((Below.refl w.heap.size w).alloc (Nat.le_refl _) _).grown hg2 (by simp) (by intro k h; injection h with h; simp only at h; omega)
set_option maxHeartbeats 1000000 in
theorem cloneIn_any (A : Option Addr) (c : Nat) (l : List Int) (w : World) (hv : Is w (.slice A l.length c) l) (hl : l.length ≤ 1000) : Calls Tryz.prog 55 #[.slice A l.length c] w (ClI l w) := by
  obtain ⟨i1, hi1, hz1, hsz1, hby1⟩ := infoZ infoIn
  have hrows : RowS w 1 (.slice A l.length c) l.length (l.map (Value.int .i64)) := is_rows hv
  rcases A with _ | ad
  · obtain ⟨-, -, -, hn, -⟩ := id hrows
    have hl0 : l = [] := List.eq_nil_of_length_eq_zero (by obtain ⟨A', c', e, h1, h2, h3⟩ := hrows; injection e with e1 e2 e3; exact (h2 e1.symm).1)
    subst hl0
    clear hn hv hrows
    have he := fun (w : World) => Lib.run_eql_slice_nil (P := Tryz.prog) w 43 3 none 0 c 0 0 Tryz.underlying43
    simp only [List.length_nil]
    go_enter Tryz.func55, Tryz.ntmps55
    go_wp2
    go_ret
    exact ⟨_, rfl, World.ownsRow_nil _ _ _ _, Below.refl _ _⟩
  · have HR := Lib.hid hrows
    have HL := Lib.hid hl
    clear hv hrows hl
    have he := fun (w : World) => Lib.run_eql_slice_nil (P := Tryz.prog) w 43 3 (some ad) l.length c 0 0 Tryz.underlying43
    go_enter Tryz.func55, Tryz.ntmps55
    go_wp2_with (at_builtin; refine wpList_append_rows rfl (.tmp 5) (.tmp 6) 43 rfl w.heap.size 3 i1 (.int .i64 0) 1 8 Tryz.underlying43 hi1 hz1 hsz1 hby1 rfl (by decide) _ 0 [] rfl (World.ownsRow_made w #[] 0 (Nat.le_refl _) (Nat.zero_le _) rfl) _ l.length (l.map (Value.int .i64)) rfl (HR.out.below (alloc1 _ _)) (int_one l) (by have := HL.out; unfold maxLen; omega) (by have := HL.out; omega) (by simp) ?_; intro v2 w2 hown2 hg2 hor2)
    go_ret
    refine ⟨_, rfl, by simpa using hown2, ?_⟩
    exact ((Below.refl w.heap.size w).alloc (Nat.le_refl _) _).grown hg2 (by simp) (by intro k h; injection h with h; simp only at h; omega)
end Go.Proofs.YtkahhoefbphllaaGreat

/- Layer 7: a case is opened, by the program. (Made by gen/gencase.py.) -/
namespace Go.Proofs.YtkahhoefbphllaaGreat
open Go.RowKit
set_option linter.unusedVariables false
set_option linter.unusedSimpArgs false
set_option maxRecDepth 20000

theorem CsN.nil (S : Nat → Prop) (w : World) (k : Cse) (hv : k.vals = []) (he : k.ends = []) : CsN S w k none 0 none 0 := ⟨by rw [hv]; exact RowN.nil _ _ _ _, by rw [he]; exact RowN.nil _ _ _ _⟩
theorem CsN.set8 {w W : World} {k : Cse} {VA : Option Addr} {vc : Nat} {EA : Option Addr} {ec : Nat} {rb : Nat} (hb : w.heap.size ≤ rb) (hn : CsN (fun b => rb < b) W k VA vc EA ec) (hB : Below w.heap.size w W) (u0 u1 u2 u3 u4 u5 u6 u7 : Value) :
    CsN (fun b => w.heap.size ≤ b) (set8 W rb u0 u1 u2 u3 u4 u5 u6 u7) k VA vc EA ec ∧ Below w.heap.size w (set8 W rb u0 u1 u2 u3 u4 u5 u6 u7) := by
  have ho := set8_only W rb u0 u1 u2 u3 u4 u5 u6 u7
  exact ⟨hn.move (fun b hb2 hl => ⟨ho.block b hl (by intro e; injection e with e; omega), by omega⟩) ho.size, hB.trans (ho.to_below hB.size hb)⟩
theorem GivesK.mk {w W : World} {r : Cse × Int} {VA : Option Addr} {vc : Nat} {EA : Option Addr} {ec : Nat} {rb : Nat} (hb : w.heap.size ≤ rb) (hn : CsN (fun b => rb < b) W r.1 VA vc EA ec) (hB : Below w.heap.size w W) (u0 u1 u2 u3 u4 u5 u6 u7 : Value) :
    GivesK r w (.returned (.tuple #[.agg (csK r.1 VA vc EA ec), .int .i64 r.2])) (Go.Proofs.YtkahhoefbphllaaGreat.set8 W rb u0 u1 u2 u3 u4 u5 u6 u7) :=
  ⟨VA, vc, EA, ec, rfl, (CsN.set8 hb hn hB ..).1, (CsN.set8 hb hn hB ..).2⟩
/-- what holds ahead of each field -/
structure NwI (w : World) (b : Nat) (id nm : ByteArray) (fs : List Fld) (wr : World) (k : Nat) (row : Value) : Prop where
  bx : wr.heap[b]? = some (.cells #[.string id, .string nm, .int .i64 0, row, .slice none 0 0, .bool false, .bool false, .int .i64 0] 45 (0, 0))
  own : wr.ownsRow (b + 1) 55 5 row k ((fs.take k).flatMap fun f => vCells f.y)
  bel : Below b w wr
theorem NwI.at4 {w : World} {b : Nat} {id nm : ByteArray} {fs : List Fld} {wr w4 : World} {k : Nat} {row : Value} {o1 o2 : Obj} (h : NwI w b id nm fs wr k row) (hgr : ((wr.alloc o1).alloc o2).grownBy w4 row.ownBlock) :
    w4.heap[b]? = some (.cells #[.string id, .string nm, .int .i64 0, row, .slice none 0 0, .bool false, .bool false, .int .i64 0] 45 (0, 0)) := by
  have hrow0 := h.own.lt
  have hb := heap_ltZ h.bx
  have hz3 : ((wr.alloc o1).alloc o2).heap.size = wr.heap.size + 2 := by simp
  rw [hgr.block b (by omega) (fun e => by have := (hrow0 b e.symm).1; omega)]
  exact ((alloc1 (wr.alloc o1) o2).block b (by simp; omega)).trans (((alloc1 wr o1).block b (by omega)).trans h.bx)
theorem NwI.next {w : World} {b : Nat} {id nm : ByteArray} {fs : List Fld} {wr w4 : World} {k : Nat} {row row' : Value} {o1 o2 : Obj} (h : NwI w b id nm fs wr k row) (hk : k < fs.length) (hw : w.heap.size ≤ b)
    (hown : w4.ownsRow (b + 1) 55 5 row' (k + 1) (((fs.take k).flatMap fun f => vCells f.y) ++ vCells fs[k].y)) (hgr : ((wr.alloc o1).alloc o2).grownBy w4 row.ownBlock) : NwI w b id nm fs (w4.setCell ⟨b, 3, none⟩ row') (k + 1) row' := by
  have hrow0 := h.own.lt
  have hb := heap_ltZ h.bx
  have hz4 := hgr.size
  have hz3 : ((wr.alloc o1).alloc o2).heap.size = wr.heap.size + 2 := by simp
  have hlow : ∀ m, m ≤ b → row.ownBlock ≠ some m := fun m hm e => by have := (hrow0 m e).1; omega
  have hkeep : ∀ m, m ≤ b → w4.heap[m]? = wr.heap[m]? := fun m hm => by
    rw [hgr.block m (by omega) (fun e => hlow m hm e.symm)]
    exact ((alloc1 (wr.alloc o1) o2).block m (by simp; omega)).trans ((alloc1 wr o1).block m (by omega))
  refine ⟨?_, ?_, ⟨?_, ?_, ?_, ?_, fun m hm => ?_⟩⟩
  · have h5 := setZ ((hkeep b (Nat.le_refl _)).trans h.bx) 3 row'
    simpa using h5
  · rw [List.take_succ_eq_append_getElem hk, List.flatMap_append, List.flatMap_cons, List.flatMap_nil, List.append_nil]
    exact ownsRow_setCell_below hown (a := ⟨b, 3, none⟩) (Nat.lt_succ_self b) row'
  · exact hgr.os.trans h.bel.os
  · exact hgr.tape.trans h.bel.tape
  · exact hgr.output.trans h.bel.output
  · have := h.bel.size; simp [World.setCell]; omega
  · rw [Below.heap_setCell w4 _ _ m (show m ≠ b by omega), hkeep m (by omega)]
    exact h.bel.block m hm
set_option maxHeartbeats 4000000 in
theorem kNew_any (ct : Ctr) (FA : Option Addr) (fc : Nat) (SA : Option Addr) (sc : Nat) (MA : Option Addr) (mc : Nat) (id : ByteArray) (w : World) (h : CtK w ct FA fc SA sc MA mc) :
    Calls Tryz.prog 21 #[agC ct.name FA ct.fs.length fc SA ct.ss.length sc MA ct.ms.length mc, .string id] w (GivesK (newK ct id) w) := by
  have hsf := fun (w : World) (a : Addr) (m : Mode) (b : Nat) => run_store Tryz.prog w a (.float .f64 b) m rfl
  have hb2 : Below w.heap.size w ((w.alloc (.cells #[.string ct.name, .slice FA ct.fs.length fc, .slice SA ct.ss.length sc, .slice MA ct.ms.length mc] 33)).alloc (.cells #[.string ⟨#[]⟩, .string ⟨#[]⟩, .int .i64 0, .slice none 0 0, .slice none 0 0, .bool false, .bool false, .int .i64 0] 45)) := (alloc1 _ _).trans ((alloc1 _ _).mono (by simp))
  have hbc2 := belowZ (heap_alloc_new w (.cells #[.string ct.name, .slice FA ct.fs.length fc, .slice SA ct.ss.length sc, .slice MA ct.ms.length mc] 33)) (alloc1 (w.alloc (.cells #[.string ct.name, .slice FA ct.fs.length fc, .slice SA ct.ss.length sc, .slice MA ct.ms.length mc] 33)) (.cells #[.string ⟨#[]⟩, .string ⟨#[]⟩, .int .i64 0, .slice none 0 0, .slice none 0 0, .bool false, .bool false, .int .i64 0] 45))
  have hbk := heap_alloc_new (w.alloc (.cells #[.string ct.name, .slice FA ct.fs.length fc, .slice SA ct.ss.length sc, .slice MA ct.ms.length mc] 33)) (.cells #[.string ⟨#[]⟩, .string ⟨#[]⟩, .int .i64 0, .slice none 0 0, .slice none 0 0, .bool false, .bool false, .int .i64 0] 45)
  rw [World.size_alloc] at hbk
  have HCK := Lib.hid (fun W (hb : Below w.heap.size w W) => cCheck_any ct FA fc SA sc MA mc W (h.below hb))
  have HN := Lib.hid (fun W => kName_any id W)
  have HF := Lib.hid (fun W (hb : Below w.heap.size w W) => h.f.below hb)
  have HB0 := Lib.hid hb2
  clear h hb2
  by_cases hc : checkC ct = 0
  case neg =>
    have hnk : newK ct id = (zK, 81) := by unfold newK; rw [if_neg hc]
    rw [hnk]
    have hcb : (checkC ct != 0) = true := by simpa using hc
    generalize checkC ct = ck at *
    clear hnk hc
    go_enter Tryz.func21, Tryz.ntmps21
    go_upto_region 1 with fail
    generalize (w.alloc (.cells #[.string ct.name, .slice FA ct.fs.length fc, .slice SA ct.ss.length sc, .slice MA ct.ms.length mc] 33)).alloc (.cells #[.string ⟨#[]⟩, .string ⟨#[]⟩, .int .i64 0, .slice none 0 0, .slice none 0 0, .bool false, .bool false, .int .i64 0] 45) = w0 at *
    have c0 := (heap_at hbc2 0).trans (rfl : _ = some (Value.string ct.name))
    have c1 := (heap_at hbc2 1).trans (rfl : _ = some (Value.slice FA ct.fs.length fc))
    have c2 := (heap_at hbc2 2).trans (rfl : _ = some (Value.slice SA ct.ss.length sc))
    have c3 := (heap_at hbc2 3).trans (rfl : _ = some (Value.slice MA ct.ms.length mc))
    have cf := heap_free hbc2
    have cl := heap_ltZ hbc2
    go_wp2_with fail
    refine (HCK.out _ HB0.out).mono ?_
    rintro _ w1 ⟨rfl, hb1⟩
    have hbk1 := belowZ hbk hb1
    have HB1 := Lib.hid (bel2 HB0.out hb1)
    clear hb1 hbk hbc2 c0 c1 c2 c3 cf cl
    have k0 := (heap_at hbk1 0).trans (rfl : _ = some (Value.string ⟨#[]⟩))
    have k1 := (heap_at hbk1 1).trans (rfl : _ = some (Value.string ⟨#[]⟩))
    have k2 := (heap_at hbk1 2).trans (rfl : _ = some (Value.int .i64 0))
    have k3 := (heap_at hbk1 3).trans (rfl : _ = some (Value.slice none 0 0))
    have k4 := (heap_at hbk1 4).trans (rfl : _ = some (Value.slice none 0 0))
    have k5 := (heap_at hbk1 5).trans (rfl : _ = some (Value.bool false))
    have k6 := (heap_at hbk1 6).trans (rfl : _ = some (Value.bool false))
    have k7 := (heap_at hbk1 7).trans (rfl : _ = some (Value.int .i64 0))
    have kf := heap_free hbk1
    have kl := heap_ltZ hbk1
    go_wp2
    exact bodyPost_ret (v := .tuple #[.agg (csK zK none 0 none 0), .int .i64 81]) (by simp [results, Tryz.results21, go_sem, k0, k1, k2, k3, k4, k5, k6, k7, kl, zK]) rfl (GivesK.mk (r := (zK, 81)) (Nat.le_succ _) (CsN.nil _ _ _ rfl rfl) HB1.out _ _ _ _ _ _ _ _)
  have hcb : (checkC ct != 0) = false := by simp [hc]
  by_cases hn : nameB id = true
  case neg =>
    have hnk : newK ct id = (zK, 50) := by unfold newK; rw [if_pos hc, if_neg hn]
    rw [hnk]
    have hnb : nameB id = false := by simpa using hn
    rw [hnb] at HN
    generalize checkC ct = ck at *
    clear hnk hc hn hnb
    go_enter Tryz.func21, Tryz.ntmps21
    go_upto_region 1 with fail
    generalize (w.alloc (.cells #[.string ct.name, .slice FA ct.fs.length fc, .slice SA ct.ss.length sc, .slice MA ct.ms.length mc] 33)).alloc (.cells #[.string ⟨#[]⟩, .string ⟨#[]⟩, .int .i64 0, .slice none 0 0, .slice none 0 0, .bool false, .bool false, .int .i64 0] 45) = w0 at *
    have c0 := (heap_at hbc2 0).trans (rfl : _ = some (Value.string ct.name))
    have c1 := (heap_at hbc2 1).trans (rfl : _ = some (Value.slice FA ct.fs.length fc))
    have c2 := (heap_at hbc2 2).trans (rfl : _ = some (Value.slice SA ct.ss.length sc))
    have c3 := (heap_at hbc2 3).trans (rfl : _ = some (Value.slice MA ct.ms.length mc))
    have cf := heap_free hbc2
    have cl := heap_ltZ hbc2
    go_wp2_with fail
    refine (HCK.out _ HB0.out).mono ?_
    rintro _ w1 ⟨rfl, hb1⟩
    have hbk1 := belowZ hbk hb1
    have HB1 := Lib.hid (bel2 HB0.out hb1)
    clear hb1 hbk hbc2 c0 c1 c2 c3 cf cl
    have k0 := (heap_at hbk1 0).trans (rfl : _ = some (Value.string ⟨#[]⟩))
    have k1 := (heap_at hbk1 1).trans (rfl : _ = some (Value.string ⟨#[]⟩))
    have k2 := (heap_at hbk1 2).trans (rfl : _ = some (Value.int .i64 0))
    have k3 := (heap_at hbk1 3).trans (rfl : _ = some (Value.slice none 0 0))
    have k4 := (heap_at hbk1 4).trans (rfl : _ = some (Value.slice none 0 0))
    have k5 := (heap_at hbk1 5).trans (rfl : _ = some (Value.bool false))
    have k6 := (heap_at hbk1 6).trans (rfl : _ = some (Value.bool false))
    have k7 := (heap_at hbk1 7).trans (rfl : _ = some (Value.int .i64 0))
    have kf := heap_free hbk1
    have kl := heap_ltZ hbk1
    go_wp2_with fail
    refine (HN.out _).mono ?_
    rintro _ w2 ⟨rfl, rfl⟩
    go_wp2
    exact bodyPost_ret (v := .tuple #[.agg (csK zK none 0 none 0), .int .i64 50]) (by simp [results, Tryz.results21, go_sem, k0, k1, k2, k3, k4, k5, k6, k7, kl, zK]) rfl (GivesK.mk (r := (zK, 50)) (Nat.le_succ _) (CsN.nil _ _ _ rfl rfl) HB1.out _ _ _ _ _ _ _ _)
  have hnk : newK ct id = (⟨id, ct.name, 0, ct.fs.map Fld.y, [], false, false, 0⟩, 0) := by unfold newK; rw [if_pos hc, if_pos hn]
  rw [hnk]
  have hf6 : ct.fs.length ≤ 6 := by
    obtain ⟨-, h2, -, -⟩ := check_parts hc
    unfold fieldsR at h2
    simp only [Bool.and_eq_true, decide_eq_true_eq] at h2
    omega
  rw [hn] at HN
  have HF6 := Lib.hid hf6
  generalize checkC ct = ck at *
  clear hnk hc hn hf6
  obtain ⟨i1, hi1, hz1, hsz1, hby1⟩ := infoZ infoVl
  go_enter Tryz.func21, Tryz.ntmps21
  go_upto_region 1 with fail
  generalize (w.alloc (.cells #[.string ct.name, .slice FA ct.fs.length fc, .slice SA ct.ss.length sc, .slice MA ct.ms.length mc] 33)).alloc (.cells #[.string ⟨#[]⟩, .string ⟨#[]⟩, .int .i64 0, .slice none 0 0, .slice none 0 0, .bool false, .bool false, .int .i64 0] 45) = w0 at *
  have c0 := (heap_at hbc2 0).trans (rfl : _ = some (Value.string ct.name))
  have c1 := (heap_at hbc2 1).trans (rfl : _ = some (Value.slice FA ct.fs.length fc))
  have c2 := (heap_at hbc2 2).trans (rfl : _ = some (Value.slice SA ct.ss.length sc))
  have c3 := (heap_at hbc2 3).trans (rfl : _ = some (Value.slice MA ct.ms.length mc))
  have cf := heap_free hbc2
  have cl := heap_ltZ hbc2
  go_wp2_with fail
  refine (HCK.out _ HB0.out).mono ?_
  rintro _ w1 ⟨rfl, hb1⟩
  have hbk1 := belowZ hbk hb1
  have hbc1 := belowZ hbc2 hb1
  have HB1 := Lib.hid (bel2 HB0.out hb1)
  clear hb1 hbk hbc2 c0 c1 c2 c3 cf cl
  have c0 := (heap_at hbc1 0).trans (rfl : _ = some (Value.string ct.name))
  have c1 := (heap_at hbc1 1).trans (rfl : _ = some (Value.slice FA ct.fs.length fc))
  have c2 := (heap_at hbc1 2).trans (rfl : _ = some (Value.slice SA ct.ss.length sc))
  have c3 := (heap_at hbc1 3).trans (rfl : _ = some (Value.slice MA ct.ms.length mc))
  have cf := heap_free hbc1
  have cl := heap_ltZ hbc1
  go_wp2_with fail
  refine (HN.out _).mono ?_
  rintro _ w2 ⟨rfl, rfl⟩
  have hwb : w.heap.size + 1 < w1.heap.size := heap_ltZ hbk1
  go_upto_region 6 with fail
  have HN0 := Lib.hid (show NwI w1 w1.heap.size id ct.name ct.fs (w1.alloc (.cells #[.string id, .string ct.name, .int .i64 0, .slice none 0 0, .slice none 0 0, .bool false, .bool false, .int .i64 0] 45)) 0 (.slice none 0 0) from ⟨heap_alloc_new _ _, World.ownsRow_nil _ _ _ _, alloc1 _ _⟩)
  generalize hw3 : w1.alloc (.cells #[.string id, .string ct.name, .int .i64 0, .slice none 0 0, .slice none 0 0, .bool false, .bool false, .int .i64 0] 45) = w3 at *
  generalize hbb : w1.heap.size = b at *
  have HBB := Lib.hid hbb
  have HWB := Lib.hid hwb
  have HBK := Lib.hid hbk1
  have HBC := Lib.hid (belowZ hbc1 (show Below w1.heap.size w1 w3 by rw [← hw3]; exact alloc1 _ _))
  clear hbb hwb hbk1 hbc1 hw3 c0 c1 c2 c3 cf cl
  have hx3 := HN0.out.bx
  have c0 := (heap_at HBC.out 0).trans (rfl : _ = some (Value.string ct.name))
  have c1 := (heap_at HBC.out 1).trans (rfl : _ = some (Value.slice FA ct.fs.length fc))
  have c2 := (heap_at HBC.out 2).trans (rfl : _ = some (Value.slice SA ct.ss.length sc))
  have c3 := (heap_at HBC.out 3).trans (rfl : _ = some (Value.slice MA ct.ms.length mc))
  have cf := heap_free HBC.out
  have cl := heap_ltZ HBC.out
  generalize hn : ct.fs.length = n at *
  have HNN := Lib.hid hn
  clear hn
  go_wp2
  go_loopw [24] (fun i wr => ∃ (k : Nat) (row : Value), k ≤ n ∧ i = .int .i64 k ∧ NwI w1 b id ct.name ct.fs wr k row) (fun i _ => n - (intOf i).toNat)
  case atStart => exact ⟨0, _, Nat.zero_le _, rfl, HN0.out⟩
  case round =>
    obtain ⟨k, row, hk, rfl, hi⟩ := hrel
    have HI := Lib.hid hi
    clear hi hx3 c0 c1 c2 c3 cf cl
    by_cases hlt : k < n
    · have hltI : (k : Int) < (n : Int) := by omega
      have hkf : k < ct.fs.length := by have := HNN.out; omega
      have hbel : Below w.heap.size w wr := bel2 HB1.out (show Below w1.heap.size w1 wr by rw [HBB.out]; exact HI.out.bel)
      obtain ⟨-, -, -, hfx⟩ := HF.out wr hbel
      obtain ⟨fa, hfa, hfb, QA, qc, ⟨p0, p1, p2, p3, p4, p5, p6, p7⟩, -⟩ := hfx k hkf
      subst hfa
      have hbx := HI.out.bx
      have hown := HI.out.own
      have HKF := Lib.hid hkf
      have HLT := Lib.hid hlt
      have x0 := (heap_at hbx 0).trans (rfl : _ = some (Value.string id))
      have x1 := (heap_at hbx 1).trans (rfl : _ = some (Value.string ct.name))
      have x2 := (heap_at hbx 2).trans (rfl : _ = some (Value.int .i64 0))
      have x3 := (heap_at hbx 3).trans (rfl : _ = some (row))
      have x4 := (heap_at hbx 4).trans (rfl : _ = some (Value.slice none 0 0))
      have x5 := (heap_at hbx 5).trans (rfl : _ = some (Value.bool false))
      have x6 := (heap_at hbx 6).trans (rfl : _ = some (Value.bool false))
      have x7 := (heap_at hbx 7).trans (rfl : _ = some (Value.int .i64 0))
      have xf := heap_free hbx
      have xl := heap_ltZ hbx
      have hfd : (ct.fs[k]).y = (ct.fs[k]).y := rfl
      generalize hf0 : ct.fs[k] = f at *
      have HF0 := Lib.hid hf0
      clear hf0 hfd hfx hlt hkf
      have HOW := Lib.hid ((hown.alloc (.cells #[.string f.f.name, .int .i64 f.f.kind, .slice QA f.en.length qc, .int .i64 f.y.k, .int .i64 f.y.i, .bool f.y.b, .string f.y.s, .float .f64 f.y.n] 72)).alloc (.cells (vCells f.y).toArray 55))
      have hrw := rows_one (wr.alloc (.cells #[.string f.f.name, .int .i64 f.f.kind, .slice QA f.en.length qc, .int .i64 f.y.k, .int .i64 f.y.i, .bool f.y.b, .string f.y.s, .float .f64 f.y.n] 72)) (vCells f.y) 55 5 rfl
      rw [World.size_alloc] at hrw
      have HRW := Lib.hid hrw
      have hb1 : k + 1 ≤ maxLen := by have := HF6.out; have := HLT.out; unfold maxLen; omega
      have hb2 : (k + 1) * 48 ≤ 140737488355328 := by have := HF6.out; have := HLT.out; omega
      have HBS := Lib.hid (And.intro hb1 hb2)
      have HONE := Lib.hid (show ∀ u ∈ vCells f.y, u.oneCell' = true from by have h := vCells_one [f.y]; simpa using h)
      have hbz : b + 1 ≤ ((wr.alloc (.cells #[.string f.f.name, .int .i64 f.f.kind, .slice QA f.en.length qc, .int .i64 f.y.k, .int .i64 f.y.i, .bool f.y.b, .string f.y.s, .float .f64 f.y.n] 72)).alloc (.cells (vCells f.y).toArray 55)).heap.size := by have := heap_ltZ hbx; simp only [World.size_alloc]; omega
      have HBZ := Lib.hid hbz
      clear hb1 hb2 hbz hrw hown
      have hn6 := HF6.out
      go_wp2_with (at_builtin; refine wpList_append_rows rfl (.tmp 29) (.tmp 32) 42 rfl (b + 1) 55 i1 (.agg #[.int .i64 0, .int .i64 0, .bool false, .string ⟨#[]⟩, .float .f64 0]) 5 48 Tryz.underlying42 hi1 hz1 hsz1 hby1 rfl (by decide) _ k _ rfl HOW.out _ 1 (vCells f.y) rfl HRW.out HONE.out HBS.out.1 HBS.out.2 HBZ.out ?_; intro v4 w4 hown4 hgr4 hor4; obtain ⟨A4, c4, rfl⟩ := own_sliceX hown4; have HNX := Lib.hid (NwI.next HI.out HKF.out (Nat.le_of_eq HBB.out) (by rw [← HF0.out] at hown4; exact hown4) hgr4); have hz4 := hgr4.size; have hbk4 := NwI.at4 HI.out hgr4; have x43 := (heap_at hbk4 3).trans (rfl : _ = some row); have x4f := heap_free hbk4; clear hown4 hgr4 hor4)
      go_roundw
      case rel =>
        have hl6 := HLT.out
        exact ⟨k + 1, _, by omega, by go_num, HNX.out⟩
      case measure =>
        have hl6 := HLT.out
        simp [intOf]; omega
    · obtain rfl : k = n := by omega
      have hltI : ¬ (k : Int) < (k : Int) := by omega
      have hown := HI.out.own
      rw [show (ct.fs.take k).flatMap (fun f => vCells f.y) = (ct.fs.map Fld.y).flatMap vCells by rw [← HNN.out, List.take_length, List.flatMap_map]] at hown
      have hlen : (ct.fs.map Fld.y).length = k := by rw [List.length_map]; exact HNN.out
      obtain ⟨A4, c4, rfl, hvn⟩ := vlN_own (T := fun m => w.heap.size + 1 < m) hown fun m hm => by have := HWB.out; omega
      have HVN := Lib.hid hvn
      have hbx := HI.out.bx
      have x0 := (heap_at hbx 0).trans (rfl : _ = some (Value.string id))
      have x1 := (heap_at hbx 1).trans (rfl : _ = some (Value.string ct.name))
      have x2 := (heap_at hbx 2).trans (rfl : _ = some (Value.int .i64 0))
      have x3 := (heap_at hbx 3).trans (rfl : _ = some (Value.slice A4 (ct.fs.map Fld.y).length c4))
      have x4 := (heap_at hbx 4).trans (rfl : _ = some (Value.slice none 0 0))
      have x5 := (heap_at hbx 5).trans (rfl : _ = some (Value.bool false))
      have x6 := (heap_at hbx 6).trans (rfl : _ = some (Value.bool false))
      have x7 := (heap_at hbx 7).trans (rfl : _ = some (Value.int .i64 0))
      have xf := heap_free hbx
      have xl := heap_ltZ hbx
      have hbk := (HI.out.bel.block (w.heap.size + 1) (by have := HWB.out; omega)).trans HBK.out
      have k0 := (heap_at hbk 0).trans (rfl : _ = some (Value.string ⟨#[]⟩))
      have k1 := (heap_at hbk 1).trans (rfl : _ = some (Value.string ⟨#[]⟩))
      have k2 := (heap_at hbk 2).trans (rfl : _ = some (Value.int .i64 0))
      have k3 := (heap_at hbk 3).trans (rfl : _ = some (Value.slice none 0 0))
      have k4 := (heap_at hbk 4).trans (rfl : _ = some (Value.slice none 0 0))
      have k5 := (heap_at hbk 5).trans (rfl : _ = some (Value.bool false))
      have k6 := (heap_at hbk 6).trans (rfl : _ = some (Value.bool false))
      have k7 := (heap_at hbk 7).trans (rfl : _ = some (Value.int .i64 0))
      have kf := heap_free hbk
      have kl := heap_ltZ hbk
      clear hown hvn hbx hbk
      go_wp2
      exact bodyPost_ret (v := .tuple #[.agg (csK ⟨id, ct.name, 0, ct.fs.map Fld.y, [], false, false, 0⟩ A4 c4 none 0), .int .i64 0]) (by simp [results, Tryz.results21, go_sem, k0, k1, k2, k3, k4, k5, k6, k7, kl, HNN.out]) rfl (GivesK.mk (r := (⟨id, ct.name, 0, ct.fs.map Fld.y, [], false, false, 0⟩, 0)) (Nat.le_succ _) ⟨HVN.out, RowN.nil _ _ _ _⟩ (bel2 HB1.out (show Below w1.heap.size w1 wr by rw [HBB.out]; exact HI.out.bel)) _ _ _ _ _ _ _ _)
end Go.Proofs.YtkahhoefbphllaaGreat

/- Layer 7: what deeds stand on; barred, resume. (Made by gen/gendeed.py.) -/
namespace Go.Proofs.YtkahhoefbphllaaGreat
open Go.RowKit
set_option linter.unusedVariables false
set_option linter.unusedSimpArgs false
set_option maxRecDepth 20000

abbrev csD (ct : Ctr) (FA : Option Addr) (fc : Nat) (SA : Option Addr) (sc : Nat) (MA : Option Addr) (mc : Nat) (nm : ByteArray) (v : Vl) (org : Int) : Array Value := #[.string ct.name, .slice FA ct.fs.length fc, .slice SA ct.ss.length sc, .slice MA ct.ms.length mc, .string nm, .int .i64 v.k, .int .i64 v.i, .bool v.b, .string v.s, .float .f64 v.n, .int .i64 org]
/-- a case in its box at B, its rows own, from base on -/
structure DdK (w : World) (base B : Nat) (k : Cse) (VA : Option Addr) (vc : Nat) (EA : Option Addr) (ec : Nat) : Prop where
  lt : B < base
  bz : base ≤ w.heap.size
  b : w.heap[B]? = some (.cells (csK k VA vc EA ec) 45 (0, 0))
  v : w.ownsRow base 55 5 (.slice VA k.vals.length vc) k.vals.length (k.vals.flatMap vCells)
  e : w.ownsRow base 3 1 (.slice EA k.ends.length ec) k.ends.length (k.ends.map (Value.int .i64))
theorem DdK.below {w w' : World} {base B : Nat} {k : Cse} {VA : Option Addr} {vc : Nat} {EA : Option Addr} {ec : Nat} (h : DdK w base B k VA vc EA ec) (hb : Below w.heap.size w w') : DdK w' base B k VA vc EA ec :=
  ⟨h.lt, Nat.le_trans h.bz hb.size, belowZ h.b hb, own_belowX h.v hb, own_belowX h.e hb⟩
theorem DdK.vlk {w : World} {base B : Nat} {k : Cse} {VA : Option Addr} {vc : Nat} {EA : Option Addr} {ec : Nat} (h : DdK w base B k VA vc EA ec) : VlN (fun b => base ≤ b) w VA vc k.vals := by
  obtain ⟨A, c, e, h2⟩ := vlN_own (T := fun b => base ≤ b) h.v fun b hb => hb
  injection e with e1 e2 e3
  subst e1 e3
  exact h2
theorem DdK.isn {w : World} {base B : Nat} {k : Cse} {VA : Option Addr} {vc : Nat} {EA : Option Addr} {ec : Nat} (h : DdK w base B k VA vc EA ec) : IsN (fun b => base ≤ b) w EA ec k.ends := by
  obtain ⟨A, c, e, h2⟩ := isN_own (T := fun b => base ≤ b) h.e fun b hb => hb
  injection e with e1 e2 e3
  subst e1 e3
  exact h2
theorem DdK.csn {w : World} {base B : Nat} {k : Cse} {VA : Option Addr} {vc : Nat} {EA : Option Addr} {ec : Nat} (h : DdK w base B k VA vc EA ec) : CsN (fun b => base ≤ b) w k VA vc EA ec := ⟨h.vlk, h.isn⟩
/-- what lies below base stays, but for the case's box -/
structure Frm (base B : Nat) (w w' : World) : Prop where
  os : w'.os = w.os
  tape : w'.tape = w.tape
  output : w'.output = w.output
  size : w.heap.size ≤ w'.heap.size
  block : ∀ m, m < base → m ≠ B → w'.heap[m]? = w.heap[m]?
theorem Frm.refl (base B : Nat) (w : World) : Frm base B w w := ⟨rfl, rfl, rfl, Nat.le_refl _, fun _ _ _ => rfl⟩
theorem Frm.of {base B : Nat} {w w' : World} (hz : base ≤ w.heap.size) (h : Below w.heap.size w w') : Frm base B w w' := ⟨h.os, h.tape, h.output, h.size, fun m hm _ => h.block m (by omega)⟩
theorem Frm.trans {base B : Nat} {w w1 w2 : World} (h : Frm base B w w1) (h2 : Frm base B w1 w2) : Frm base B w w2 := ⟨h2.os.trans h.os, h2.tape.trans h.tape, h2.output.trans h.output, Nat.le_trans h.size h2.size, fun m hm hB => (h2.block m hm hB).trans (h.block m hm hB)⟩
theorem Frm.drew {base B : Nat} {w w1 : World} (h : Frm base B w w1) : Frm base B w w1.drew := ⟨h.os, h.tape, h.output, h.size, h.block⟩
theorem Frm.setc {base B : Nat} {w w0 : World} (h : Frm base B w w0) (j : Nat) (u : Value) : Frm base B w (w0.setCell ⟨B, j, none⟩ u) :=
  ⟨h.os, h.tape, h.output, by simpa [World.setCell] using h.size, fun m hm hB => (Below.heap_setCell w0 _ u m hB).trans (h.block m hm hB)⟩
/-- what a deed leaves -/
def StepP (base B : Nat) (r : Cse × Int) (w : World) (e : Ending) (w' : World) : Prop := ∃ VA vc EA ec, e = .returned (.int .i64 r.2) ∧ DdK w' base B r.1 VA vc EA ec ∧ Frm base B w w'
theorem StepP.stay {base B : Nat} {k : Cse} {n : Int} {w w' : World} {VA : Option Addr} {vc : Nat} {EA : Option Addr} {ec : Nat} (h : DdK w base B k VA vc EA ec) (hb : Below w.heap.size w w') : StepP base B (k, n) w (.returned (.int .i64 n)) w' := ⟨VA, vc, EA, ec, rfl, h.below hb, Frm.of h.bz hb⟩
theorem DdK.setc {w : World} {base B : Nat} {k k' : Cse} {VA : Option Addr} {vc : Nat} {EA : Option Addr} {ec : Nat} (h : DdK w base B k VA vc EA ec) (j : Nat) (u : Value) (hv : k'.vals = k.vals) (he : k'.ends = k.ends) (hc : (csK k VA vc EA ec).setIfInBounds j u = csK k' VA vc EA ec) : DdK (w.setCell ⟨B, j, none⟩ u) base B k' VA vc EA ec :=
  ⟨h.lt, by have := h.bz; simpa [World.setCell] using this, by rw [← hc]; exact setZ h.b j u, by rw [hv]; exact ownsRow_setCell_below h.v (a := ⟨B, j, none⟩) h.lt u, by rw [he]; exact ownsRow_setCell_below h.e (a := ⟨B, j, none⟩) h.lt u⟩
/-- the row of those who have endorsed is gone -/
theorem DdK.setn {w : World} {base B : Nat} {k k' : Cse} {VA : Option Addr} {vc : Nat} {EA : Option Addr} {ec : Nat} (h : DdK w base B k VA vc EA ec) (hv : k'.vals = k.vals) (he : k'.ends = []) (hc : (csK k VA vc EA ec).setIfInBounds 4 (.slice none 0 0) = csK k' VA vc none 0) : DdK (w.setCell ⟨B, 4, none⟩ (.slice none 0 0)) base B k' VA vc none 0 :=
  ⟨h.lt, by have := h.bz; simpa [World.setCell] using this, by rw [← hc]; exact setZ h.b 4 _, by rw [hv]; exact ownsRow_setCell_below h.v (a := ⟨B, 4, none⟩) h.lt _, by rw [he]; exact World.ownsRow_nil _ _ _ _⟩
theorem barred_any (k : Cse) (VA : Option Addr) (vc : Nat) (EA : Option Addr) (ec : Nat) (d : Int) (h3 : 3 ≤ d) (h9 : d ≤ 9) (w : World) :
    Calls Tryz.prog 96 #[.agg (csK k VA vc EA ec), .int .i64 d] w (VMk (.int .i64 (barK k d)) w) := by
  obtain ⟨id, kc, st, vals, ends, su, sh, sp⟩ := k
  have hd : d = 3 ∨ d = 4 ∨ d = 5 ∨ d = 6 ∨ d = 7 ∨ d = 8 ∨ d = 9 := by omega
  clear h3 h9
  rcases hd with rfl | rfl | rfl | rfl | rfl | rfl | rfl
  all_goals
    cases su
    all_goals
      cases sh
      all_goals
        go_enter Tryz.func96, Tryz.ntmps96
        go_wp2
        go_ret
        exact ⟨rfl, alloc1 _ _⟩
theorem resume_any (k : Cse) (VA : Option Addr) (vc : Nat) (EA : Option Addr) (ec : Nat) (base B : Nat) (w : World) (h : DdK w base B k VA vc EA ec) :
    Calls Tryz.prog 100 #[.pointer (some ⟨B, 0, none⟩)] w (StepP base B (if k.susp = true then ({ k with susp := false }, 0) else (k, 75)) w) := by
  have hb := h.b
  have HD := Lib.hid h
  clear h
  obtain ⟨id, kc, st, vals, ends, su, sh, sp⟩ := k
  have k0 := (heap_at hb 0).trans (rfl : _ = some (Value.string id))
  have k1 := (heap_at hb 1).trans (rfl : _ = some (Value.string kc))
  have k2 := (heap_at hb 2).trans (rfl : _ = some (Value.int .i64 st))
  have k3 := (heap_at hb 3).trans (rfl : _ = some (Value.slice VA vals.length vc))
  have k4 := (heap_at hb 4).trans (rfl : _ = some (Value.slice EA ends.length ec))
  have k5 := (heap_at hb 5).trans (rfl : _ = some (Value.bool su))
  have k6 := (heap_at hb 6).trans (rfl : _ = some (Value.bool sh))
  have k7 := (heap_at hb 7).trans (rfl : _ = some (Value.int .i64 sp))
  have kf := heap_free hb
  have kl := heap_ltZ hb
  clear hb
  cases su
  · show Calls _ _ _ _ (StepP base B (⟨id, kc, st, vals, ends, false, sh, sp⟩, 75) w)
    go_enter Tryz.func100, Tryz.ntmps100
    go_wp2
    go_ret
    exact StepP.stay HD.out (Below.refl _ _)
  · show Calls _ _ _ _ (StepP base B (⟨id, kc, st, vals, ends, false, sh, sp⟩, 0) w)
    go_enter Tryz.func100, Tryz.ntmps100
    go_wp2
    go_ret
    exact ⟨VA, vc, EA, ec, rfl, HD.out.setc 5 _ rfl rfl rfl, (Frm.refl _ _ _).setc 5 _⟩
end Go.Proofs.YtkahhoefbphllaaGreat

/- Layer 7: Right by the program; what an error leaves. (Made by gen/gendeed.py.) -/
namespace Go.Proofs.YtkahhoefbphllaaGreat
open Go.RowKit
set_option linter.unusedVariables false
set_option linter.unusedSimpArgs false
set_option maxRecDepth 20000

theorem stepK_err {c : Ctr} {k : Cse} {d : Int} {nm : ByteArray} {v : Vl} {ev : Ex → Vl × Int} {org : Int} (h : (stepK c k d nm v ev org).2 ≠ 0) : (stepK c k d nm v ev org).1 = k := by
  unfold stepK at h ⊢
  by_cases hb : barK k d ≠ 0
  · rw [if_pos hb]
  rw [if_neg hb] at h ⊢
  by_cases e3 : d = 3
  · rw [if_pos e3] at h ⊢
    by_cases hno : (stgAt c k.stage).orgs ≠ [] ∧ memI org (stgAt c k.stage).orgs = false
    · rw [updK_org hno]
    by_cases hp : placeN nm (c.fs.map fun f => f.f.name) 0 < 0
    · rw [updK_neg hno hp]
    obtain ⟨j, hj, -, hf⟩ := place_at nm c.fs (fun f => f.f.name) hp
    rw [updK_at hno hp hf] at h ⊢
    by_cases hv : fitsV v (c.fs[j]).f.kind (c.fs[j]).en = 0
    · rw [if_pos hv] at h; exact absurd rfl h
    · rw [if_neg hv]
  rw [if_neg e3] at h ⊢
  by_cases e4 : d = 4
  · rw [if_pos e4] at h ⊢
    unfold endK at h ⊢
    by_cases ho : memI org (stgAt c k.stage).orgs = true
    · rw [if_pos ho] at h ⊢
      by_cases hn : memI org k.ends = true
      · rw [if_pos hn]
      · rw [if_neg hn] at h; exact absurd rfl h
    · rw [if_neg ho]
  rw [if_neg e4] at h ⊢
  by_cases e5 : d = 5
  · rw [if_pos e5] at h ⊢
    by_cases hp : placeN nm (c.ms.map Mv.name) 0 < 0
    · rw [advK_neg hp]
    obtain ⟨j, hj, -, hm⟩ := place_at nm c.ms Mv.name hp
    rw [advK_at hp hm] at h ⊢
    by_cases hy : mayK c k c.ms[j] ev org ≠ 0
    · rw [if_pos hy]
    rw [if_neg hy] at h ⊢
    by_cases he : (effK c ev (c.ms[j]).effs k.vals).2 ≠ 0
    · rw [if_pos he]
    · rw [if_neg he] at h; exact absurd rfl h
  rw [if_neg e5] at h ⊢
  by_cases e6 : d = 6
  · rw [if_pos e6] at h; exact absurd rfl h
  rw [if_neg e6] at h ⊢
  by_cases e7 : d = 7
  · rw [if_pos e7] at h ⊢
    by_cases hs : k.susp = true
    · rw [if_pos hs] at h; exact absurd rfl h
    · rw [if_neg hs]
  rw [if_neg e7] at h ⊢
  by_cases e8 : d = 8
  · rw [if_pos e8] at h ⊢
    by_cases hl : leadsK c k.stage = true
    · rw [if_pos hl]
    · rw [if_neg hl] at h; exact absurd rfl h
  rw [if_neg e8] at h
  exact absurd rfl h
set_option maxHeartbeats 2000000 in
theorem kRight_any (ct : Ctr) (FA : Option Addr) (fc : Nat) (SA : Option Addr) (sc : Nat) (MA : Option Addr) (mc : Nat) (k : Cse) (VA : Option Addr) (vc : Nat) (EA : Option Addr) (ec : Nat) (w : World) (h : CtK w ct FA fc SA sc MA mc) (hk : CsK w k VA vc EA ec) :
    Calls Tryz.prog 23 #[agC ct.name FA ct.fs.length fc SA ct.ss.length sc MA ct.ms.length mc, .agg (csK k VA vc EA ec)] w (VMk (.bool (rightK ct k)) w) := by
  have hb2 : Below w.heap.size w ((w.alloc (.cells #[.string ct.name, .slice FA ct.fs.length fc, .slice SA ct.ss.length sc, .slice MA ct.ms.length mc] 33)).alloc (.cells #[.string k.id, .string k.ctr, .int .i64 k.stage, .slice VA k.vals.length vc, .slice EA k.ends.length ec, .bool k.susp, .bool k.shut, .int .i64 k.steps] 45)) := (alloc1 _ _).trans ((alloc1 _ _).mono (by simp))
  have hbc := belowZ (heap_alloc_new w (.cells #[.string ct.name, .slice FA ct.fs.length fc, .slice SA ct.ss.length sc, .slice MA ct.ms.length mc] 33)) (alloc1 (w.alloc (.cells #[.string ct.name, .slice FA ct.fs.length fc, .slice SA ct.ss.length sc, .slice MA ct.ms.length mc] 33)) (.cells #[.string k.id, .string k.ctr, .int .i64 k.stage, .slice VA k.vals.length vc, .slice EA k.ends.length ec, .bool k.susp, .bool k.shut, .int .i64 k.steps] 45))
  have hbk := heap_alloc_new (w.alloc (.cells #[.string ct.name, .slice FA ct.fs.length fc, .slice SA ct.ss.length sc, .slice MA ct.ms.length mc] 33)) (.cells #[.string k.id, .string k.ctr, .int .i64 k.stage, .slice VA k.vals.length vc, .slice EA k.ends.length ec, .bool k.susp, .bool k.shut, .int .i64 k.steps] 45)
  rw [World.size_alloc] at hbk
  have HCK := Lib.hid (fun W (hb : Below w.heap.size w W) => cCheck_any ct FA fc SA sc MA mc W (h.below hb))
  have HRF := Lib.hid (fun W (hb : Below w.heap.size w W) => rightFor_any ct FA fc SA sc MA mc k VA vc EA ec W (h.below hb) (hk.below hb))
  have HB2 := Lib.hid hb2
  have HR1 := Lib.hid (show checkC ct ≠ 0 → rightK ct k = false from fun h => by unfold rightK; simp [h])
  have HR2 := Lib.hid (show checkC ct = 0 → rightK ct k = rightF ct k from fun h => by unfold rightK; simp [h])
  clear h hk hb2
  generalize rightK ct k = b at *
  generalize rightF ct k = b2 at *
  generalize checkC ct = y at *
  go_enter Tryz.func23, Tryz.ntmps23
  go_upto_region 1 with fail
  generalize (w.alloc (.cells #[.string ct.name, .slice FA ct.fs.length fc, .slice SA ct.ss.length sc, .slice MA ct.ms.length mc] 33)).alloc (.cells #[.string k.id, .string k.ctr, .int .i64 k.stage, .slice VA k.vals.length vc, .slice EA k.ends.length ec, .bool k.susp, .bool k.shut, .int .i64 k.steps] 45) = w1 at *
  have c0 := (heap_at hbc 0).trans (rfl : _ = some (Value.string ct.name))
  have c1 := (heap_at hbc 1).trans (rfl : _ = some (Value.slice FA ct.fs.length fc))
  have c2 := (heap_at hbc 2).trans (rfl : _ = some (Value.slice SA ct.ss.length sc))
  have c3 := (heap_at hbc 3).trans (rfl : _ = some (Value.slice MA ct.ms.length mc))
  have cf := heap_free hbc
  have cl := heap_ltZ hbc
  have k0 := (heap_at hbk 0).trans (rfl : _ = some (Value.string k.id))
  have k1 := (heap_at hbk 1).trans (rfl : _ = some (Value.string k.ctr))
  have k2 := (heap_at hbk 2).trans (rfl : _ = some (Value.int .i64 k.stage))
  have k3 := (heap_at hbk 3).trans (rfl : _ = some (Value.slice VA k.vals.length vc))
  have k4 := (heap_at hbk 4).trans (rfl : _ = some (Value.slice EA k.ends.length ec))
  have k5 := (heap_at hbk 5).trans (rfl : _ = some (Value.bool k.susp))
  have k6 := (heap_at hbk 6).trans (rfl : _ = some (Value.bool k.shut))
  have k7 := (heap_at hbk 7).trans (rfl : _ = some (Value.int .i64 k.steps))
  have kf := heap_free hbk
  have kl := heap_ltZ hbk
  by_cases hy : y = 0
  · have hb := HR2.out hy
    subst hb
    have hyb : (y == 0) = true := by simp [hy]
    have HBC := Lib.hid hbc
    have HBK := Lib.hid hbk
    clear hy hbc hbk
    go_wp2_with (first
      | (go_at_call 36; refine (HCK.out w1 HB2.out).mono ?_; rintro e w2 ⟨rfl, hb12⟩; have HB3 := Lib.hid (bel2 HB2.out hb12); have hc2 := belowZ HBC.out hb12; have hk2 := belowZ HBK.out hb12;
          have cc0 := (heap_at hc2 0).trans (rfl : _ = some (Value.string ct.name));
          have cc1 := (heap_at hc2 1).trans (rfl : _ = some (Value.slice FA ct.fs.length fc));
          have cc2 := (heap_at hc2 2).trans (rfl : _ = some (Value.slice SA ct.ss.length sc));
          have cc3 := (heap_at hc2 3).trans (rfl : _ = some (Value.slice MA ct.ms.length mc));
          have kk0 := (heap_at hk2 0).trans (rfl : _ = some (Value.string k.id));
          have kk1 := (heap_at hk2 1).trans (rfl : _ = some (Value.string k.ctr));
          have kk2 := (heap_at hk2 2).trans (rfl : _ = some (Value.int .i64 k.stage));
          have kk3 := (heap_at hk2 3).trans (rfl : _ = some (Value.slice VA k.vals.length vc));
          have kk4 := (heap_at hk2 4).trans (rfl : _ = some (Value.slice EA k.ends.length ec));
          have kk5 := (heap_at hk2 5).trans (rfl : _ = some (Value.bool k.susp));
          have kk6 := (heap_at hk2 6).trans (rfl : _ = some (Value.bool k.shut));
          have kk7 := (heap_at hk2 7).trans (rfl : _ = some (Value.int .i64 k.steps)); clear hb12 hc2 hk2)
      | (go_at_call 50; refine (HRF.out w2 HB3.out).mono ?_; rintro e w3 ⟨rfl, hb13⟩; have HB4 := Lib.hid (bel2 HB3.out hb13); clear hb13))
    go_ret
    exact ⟨rfl, HB4.out⟩
  · have hb := HR1.out hy
    subst hb
    have hyb : (y == 0) = false := by simpa using hy
    clear hy
    go_wp2_with (go_at_call 36; refine (HCK.out w1 HB2.out).mono ?_; rintro e w2 ⟨rfl, hb12⟩; have HB3 := Lib.hid (bel2 HB2.out hb12); clear hb12)
    go_ret
    exact ⟨rfl, HB3.out⟩
end Go.Proofs.YtkahhoefbphllaaGreat

/- Layer 7: the stage that a case is in. (Made by gen/gendeed.py.) -/
namespace Go.Proofs.YtkahhoefbphllaaGreat
open Go.RowKit
set_option linter.unusedVariables false
set_option linter.unusedSimpArgs false
set_option maxRecDepth 20000

/-- what stage tells -/
def StgR (s : Stg) (w : World) (e : Ending) (w' : World) : Prop := ∃ A c, e = .returned (.agg #[.string s.name, .int .i64 s.need, .slice A s.orgs.length c]) ∧ Is w' (.slice A s.orgs.length c) s.orgs ∧ Below w.heap.size w w'
theorem below_setg {B b : Nat} {w w0 : World} (h : Below B w w0) (hb : B ≤ b) (j : Nat) (u : Value) : Below B w (w0.setCell ⟨b, j, none⟩ u) :=
  ⟨h.os, h.tape, h.output, by simpa [World.setCell] using h.size, fun m hm => (Below.heap_setCell w0 _ u m (show m ≠ b by omega)).trans (h.block m hm)⟩
theorem StgR.mk {s : Stg} {w W : World} {A : Option Addr} {c rb : Nat} (hso : Is w (.slice A s.orgs.length c) s.orgs) (hB : Below w.heap.size w W) (hb : w.heap.size ≤ rb) (u0 u1 u2 : Value) :
    StgR s w (.returned (.agg #[.string s.name, .int .i64 s.need, .slice A s.orgs.length c])) (((W.setCell ⟨rb, 0, none⟩ u0).setCell ⟨rb, 1, none⟩ u1).setCell ⟨rb, 2, none⟩ u2) :=
  have h := below_setg (below_setg (below_setg hB hb 0 u0) hb 1 u1) hb 2 u2
  ⟨A, c, rfl, Rd.below hso h (Nat.le_refl _), h⟩
theorem StgR.drew {s : Stg} {w w' : World} {e : Ending} (h : StgR s w e w') : StgR s w e w'.drew := by
  obtain ⟨A, c, h1, h2, h3⟩ := h
  exact ⟨A, c, h1, Rd.below h2 (Below.refl _ _).drew (Nat.le_refl _), h3.drew⟩
set_option maxHeartbeats 4000000 in
theorem dStage_any (ct : Ctr) (FA : Option Addr) (fc : Nat) (SA : Option Addr) (sc : Nat) (MA : Option Addr) (mc : Nat) (k : Cse) (VA : Option Addr) (vc : Nat) (EA : Option Addr) (ec : Nat) (nm : ByteArray) (v : Vl) (org : Int) (B : Nat) (w : World) (h : CtK w ct FA fc SA sc MA mc) (hb : w.heap[B]? = some (.cells (csK k VA vc EA ec) 45 (0, 0))) (h0 : 0 ≤ k.stage) (h1 : k.stage < (ct.ss.length : Int)) :
    Calls Tryz.prog 157 #[.agg (csD ct FA fc SA sc MA mc nm v org), .pointer (some ⟨B, 0, none⟩)] w (StgR (stgAt ct k.stage) w) := by
  obtain ⟨id, kc, st, vals, ends, su, sh, sp⟩ := k
  dsimp only at h0 h1 ⊢
  obtain ⟨j, rfl⟩ := Int.eq_ofNat_of_zero_le h0
  have hjl : j < ct.ss.length := by omega
  clear h0
  have hb2 : Below w.heap.size w ((w.alloc (.cells #[.string ct.name, .slice FA ct.fs.length fc, .slice SA ct.ss.length sc, .slice MA ct.ms.length mc, .string nm, .int .i64 v.k, .int .i64 v.i, .bool v.b, .string v.s, .float .f64 v.n, .int .i64 org] 99)).alloc (.cells #[.string ⟨#[]⟩, .int .i64 0, .slice none 0 0] 65)) := (alloc1 _ _).trans ((alloc1 _ _).mono (by simp))
  have hbd := belowZ (heap_alloc_new w (.cells #[.string ct.name, .slice FA ct.fs.length fc, .slice SA ct.ss.length sc, .slice MA ct.ms.length mc, .string nm, .int .i64 v.k, .int .i64 v.i, .bool v.b, .string v.s, .float .f64 v.n, .int .i64 org] 99)) (alloc1 (w.alloc (.cells #[.string ct.name, .slice FA ct.fs.length fc, .slice SA ct.ss.length sc, .slice MA ct.ms.length mc, .string nm, .int .i64 v.k, .int .i64 v.i, .bool v.b, .string v.s, .float .f64 v.n, .int .i64 org] 99)) (.cells #[.string ⟨#[]⟩, .int .i64 0, .slice none 0 0] 65))
  have hbs := heap_alloc_new (w.alloc (.cells #[.string ct.name, .slice FA ct.fs.length fc, .slice SA ct.ss.length sc, .slice MA ct.ms.length mc, .string nm, .int .i64 v.k, .int .i64 v.i, .bool v.b, .string v.s, .float .f64 v.n, .int .i64 org] 99)) (.cells #[.string ⟨#[]⟩, .int .i64 0, .slice none 0 0] 65)
  rw [World.size_alloc] at hbs
  have hbk := belowZ hb hb2
  obtain ⟨sd, A, c, rfl, hsl, t0, t1, t2, hso⟩ := stg_at h.s hjl
  have s0 := (hb2.cell (by rw [block_add]; exact hsl)).trans t0
  have s1 := keepc hb2 (by rw [block_add]; exact hsl) t1
  have s2 := keepc hb2 (by rw [block_add]; exact hsl) t2
  have HSO := Lib.hid hso
  have HB := Lib.hid hb2
  clear hb2 hso hb h t0 t1 t2
  generalize stgAt ct (j : Int) = s at *
  go_enter Tryz.func157, Tryz.ntmps157
  go_upto_region 1 with fail
  generalize (w.alloc (.cells #[.string ct.name, .slice FA ct.fs.length fc, .slice (some sd) ct.ss.length sc, .slice MA ct.ms.length mc, .string nm, .int .i64 v.k, .int .i64 v.i, .bool v.b, .string v.s, .float .f64 v.n, .int .i64 org] 99)).alloc (.cells #[.string ⟨#[]⟩, .int .i64 0, .slice none 0 0] 65) = w1 at *
  have d0 := (heap_at hbd 0).trans (rfl : _ = some (Value.string ct.name))
  have d1 := (heap_at hbd 1).trans (rfl : _ = some (Value.slice FA ct.fs.length fc))
  have d2 := (heap_at hbd 2).trans (rfl : _ = some (Value.slice (some sd) ct.ss.length sc))
  have d3 := (heap_at hbd 3).trans (rfl : _ = some (Value.slice MA ct.ms.length mc))
  have d4 := (heap_at hbd 4).trans (rfl : _ = some (Value.string nm))
  have d5 := (heap_at hbd 5).trans (rfl : _ = some (Value.int .i64 v.k))
  have d6 := (heap_at hbd 6).trans (rfl : _ = some (Value.int .i64 v.i))
  have d7 := (heap_at hbd 7).trans (rfl : _ = some (Value.bool v.b))
  have d8 := (heap_at hbd 8).trans (rfl : _ = some (Value.string v.s))
  have d9 := (heap_at hbd 9).trans (rfl : _ = some (Value.float .f64 v.n))
  have d10 := (heap_at hbd 10).trans (rfl : _ = some (Value.int .i64 org))
  have df := heap_free hbd
  have dl := heap_ltZ hbd
  have r0 := (heap_at hbs 0).trans (rfl : _ = some (Value.string ⟨#[]⟩))
  have r1 := (heap_at hbs 1).trans (rfl : _ = some (Value.int .i64 0))
  have r2 := (heap_at hbs 2).trans (rfl : _ = some (Value.slice none 0 0))
  have rf := heap_free hbs
  have rl := heap_ltZ hbs
  have k0 := (heap_at hbk 0).trans (rfl : _ = some (Value.string id))
  have k1 := (heap_at hbk 1).trans (rfl : _ = some (Value.string kc))
  have k2 := (heap_at hbk 2).trans (rfl : _ = some (Value.int .i64 j))
  have k3 := (heap_at hbk 3).trans (rfl : _ = some (Value.slice VA vals.length vc))
  have k4 := (heap_at hbk 4).trans (rfl : _ = some (Value.slice EA ends.length ec))
  have k5 := (heap_at hbk 5).trans (rfl : _ = some (Value.bool su))
  have k6 := (heap_at hbk 6).trans (rfl : _ = some (Value.bool sh))
  have k7 := (heap_at hbk 7).trans (rfl : _ = some (Value.int .i64 sp))
  have kf := heap_free hbk
  have kl := heap_ltZ hbk
  clear hbd hbs hbk
  go_region
  all_goals
    go_wp2
    exact bodyPost_ret (v := .agg #[.string s.name, .int .i64 s.need, .slice A s.orgs.length c]) (by simp [results, Tryz.results157, go_sem, r0, r1, r2, rl]) rfl (StgR.mk HSO.out HB.out.drew (Nat.le_succ _) _ _ _)
end Go.Proofs.YtkahhoefbphllaaGreat

/- Layer 7: slices.Insert, slices.BinarySearch at []int: the shelf's contracts, laid. -/
namespace Go.Proofs.YtkahhoefbphllaaGreat
open Go.RowKit Go.Shelf
set_option linter.unusedVariables false
set_option linter.unusedSimpArgs false
set_option maxRecDepth 20000

def renF : FuncId → FuncId
  | 21 => 159
  | 25 => 158
  | 27 => 206
  | 28 => 207
  | 31 => 204
  | 32 => 205
  | 35 => 237
  | 37 => 236
  | 39 => 254
  | n => n
def renT : TypeId → TypeId
  | 0 => 0
  | 3 => 3
  | 4 => 4
  | 22 => 43
  | 40 => 216
  | n => n
def renI : Ren := ⟨renF, renT, fun n => n⟩
theorem lay_insert : Lays2.n21 Tryz.prog renI where
  mixed := by kernel_rfl
  f21 := by kernel_rfl
  f27 := by kernel_rfl
  f28 := by kernel_rfl
  f35 := by kernel_rfl
  f39 := by kernel_rfl
  t0 := by kernel_rfl
  a0 := fun w => by kernel_rfl
  z0 := fun w => by kernel_rfl
  v0 := fun w => by kernel_rfl
  t3 := by kernel_rfl
  a3 := fun w => by kernel_rfl
  z3 := fun w => by kernel_rfl
  v3 := fun w => by kernel_rfl
  t4 := by kernel_rfl
  a4 := fun w => by kernel_rfl
  z4 := fun w => by kernel_rfl
  v4 := fun w => by kernel_rfl
  t22 := by kernel_rfl
  a22 := fun w => by kernel_rfl
  z22 := fun w => by kernel_rfl
  v22 := fun w => by kernel_rfl
  i3 := by kernel_rfl
theorem lay_search : Lays2.n25 Tryz.prog renI where
  mixed := by kernel_rfl
  f25 := by kernel_rfl
  f31 := by kernel_rfl
  f32 := by kernel_rfl
  f37 := by kernel_rfl
  t0 := by kernel_rfl
  a0 := fun w => by kernel_rfl
  z0 := fun w => by kernel_rfl
  v0 := fun w => by kernel_rfl
  t3 := by kernel_rfl
  a3 := fun w => by kernel_rfl
  z3 := fun w => by kernel_rfl
  v3 := fun w => by kernel_rfl
  t4 := by kernel_rfl
  a4 := fun w => by kernel_rfl
  z4 := fun w => by kernel_rfl
  v4 := fun w => by kernel_rfl
  t22 := by kernel_rfl
  a22 := fun w => by kernel_rfl
  z22 := fun w => by kernel_rfl
  v22 := fun w => by kernel_rfl
  t40 := by kernel_rfl
  a40 := fun w => by kernel_rfl
  z40 := fun w => by kernel_rfl
  v40 := fun w => by kernel_rfl
end Go.Proofs.YtkahhoefbphllaaGreat

/- Layer 7: a field is set. (Made by gen/gendeed.py.) -/
namespace Go.Proofs.YtkahhoefbphllaaGreat
open Go.RowKit
set_option linter.unusedVariables false
set_option linter.unusedSimpArgs false
set_option maxRecDepth 20000

theorem set_five (l : List Vl) (j : Nat) (hj : j < l.length) (v : Vl) : (((((l.flatMap vCells).set (j * 5) (.int .i64 v.k)).set (j * 5 + 1) (.int .i64 v.i)).set (j * 5 + 2) (.bool v.b)).set (j * 5 + 3) (.string v.s)).set (j * 5 + 4) (.float .f64 v.n) = (l.set j v).flatMap vCells := by
  apply List.ext_getElem?
  intro m
  by_cases hm : m < l.length * 5
  · have hq : m / 5 < l.length := by omega
    have hr : m % 5 < 5 := Nat.mod_lt _ (by decide)
    have hlen : (l.flatMap vCells).length = l.length * 5 := flat_len vCells 5 (fun _ => rfl) l
    have e1 : m = m / 5 * 5 + m % 5 := by omega
    have hget := flat_get vCells 5 (fun _ => rfl) (l.set j v) (m / 5) (m % 5) (by rw [List.length_set]; exact hq) hr
    have hold := flat_get vCells 5 (fun _ => rfl) l (m / 5) (m % 5) hq hr
    rw [← e1] at hget hold
    rw [hget]
    simp only [List.getElem?_set, List.length_set, hlen, List.getElem_set]
    by_cases hqj : j = m / 5
    · rw [if_pos hqj]
      have hc : m % 5 = 0 ∨ m % 5 = 1 ∨ m % 5 = 2 ∨ m % 5 = 3 ∨ m % 5 = 4 := by omega
      rcases hc with hc | hc | hc | hc | hc <;> rw [hc] <;> simp [show ¬ j * 5 + 4 = m ↔ m % 5 ≠ 4 by omega, show j * 5 + 4 = m ↔ m % 5 = 4 by omega, show j * 5 + 3 = m ↔ m % 5 = 3 by omega, show j * 5 + 2 = m ↔ m % 5 = 2 by omega, show j * 5 + 1 = m ↔ m % 5 = 1 by omega, show j * 5 = m ↔ m % 5 = 0 by omega, hc, hm] <;> omega
    · rw [if_neg hqj, ← hold, if_neg (by omega), if_neg (by omega), if_neg (by omega), if_neg (by omega), if_neg (by omega)]
  · rw [List.getElem?_eq_none, List.getElem?_eq_none]
    · rw [flat_len vCells 5 (fun _ => rfl), List.length_set]; omega
    · simp only [List.length_set]; rw [flat_len vCells 5 (fun _ => rfl)]; omega
/-- a value is put into its place of an own row -/
theorem own_set5 {w : World} {base g cap : Nat} {l : List Vl} (h : w.ownsRow base 55 5 (.slice (some ⟨g, 0, none⟩) l.length cap) l.length (l.flatMap vCells)) (j : Nat) (hj : j < l.length) (v : Vl) :
    (((((w.setCell ⟨g, j * 5, none⟩ (.int .i64 v.k)).setCell ⟨g, j * 5 + 1, none⟩ (.int .i64 v.i)).setCell ⟨g, j * 5 + 2, none⟩ (.bool v.b)).setCell ⟨g, j * 5 + 3, none⟩ (.string v.s)).setCell ⟨g, j * 5 + 4, none⟩ (.float .f64 v.n)).ownsRow base 55 5 (.slice (some ⟨g, 0, none⟩) (l.set j v).length cap) (l.set j v).length ((l.set j v).flatMap vCells) := by
  have h5 := (((((h.stored (j * 5) (.int .i64 v.k)).1.stored (j * 5 + 1) (.int .i64 v.i)).1.stored (j * 5 + 2) (.bool v.b)).1.stored (j * 5 + 3) (.string v.s)).1.stored (j * 5 + 4) (.float .f64 v.n)).1
  rw [set_five l j hj v] at h5
  rw [List.length_set]
  exact h5
/-- an own row that is not empty lies at the head of a block -/
theorem own_head {w : World} {base : Nat} {t : TypeId} {K : Nat} {A : Option Addr} {n c : Nat} {xs : List Value} (h : w.ownsRow base t K (.slice A n c) n xs) (hn : 0 < n) : ∃ g, A = some ⟨g, 0, none⟩ ∧ base ≤ g ∧ g < w.heap.size := by
  rcases h.2 with ⟨e, h0⟩ | ⟨g, cap, cur, e, hb, hg, -⟩
  · omega
  · injection e with e1 e2 e3
    exact ⟨g, e1, hb, heap_ltZ hg⟩
theorem own_cells5 {w : World} {base g cap : Nat} {l : List Vl} (h : w.ownsRow base 55 5 (.slice (some ⟨g, 0, none⟩) l.length cap) l.length (l.flatMap vCells)) (j : Nat) (hj : j < l.length) :
    ∃ y : Vl, w.cell? ⟨g, j * 5, none⟩ = some (.int .i64 y.k) ∧ w.cell? ⟨g, j * 5 + 1, none⟩ = some (.int .i64 y.i) ∧ w.cell? ⟨g, j * 5 + 2, none⟩ = some (.bool y.b) ∧ w.cell? ⟨g, j * 5 + 3, none⟩ = some (.string y.s) ∧ w.cell? ⟨g, j * 5 + 4, none⟩ = some (.float .f64 y.n) :=
  ⟨l[j], (h.cellAt (j * 5) (by omega)).trans (flat_get vCells 5 (fun _ => rfl) l j 0 hj (by decide)), (h.cellAt (j * 5 + 1) (by omega)).trans (flat_get vCells 5 (fun _ => rfl) l j 1 hj (by decide)), (h.cellAt (j * 5 + 2) (by omega)).trans (flat_get vCells 5 (fun _ => rfl) l j 2 hj (by decide)),
    (h.cellAt (j * 5 + 3) (by omega)).trans (flat_get vCells 5 (fun _ => rfl) l j 3 hj (by decide)), (h.cellAt (j * 5 + 4) (by omega)).trans (flat_get vCells 5 (fun _ => rfl) l j 4 hj (by decide))⟩
theorem heap_set5 (w : World) (g o m : Nat) (v : Vl) (h : m ≠ g) : (((((w.setCell ⟨g, o, none⟩ (.int .i64 v.k)).setCell ⟨g, o + 1, none⟩ (.int .i64 v.i)).setCell ⟨g, o + 2, none⟩ (.bool v.b)).setCell ⟨g, o + 3, none⟩ (.string v.s)).setCell ⟨g, o + 4, none⟩ (.float .f64 v.n)).heap[m]? = w.heap[m]? := by
  rw [Below.heap_setCell _ _ _ m h, Below.heap_setCell _ _ _ m h, Below.heap_setCell _ _ _ m h, Below.heap_setCell _ _ _ m h, Below.heap_setCell _ _ _ m h]
theorem size_set5 (w : World) (g o : Nat) (v : Vl) : (((((w.setCell ⟨g, o, none⟩ (.int .i64 v.k)).setCell ⟨g, o + 1, none⟩ (.int .i64 v.i)).setCell ⟨g, o + 2, none⟩ (.bool v.b)).setCell ⟨g, o + 3, none⟩ (.string v.s)).setCell ⟨g, o + 4, none⟩ (.float .f64 v.n)).heap.size = w.heap.size := by simp [World.setCell]
set_option maxHeartbeats 2000000 in
/-- a case in its box behind a value that was put, those who have endorsed gone -/
theorem DdK.put {w : World} {base B : Nat} {k : Cse} {VA : Option Addr} {vc : Nat} {EA : Option Addr} {ec : Nat} (h : DdK w base B k VA vc EA ec) (j : Nat) (hj : j < k.vals.length) (v : Vl) {g : Nat} (hg : VA = some ⟨g, 0, none⟩) :
    DdK ((((((w.setCell ⟨g, j * 5, none⟩ (.int .i64 v.k)).setCell ⟨g, j * 5 + 1, none⟩ (.int .i64 v.i)).setCell ⟨g, j * 5 + 2, none⟩ (.bool v.b)).setCell ⟨g, j * 5 + 3, none⟩ (.string v.s)).setCell ⟨g, j * 5 + 4, none⟩ (.float .f64 v.n)).setCell ⟨B, 4, none⟩ (.slice none 0 0)) base B { k with vals := k.vals.set j v, ends := [] } VA vc none 0 ∧ Frm base B w ((((((w.setCell ⟨g, j * 5, none⟩ (.int .i64 v.k)).setCell ⟨g, j * 5 + 1, none⟩ (.int .i64 v.i)).setCell ⟨g, j * 5 + 2, none⟩ (.bool v.b)).setCell ⟨g, j * 5 + 3, none⟩ (.string v.s)).setCell ⟨g, j * 5 + 4, none⟩ (.float .f64 v.n)).setCell ⟨B, 4, none⟩ (.slice none 0 0)) := by
  subst hg
  obtain ⟨g', hg1, hg2, hg3⟩ := own_head h.v (by omega)
  injection hg1 with hg1
  injection hg1 with hg1
  subst hg1
  have hlt := h.lt
  have hb5 : (((((w.setCell ⟨g, j * 5, none⟩ (.int .i64 v.k)).setCell ⟨g, j * 5 + 1, none⟩ (.int .i64 v.i)).setCell ⟨g, j * 5 + 2, none⟩ (.bool v.b)).setCell ⟨g, j * 5 + 3, none⟩ (.string v.s)).setCell ⟨g, j * 5 + 4, none⟩ (.float .f64 v.n)).heap[B]? = some (.cells (csK k (some ⟨g, 0, none⟩) vc EA ec) 45 (0, 0)) := (heap_set5 w g (j * 5) B v (by omega)).trans h.b
  have hv5 := own_set5 h.v j hj v
  have hsz := size_set5 w g (j * 5) v
  have hhp := fun m (hm : m ≠ g) => heap_set5 w g (j * 5) m v hm
  have hos : (((((w.setCell ⟨g, j * 5, none⟩ (.int .i64 v.k)).setCell ⟨g, j * 5 + 1, none⟩ (.int .i64 v.i)).setCell ⟨g, j * 5 + 2, none⟩ (.bool v.b)).setCell ⟨g, j * 5 + 3, none⟩ (.string v.s)).setCell ⟨g, j * 5 + 4, none⟩ (.float .f64 v.n)).os = w.os ∧ (((((w.setCell ⟨g, j * 5, none⟩ (.int .i64 v.k)).setCell ⟨g, j * 5 + 1, none⟩ (.int .i64 v.i)).setCell ⟨g, j * 5 + 2, none⟩ (.bool v.b)).setCell ⟨g, j * 5 + 3, none⟩ (.string v.s)).setCell ⟨g, j * 5 + 4, none⟩ (.float .f64 v.n)).tape = w.tape ∧ (((((w.setCell ⟨g, j * 5, none⟩ (.int .i64 v.k)).setCell ⟨g, j * 5 + 1, none⟩ (.int .i64 v.i)).setCell ⟨g, j * 5 + 2, none⟩ (.bool v.b)).setCell ⟨g, j * 5 + 3, none⟩ (.string v.s)).setCell ⟨g, j * 5 + 4, none⟩ (.float .f64 v.n)).output = w.output := ⟨rfl, rfl, rfl⟩
  generalize (((((w.setCell ⟨g, j * 5, none⟩ (.int .i64 v.k)).setCell ⟨g, j * 5 + 1, none⟩ (.int .i64 v.i)).setCell ⟨g, j * 5 + 2, none⟩ (.bool v.b)).setCell ⟨g, j * 5 + 3, none⟩ (.string v.s)).setCell ⟨g, j * 5 + 4, none⟩ (.float .f64 v.n)) = w5 at *
  have hbz := h.bz
  have hb6 := setZ hb5 4 (.slice none 0 0)
  have hl : (k.vals.set j v).length = k.vals.length := List.length_set
  have hown := ownsRow_setCell_below hv5 (a := ⟨B, 4, none⟩) hlt (.slice none 0 0)
  have hcs : (csK k (some ⟨g, 0, none⟩) vc EA ec).setIfInBounds 4 (.slice none 0 0) = csK { k with vals := k.vals.set j v, ends := [] } (some ⟨g, 0, none⟩) vc none 0 := by
    simp [csK, hl]
  rw [hcs] at hb6
  have hz6 : (w5.setCell ⟨B, 4, none⟩ (.slice none 0 0)).heap.size = w5.heap.size := by simp [World.setCell]
  refine ⟨⟨hlt, by omega, hb6, hown, World.ownsRow_nil _ _ _ _⟩, ⟨hos.1, hos.2.1, hos.2.2, by omega, fun m hm hmB => ?_⟩⟩
  rw [Below.heap_setCell _ _ _ m hmB]
  exact hhp m (by omega)
set_option maxHeartbeats 8000000 in
theorem dUpdate_any (ct : Ctr) (FA : Option Addr) (fc : Nat) (SA : Option Addr) (sc : Nat) (MA : Option Addr) (mc : Nat) (k : Cse) (VA : Option Addr) (vc : Nat) (EA : Option Addr) (ec : Nat) (nm : ByteArray) (v : Vl) (org : Int) (base B : Nat) (w : World) (h : CtK w ct FA fc SA sc MA mc) (hd : DdK w base B k VA vc EA ec) (hr : RtK ct k) :
    Calls Tryz.prog 97 #[.agg (csD ct FA fc SA sc MA mc nm v org), .pointer (some ⟨B, 0, none⟩)] w (StepP base B (updK ct k nm v org) w) := by
  have hsf := fun (w : World) (a : Addr) (m : Mode) (b : Nat) => run_store Tryz.prog w a (.float .f64 b) m rfl
  have hb1 := alloc1 w (.cells #[.string ct.name, .slice FA ct.fs.length fc, .slice SA ct.ss.length sc, .slice MA ct.ms.length mc, .string nm, .int .i64 v.k, .int .i64 v.i, .bool v.b, .string v.s, .float .f64 v.n, .int .i64 org] 99)
  have hbd := heap_alloc_new w (.cells #[.string ct.name, .slice FA ct.fs.length fc, .slice SA ct.ss.length sc, .slice MA ct.ms.length mc, .string nm, .int .i64 v.k, .int .i64 v.i, .bool v.b, .string v.s, .float .f64 v.n, .int .i64 org] 99)
  have hd1 := hd.below hb1
  have HST := Lib.hid (fun W (hb : Below w.heap.size w W) => dStage_any ct FA fc SA sc MA mc k VA vc EA ec nm v org B W (h.below hb) (hd.below hb).b hr.s0 hr.s1)
  have HFI := Lib.hid (fun W (hb : Below w.heap.size w W) => cField_any ct FA fc SA sc MA mc nm W (h.below hb))
  have HFL := Lib.hid (fun W (hb : Below w.heap.size w W) => h.f.below hb)
  have HD0 := Lib.hid hd
  have HB1 := Lib.hid hb1
  have HR := Lib.hid hr
  have hBw : B < w.heap.size := by have := hd.lt; have := hd.bz; omega
  have HBW := Lib.hid hBw
  have HU1 := Lib.hid (fun h => updK_org (c := ct) (k := k) (nm := nm) (v := v) (org := org) h)
  have HU2 := Lib.hid (fun h h2 => updK_neg (c := ct) (k := k) (nm := nm) (v := v) (org := org) h h2)
  have HU3 := Lib.hid (fun (f : Fld) h h2 h3 => updK_at (c := ct) (k := k) (nm := nm) (v := v) (org := org) (f := f) h h2 h3)
  have HPL := Lib.hid (fun h => place_at nm ct.fs (fun f => f.f.name) h)
  clear h hd hr hb1 hBw
  generalize updK ct k nm v org = U at *
  generalize placeN nm (ct.fs.map fun f => f.f.name) 0 = pl at *
  generalize stgAt ct k.stage = s at *
  go_enter Tryz.func97, Tryz.ntmps97
  go_upto_region 1 with fail
  generalize w.alloc (.cells #[.string ct.name, .slice FA ct.fs.length fc, .slice SA ct.ss.length sc, .slice MA ct.ms.length mc, .string nm, .int .i64 v.k, .int .i64 v.i, .bool v.b, .string v.s, .float .f64 v.n, .int .i64 org] 99) = w1 at *
  have d0 := (heap_at hbd 0).trans (rfl : _ = some (Value.string ct.name))
  have d1 := (heap_at hbd 1).trans (rfl : _ = some (Value.slice FA ct.fs.length fc))
  have d2 := (heap_at hbd 2).trans (rfl : _ = some (Value.slice SA ct.ss.length sc))
  have d3 := (heap_at hbd 3).trans (rfl : _ = some (Value.slice MA ct.ms.length mc))
  have d4 := (heap_at hbd 4).trans (rfl : _ = some (Value.string nm))
  have d5 := (heap_at hbd 5).trans (rfl : _ = some (Value.int .i64 v.k))
  have d6 := (heap_at hbd 6).trans (rfl : _ = some (Value.int .i64 v.i))
  have d7 := (heap_at hbd 7).trans (rfl : _ = some (Value.bool v.b))
  have d8 := (heap_at hbd 8).trans (rfl : _ = some (Value.string v.s))
  have d9 := (heap_at hbd 9).trans (rfl : _ = some (Value.float .f64 v.n))
  have d10 := (heap_at hbd 10).trans (rfl : _ = some (Value.int .i64 org))
  have df := heap_free hbd
  have dl := heap_ltZ hbd
  go_wp2_with fail
  refine (HST.out w1 HB1.out).mono ?_
  rintro _ w2 ⟨A, c, rfl, hso, hb2⟩
  have hfd := fun w : World => (show (Instr.field 65 (.agg #[.string s.name, .int .i64 s.need, .slice A s.orgs.length c]) 2).run Tryz.prog w = .ok (.slice A s.orgs.length c) w by kernel_rfl)
  have hbd2 := belowZ hbd hb2
  have HB2 := Lib.hid (bel2 HB1.out hb2)
  have HCT := Lib.hid (fun W (hW : W = w2) => show Calls Tryz.prog 155 #[.slice A s.orgs.length c, .int .i64 org] W (VGv (.bool (memI org s.orgs)) W) from kContains_any A c s.orgs org W (by rw [hW]; exact hso))
  clear hb2 hbd hso d0 d1 d2 d3 d4 d5 d6 d7 d8 d9 d10 df dl
  have d0 := (heap_at hbd2 0).trans (rfl : _ = some (Value.string ct.name))
  have d1 := (heap_at hbd2 1).trans (rfl : _ = some (Value.slice FA ct.fs.length fc))
  have d2 := (heap_at hbd2 2).trans (rfl : _ = some (Value.slice SA ct.ss.length sc))
  have d3 := (heap_at hbd2 3).trans (rfl : _ = some (Value.slice MA ct.ms.length mc))
  have d4 := (heap_at hbd2 4).trans (rfl : _ = some (Value.string nm))
  have d5 := (heap_at hbd2 5).trans (rfl : _ = some (Value.int .i64 v.k))
  have d6 := (heap_at hbd2 6).trans (rfl : _ = some (Value.int .i64 v.i))
  have d7 := (heap_at hbd2 7).trans (rfl : _ = some (Value.bool v.b))
  have d8 := (heap_at hbd2 8).trans (rfl : _ = some (Value.string v.s))
  have d9 := (heap_at hbd2 9).trans (rfl : _ = some (Value.float .f64 v.n))
  have d10 := (heap_at hbd2 10).trans (rfl : _ = some (Value.int .i64 org))
  have df := heap_free hbd2
  have dl := heap_ltZ hbd2
  by_cases horg : s.orgs ≠ [] ∧ memI org s.orgs = false
  · have hU := HU1.out horg
    have hl : (0 : Int) < (s.orgs.length : Int) := by
      have : 0 < s.orgs.length := List.length_pos_iff.2 horg.1
      omega
    have hm := horg.2
    rw [hm] at HCT
    subst hU
    clear horg hm hbd2
    go_wp2_with (go_at_call 155; refine (HCT.out _ rfl).mono ?_; rintro e w' ⟨rfl, rfl⟩)
    go_ret
    exact StepP.stay HD0.out HB2.out
  have HORG := Lib.hid horg
  have hcase : s.orgs.length = 0 ∨ ((0 : Int) < (s.orgs.length : Int) ∧ memI org s.orgs = true) := by
    by_cases h0 : s.orgs = []
    · exact .inl (by rw [h0]; rfl)
    · refine .inr ⟨by have : 0 < s.orgs.length := List.length_pos_iff.2 h0; omega, ?_⟩
      cases hm : memI org s.orgs with
      | true => rfl
      | false => exact absurd ⟨h0, hm⟩ horg
  clear horg
  rcases hcase with hl | ⟨hl, hm⟩
  · have hl2 : ¬ (0 : Int) < (s.orgs.length : Int) := by omega
    clear hl hbd2
    go_upto_region 4 with fail
    go_wp2_with fail
    refine (HFI.out _ HB2.out).mono ?_
    rintro _ w3 ⟨rfl, hb3⟩
    have HB3 := Lib.hid (bel2 HB2.out hb3)
    have e1 := (hb3.cell (World.block_lt_of_cell? _ _ d1)).trans d1
    have e5 := (hb3.cell (World.block_lt_of_cell? _ _ d5)).trans d5
    have e6 := (hb3.cell (World.block_lt_of_cell? _ _ d6)).trans d6
    have e7 := (hb3.cell (World.block_lt_of_cell? _ _ d7)).trans d7
    have e8 := (hb3.cell (World.block_lt_of_cell? _ _ d8)).trans d8
    have e9 := (hb3.cell (World.block_lt_of_cell? _ _ d9)).trans d9
    clear hb3 d0 d1 d2 d3 d4 d5 d6 d7 d8 d9 d10 df dl
    by_cases hneg : pl < 0
    · have hU := HU2.out HORG.out hneg
      subst hU
      go_wp2
      go_ret
      exact StepP.stay HD0.out HB3.out
    obtain ⟨j, hj, hpj, hfj⟩ := HPL.out (by omega)
    have HU4 := Lib.hid (HU3.out _ HORG.out (by omega) hfj)
    subst hpj
    clear hneg hfj
    have hnegI : ¬ (j : Int) < 0 := by omega
    have hjI : (j : Int) < (ct.fs.length : Int) := by omega
    obtain ⟨-, -, -, hfx⟩ := HFL.out w3 HB3.out
    obtain ⟨fa, hfa, hfb, QA, qc, hp8, hss⟩ := hfx j hj
    subst hfa
    have hdd := HD0.out.below HB3.out
    have HFT := Lib.hid (fun W (hW : Below w3.heap.size w3 W) => Fits_val v (ct.fs[j]).f.name (ct.fs[j]).f.kind (.slice QA (ct.fs[j]).en.length qc) (ct.fs[j]).y (ct.fs[j]).en W (hss.below hW (Nat.le_refl _)))
    have HJ := Lib.hid hj
    clear hfx hss
    generalize ct.fs[j] = f at *
    obtain ⟨p0, p1, p2, p3, p4, p5, p6, p7⟩ := hp8
    have HDD := Lib.hid hdd
    clear hdd hj
    go_upto_region 7 with fail
    have HK := Lib.hid (show ∀ W, Below w3.heap.size w3 W → (fun W => Below w3.heap.size w3 W ∧ W.cell? ⟨w.heap.size, 1, none⟩ = some (.slice (some fa) ct.fs.length fc) ∧ W.cell? ⟨w.heap.size, 5, none⟩ = some (.int .i64 v.k) ∧ W.cell? ⟨w.heap.size, 6, none⟩ = some (.int .i64 v.i) ∧ W.cell? ⟨w.heap.size, 7, none⟩ = some (.bool v.b) ∧ W.cell? ⟨w.heap.size, 8, none⟩ = some (.string v.s) ∧ W.cell? ⟨w.heap.size, 9, none⟩ = some (.float .f64 v.n) ∧ W.cell? (fa.add (j * 8)) = some (.string f.f.name) ∧ W.cell? ⟨(fa.add (j * 8)).block, (fa.add (j * 8)).off + 1, none⟩ = some (.int .i64 f.f.kind) ∧ W.cell? ⟨(fa.add (j * 8)).block, (fa.add (j * 8)).off + 2, none⟩ = some (.slice QA f.en.length qc) ∧ W.cell? ⟨(fa.add (j * 8)).block, (fa.add (j * 8)).off + 3, none⟩ = some (.int .i64 f.y.k) ∧ W.cell? ⟨(fa.add (j * 8)).block, (fa.add (j * 8)).off + 4, none⟩ = some (.int .i64 f.y.i) ∧ W.cell? ⟨(fa.add (j * 8)).block, (fa.add (j * 8)).off + 5, none⟩ = some (.bool f.y.b) ∧ W.cell? ⟨(fa.add (j * 8)).block, (fa.add (j * 8)).off + 6, none⟩ = some (.string f.y.s) ∧ W.cell? ⟨(fa.add (j * 8)).block, (fa.add (j * 8)).off + 7, none⟩ = some (.float .f64 f.y.n)) W from fun W h => ⟨h, (h.cell (World.block_lt_of_cell? _ _ e1)).trans e1, (h.cell (World.block_lt_of_cell? _ _ e5)).trans e5, (h.cell (World.block_lt_of_cell? _ _ e6)).trans e6, (h.cell (World.block_lt_of_cell? _ _ e7)).trans e7, (h.cell (World.block_lt_of_cell? _ _ e8)).trans e8, (h.cell (World.block_lt_of_cell? _ _ e9)).trans e9, (h.cell (World.block_lt_of_cell? _ _ p0)).trans p0, (h.cell (World.block_lt_of_cell? _ _ p1)).trans p1, (h.cell (World.block_lt_of_cell? _ _ p2)).trans p2, (h.cell (World.block_lt_of_cell? _ _ p3)).trans p3, (h.cell (World.block_lt_of_cell? _ _ p4)).trans p4, (h.cell (World.block_lt_of_cell? _ _ p5)).trans p5, (h.cell (World.block_lt_of_cell? _ _ p6)).trans p6, (h.cell (World.block_lt_of_cell? _ _ p7)).trans p7⟩)
    have HBr0 := Lib.hid (show Below w3.heap.size w3 w3.drew from (Below.refl _ _).drew)
    have HS0 := Lib.hid (HK.out w3.drew HBr0.out)
    go_region_held3 (fun W => Below w3.heap.size w3 W ∧ W.cell? ⟨w.heap.size, 1, none⟩ = some (.slice (some fa) ct.fs.length fc) ∧ W.cell? ⟨w.heap.size, 5, none⟩ = some (.int .i64 v.k) ∧ W.cell? ⟨w.heap.size, 6, none⟩ = some (.int .i64 v.i) ∧ W.cell? ⟨w.heap.size, 7, none⟩ = some (.bool v.b) ∧ W.cell? ⟨w.heap.size, 8, none⟩ = some (.string v.s) ∧ W.cell? ⟨w.heap.size, 9, none⟩ = some (.float .f64 v.n) ∧ W.cell? (fa.add (j * 8)) = some (.string f.f.name) ∧ W.cell? ⟨(fa.add (j * 8)).block, (fa.add (j * 8)).off + 1, none⟩ = some (.int .i64 f.f.kind) ∧ W.cell? ⟨(fa.add (j * 8)).block, (fa.add (j * 8)).off + 2, none⟩ = some (.slice QA f.en.length qc) ∧ W.cell? ⟨(fa.add (j * 8)).block, (fa.add (j * 8)).off + 3, none⟩ = some (.int .i64 f.y.k) ∧ W.cell? ⟨(fa.add (j * 8)).block, (fa.add (j * 8)).off + 4, none⟩ = some (.int .i64 f.y.i) ∧ W.cell? ⟨(fa.add (j * 8)).block, (fa.add (j * 8)).off + 5, none⟩ = some (.bool f.y.b) ∧ W.cell? ⟨(fa.add (j * 8)).block, (fa.add (j * 8)).off + 6, none⟩ = some (.string f.y.s) ∧ W.cell? ⟨(fa.add (j * 8)).block, (fa.add (j * 8)).off + 7, none⟩ = some (.float .f64 f.y.n)) (first | assumption | exact HK.out _ HBr1.out | exact HS0.out) (first
        | (go_at_call 154; refine (HFT.out _ HBr0.out).mono ?_; rintro e wr1 ⟨rfl, hbr1⟩; have HBr1 := Lib.hid (bel2 HBr0.out hbr1); clear hbr1))
    have HDE := Lib.hid (HDD.out.below HBr1.out)
    have HB4 := Lib.hid (bel2 HB3.out HBr1.out)
    have g1 := (HBr1.out.cell (World.block_lt_of_cell? _ _ e1)).trans e1
    have g5 := (HBr1.out.cell (World.block_lt_of_cell? _ _ e5)).trans e5
    have g6 := (HBr1.out.cell (World.block_lt_of_cell? _ _ e6)).trans e6
    have g7 := (HBr1.out.cell (World.block_lt_of_cell? _ _ e7)).trans e7
    have g8 := (HBr1.out.cell (World.block_lt_of_cell? _ _ e8)).trans e8
    have g9 := (HBr1.out.cell (World.block_lt_of_cell? _ _ e9)).trans e9
    by_cases hz : fitsV v f.f.kind f.en = 0
    · have hU := HU4.out
      rw [if_pos hz, Int.toNat_natCast] at hU
      subst hU
      have hzb : (fitsV v f.f.kind f.en != 0) = false := by simp [hz]
      have hjv : j < k.vals.length := by have := HJ.out; have := HR.out.vn; omega
      have HJV := Lib.hid hjv
      obtain ⟨g, hg, hg2, hg3⟩ := own_head HDE.out.v (by omega)
      subst hg
      have hjI2 : (j : Int) < (k.vals.length : Int) := by omega
      obtain ⟨y, q0, q1, q2, q3, q4⟩ := own_cells5 HDE.out.v j hjv
      have qf := fun o => HDE.out.v.frozenAt o
      have b3 := (heap_at HDE.out.b 3).trans (rfl : _ = some (Value.slice (some ⟨g, 0, none⟩) k.vals.length vc))
      have b4 := (heap_at HDE.out.b 4).trans (rfl : _ = some (Value.slice EA k.ends.length ec))
      have bf := heap_free HDE.out.b
      have hgB : ¬ g = B := by have := HD0.out.lt; omega
      have hBg : ¬ B = g := fun e => hgB e.symm
      have HPUT := Lib.hid (HDE.out.put j hjv v rfl)
      clear hjv hz
      go_wp2
      go_region
      all_goals
        go_wp2
        go_ret
        exact ⟨_, _, _, _, rfl, HPUT.out.1.below (Below.refl _ _).drew, ((Frm.of HD0.out.bz HB4.out).trans HPUT.out.2).drew⟩
    · have hU := HU4.out
      rw [if_neg hz] at hU
      subst hU
      have hzb : (fitsV v f.f.kind f.en != 0) = true := by simpa using hz
      clear hz
      go_wp2
      go_ret
      exact StepP.stay HD0.out HB4.out
  · rw [hm] at HCT
    clear hm hbd2
    go_upto_region 4 with (go_at_call 155; refine (HCT.out _ rfl).mono ?_; rintro e w' ⟨rfl, rfl⟩)
    go_wp2_with fail
    refine (HFI.out _ HB2.out).mono ?_
    rintro _ w3 ⟨rfl, hb3⟩
    have HB3 := Lib.hid (bel2 HB2.out hb3)
    have e1 := (hb3.cell (World.block_lt_of_cell? _ _ d1)).trans d1
    have e5 := (hb3.cell (World.block_lt_of_cell? _ _ d5)).trans d5
    have e6 := (hb3.cell (World.block_lt_of_cell? _ _ d6)).trans d6
    have e7 := (hb3.cell (World.block_lt_of_cell? _ _ d7)).trans d7
    have e8 := (hb3.cell (World.block_lt_of_cell? _ _ d8)).trans d8
    have e9 := (hb3.cell (World.block_lt_of_cell? _ _ d9)).trans d9
    clear hb3 d0 d1 d2 d3 d4 d5 d6 d7 d8 d9 d10 df dl
    by_cases hneg : pl < 0
    · have hU := HU2.out HORG.out hneg
      subst hU
      go_wp2
      go_ret
      exact StepP.stay HD0.out HB3.out
    obtain ⟨j, hj, hpj, hfj⟩ := HPL.out (by omega)
    have HU4 := Lib.hid (HU3.out _ HORG.out (by omega) hfj)
    subst hpj
    clear hneg hfj
    have hnegI : ¬ (j : Int) < 0 := by omega
    have hjI : (j : Int) < (ct.fs.length : Int) := by omega
    obtain ⟨-, -, -, hfx⟩ := HFL.out w3 HB3.out
    obtain ⟨fa, hfa, hfb, QA, qc, hp8, hss⟩ := hfx j hj
    subst hfa
    have hdd := HD0.out.below HB3.out
    have HFT := Lib.hid (fun W (hW : Below w3.heap.size w3 W) => Fits_val v (ct.fs[j]).f.name (ct.fs[j]).f.kind (.slice QA (ct.fs[j]).en.length qc) (ct.fs[j]).y (ct.fs[j]).en W (hss.below hW (Nat.le_refl _)))
    have HJ := Lib.hid hj
    clear hfx hss
    generalize ct.fs[j] = f at *
    obtain ⟨p0, p1, p2, p3, p4, p5, p6, p7⟩ := hp8
    have HDD := Lib.hid hdd
    clear hdd hj
    go_upto_region 7 with fail
    have HK := Lib.hid (show ∀ W, Below w3.heap.size w3 W → (fun W => Below w3.heap.size w3 W ∧ W.cell? ⟨w.heap.size, 1, none⟩ = some (.slice (some fa) ct.fs.length fc) ∧ W.cell? ⟨w.heap.size, 5, none⟩ = some (.int .i64 v.k) ∧ W.cell? ⟨w.heap.size, 6, none⟩ = some (.int .i64 v.i) ∧ W.cell? ⟨w.heap.size, 7, none⟩ = some (.bool v.b) ∧ W.cell? ⟨w.heap.size, 8, none⟩ = some (.string v.s) ∧ W.cell? ⟨w.heap.size, 9, none⟩ = some (.float .f64 v.n) ∧ W.cell? (fa.add (j * 8)) = some (.string f.f.name) ∧ W.cell? ⟨(fa.add (j * 8)).block, (fa.add (j * 8)).off + 1, none⟩ = some (.int .i64 f.f.kind) ∧ W.cell? ⟨(fa.add (j * 8)).block, (fa.add (j * 8)).off + 2, none⟩ = some (.slice QA f.en.length qc) ∧ W.cell? ⟨(fa.add (j * 8)).block, (fa.add (j * 8)).off + 3, none⟩ = some (.int .i64 f.y.k) ∧ W.cell? ⟨(fa.add (j * 8)).block, (fa.add (j * 8)).off + 4, none⟩ = some (.int .i64 f.y.i) ∧ W.cell? ⟨(fa.add (j * 8)).block, (fa.add (j * 8)).off + 5, none⟩ = some (.bool f.y.b) ∧ W.cell? ⟨(fa.add (j * 8)).block, (fa.add (j * 8)).off + 6, none⟩ = some (.string f.y.s) ∧ W.cell? ⟨(fa.add (j * 8)).block, (fa.add (j * 8)).off + 7, none⟩ = some (.float .f64 f.y.n)) W from fun W h => ⟨h, (h.cell (World.block_lt_of_cell? _ _ e1)).trans e1, (h.cell (World.block_lt_of_cell? _ _ e5)).trans e5, (h.cell (World.block_lt_of_cell? _ _ e6)).trans e6, (h.cell (World.block_lt_of_cell? _ _ e7)).trans e7, (h.cell (World.block_lt_of_cell? _ _ e8)).trans e8, (h.cell (World.block_lt_of_cell? _ _ e9)).trans e9, (h.cell (World.block_lt_of_cell? _ _ p0)).trans p0, (h.cell (World.block_lt_of_cell? _ _ p1)).trans p1, (h.cell (World.block_lt_of_cell? _ _ p2)).trans p2, (h.cell (World.block_lt_of_cell? _ _ p3)).trans p3, (h.cell (World.block_lt_of_cell? _ _ p4)).trans p4, (h.cell (World.block_lt_of_cell? _ _ p5)).trans p5, (h.cell (World.block_lt_of_cell? _ _ p6)).trans p6, (h.cell (World.block_lt_of_cell? _ _ p7)).trans p7⟩)
    have HBr0 := Lib.hid (show Below w3.heap.size w3 w3.drew from (Below.refl _ _).drew)
    have HS0 := Lib.hid (HK.out w3.drew HBr0.out)
    go_region_held3 (fun W => Below w3.heap.size w3 W ∧ W.cell? ⟨w.heap.size, 1, none⟩ = some (.slice (some fa) ct.fs.length fc) ∧ W.cell? ⟨w.heap.size, 5, none⟩ = some (.int .i64 v.k) ∧ W.cell? ⟨w.heap.size, 6, none⟩ = some (.int .i64 v.i) ∧ W.cell? ⟨w.heap.size, 7, none⟩ = some (.bool v.b) ∧ W.cell? ⟨w.heap.size, 8, none⟩ = some (.string v.s) ∧ W.cell? ⟨w.heap.size, 9, none⟩ = some (.float .f64 v.n) ∧ W.cell? (fa.add (j * 8)) = some (.string f.f.name) ∧ W.cell? ⟨(fa.add (j * 8)).block, (fa.add (j * 8)).off + 1, none⟩ = some (.int .i64 f.f.kind) ∧ W.cell? ⟨(fa.add (j * 8)).block, (fa.add (j * 8)).off + 2, none⟩ = some (.slice QA f.en.length qc) ∧ W.cell? ⟨(fa.add (j * 8)).block, (fa.add (j * 8)).off + 3, none⟩ = some (.int .i64 f.y.k) ∧ W.cell? ⟨(fa.add (j * 8)).block, (fa.add (j * 8)).off + 4, none⟩ = some (.int .i64 f.y.i) ∧ W.cell? ⟨(fa.add (j * 8)).block, (fa.add (j * 8)).off + 5, none⟩ = some (.bool f.y.b) ∧ W.cell? ⟨(fa.add (j * 8)).block, (fa.add (j * 8)).off + 6, none⟩ = some (.string f.y.s) ∧ W.cell? ⟨(fa.add (j * 8)).block, (fa.add (j * 8)).off + 7, none⟩ = some (.float .f64 f.y.n)) (first | assumption | exact HK.out _ HBr1.out | exact HS0.out) (first
        | (go_at_call 154; refine (HFT.out _ HBr0.out).mono ?_; rintro e wr1 ⟨rfl, hbr1⟩; have HBr1 := Lib.hid (bel2 HBr0.out hbr1); clear hbr1))
    have HDE := Lib.hid (HDD.out.below HBr1.out)
    have HB4 := Lib.hid (bel2 HB3.out HBr1.out)
    have g1 := (HBr1.out.cell (World.block_lt_of_cell? _ _ e1)).trans e1
    have g5 := (HBr1.out.cell (World.block_lt_of_cell? _ _ e5)).trans e5
    have g6 := (HBr1.out.cell (World.block_lt_of_cell? _ _ e6)).trans e6
    have g7 := (HBr1.out.cell (World.block_lt_of_cell? _ _ e7)).trans e7
    have g8 := (HBr1.out.cell (World.block_lt_of_cell? _ _ e8)).trans e8
    have g9 := (HBr1.out.cell (World.block_lt_of_cell? _ _ e9)).trans e9
    by_cases hz : fitsV v f.f.kind f.en = 0
    · have hU := HU4.out
      rw [if_pos hz, Int.toNat_natCast] at hU
      subst hU
      have hzb : (fitsV v f.f.kind f.en != 0) = false := by simp [hz]
      have hjv : j < k.vals.length := by have := HJ.out; have := HR.out.vn; omega
      have HJV := Lib.hid hjv
      obtain ⟨g, hg, hg2, hg3⟩ := own_head HDE.out.v (by omega)
      subst hg
      have hjI2 : (j : Int) < (k.vals.length : Int) := by omega
      obtain ⟨y, q0, q1, q2, q3, q4⟩ := own_cells5 HDE.out.v j hjv
      have qf := fun o => HDE.out.v.frozenAt o
      have b3 := (heap_at HDE.out.b 3).trans (rfl : _ = some (Value.slice (some ⟨g, 0, none⟩) k.vals.length vc))
      have b4 := (heap_at HDE.out.b 4).trans (rfl : _ = some (Value.slice EA k.ends.length ec))
      have bf := heap_free HDE.out.b
      have hgB : ¬ g = B := by have := HD0.out.lt; omega
      have hBg : ¬ B = g := fun e => hgB e.symm
      have HPUT := Lib.hid (HDE.out.put j hjv v rfl)
      clear hjv hz
      go_wp2
      go_region
      all_goals
        go_wp2
        go_ret
        exact ⟨_, _, _, _, rfl, HPUT.out.1.below (Below.refl _ _).drew, ((Frm.of HD0.out.bz HB4.out).trans HPUT.out.2).drew⟩
    · have hU := HU4.out
      rw [if_neg hz] at hU
      subst hU
      have hzb : (fitsV v f.f.kind f.en != 0) = true := by simpa using hz
      clear hz
      go_wp2
      go_ret
      exact StepP.stay HD0.out HB4.out
end Go.Proofs.YtkahhoefbphllaaGreat
