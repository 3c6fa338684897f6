/- sc: CPutL CMv CPut CChk CPut2 CAw0 CAw CFew CPure CRef CRef2 CRef3 ERChk ERChk2 (made by shake.py). -/
import Derived.BigQuiet
import Derived.Deep.RegionHeld3
import Derived.Deep.RegionWith
import Derived.Test.YthgdnpcfdgimlabGreatsb
/- Layer 6: lists behind their counts, by the program. (Made by gen/gencput.py.) -/
namespace Go.Proofs.YthgdnpcfdgimlabGreat
open Go.RowKit
set_option linter.unusedVariables false
set_option linter.unusedSimpArgs false
set_option maxRecDepth 20000

set_option maxHeartbeats 2000000 in
theorem putL_Str (f : ByteArray → List UInt8) (A : Option Addr) (cc : Nat) (l : List ByteArray) (w : World) (hf : Ss w (.slice A l.length cc) l) (hn : l.length ≤ 1000) (hb : (listB f l).length ≤ 10000000)
    (hcall : ∀ x ∈ l, ∀ W, Calls Tryz.prog 47 #[.string x] W (PutsV W (f x))) :
    Calls Tryz.prog 88 #[.slice A l.length cc, .func (Fn.func 47) #[] #[]] w (Puts w (listB f l)) := by
  obtain ⟨i0, hi, hz0, hz1, hz2⟩ := info_parts u8info
  obtain ⟨A', c', he, hm, hx⟩ := hf.open
  injection he with e1 e2 e3
  subst e1 e3
  unfold maxLen at hm
  clear e2
  have hlen : l.length ≤ 9223372036854775807 := by omega
  have HP := Lib.hid hcall
  have HX := Lib.hid hx
  have hq : Calls Tryz.prog 86 #[.slice none 0 0, .int .i64 l.length] w (Puts w (be 4 l.length)) := by
    have h := PutCount_any (.slice none 0 0) [] l.length w (Bs.nil w) (by simp) (by omega) (by omega)
    rwa [capC_of hn] at h
  have HQ := Lib.hid hq
  have ht : ∀ k (hk : k < l.length), be 4 l.length ++ (l.take (k + 1)).flatMap f = be 4 l.length ++ (l.take k).flatMap f ++ f l[k] := fun k hk => by
    rw [List.take_succ_eq_append_getElem hk, List.flatMap_append, List.append_assoc]; simp
  have htl : ∀ k, (be 4 l.length ++ (l.take k).flatMap f).length ≤ 10000000 := fun k => by
    have h : l.flatMap f = (l.take k).flatMap f ++ (l.drop k).flatMap f := by rw [← List.flatMap_append, List.take_append_drop]
    unfold listB at hb
    rw [h, List.length_append, List.length_append] at hb
    rw [List.length_append]; omega
  have hend : be 4 l.length ++ (l.take l.length).flatMap f = listB f l := by rw [List.take_length]; rfl
  have h00 : be 4 l.length ++ (l.take 0).flatMap f = be 4 l.length := by simp
  have HT := Lib.hid ht
  have HTL := Lib.hid htl
  have HEND := Lib.hid hend
  have H00 := Lib.hid h00
  clear hcall hx hq ht htl hend hb hn hm h00
  try clear hf
  generalize be 4 l.length = b4 at *
  have hsf := fun (w : World) (a : Addr) (m : Mode) (b : Nat) => run_store Tryz.prog w a (.float .f64 b) m rfl
  go_enter Tryz.func88, Tryz.ntmps88
  go_wp2_with fail
  refine HQ.out.mono ?_
  rintro _ w1 ⟨v1, rfl, ho1, hb1⟩
  have HO1 := Lib.hid ho1
  have HB1 := Lib.hid hb1
  clear ho1 hb1 HQ
  go_wp2
  go_loopw [5, 13] (fun b i wr => ∃ k : Nat, k ≤ l.length ∧ i = .int .i64 k ∧ wr.ownsRow w.heap.size 5 1 b (b4 ++ (l.take k).flatMap f).length ((b4 ++ (l.take k).flatMap f).map bc) ∧ Below w.heap.size w wr) (fun _ i _ => l.length - (intOf i).toNat)
  case atStart => exact ⟨0, Nat.zero_le _, rfl, by rw [H00.out]; exact HO1.out, HB1.out⟩
  case round =>
    obtain ⟨k, hk, rfl, hown, hb⟩ := hrel
    have HO := Lib.hid hown
    have HB := Lib.hid hb
    clear hown hb HO1 HB1
    by_cases hlt : k < l.length
    · have hltI : (k : Int) < (l.length : Int) := by omega
      obtain ⟨ad, rfl, hbl, hcell⟩ := HX.out k hlt
      have hcell2 := (HB.out.cell (p := ad.add k) (by rw [block_add]; exact hbl)).trans hcell
      have hmem := List.getElem_mem hlt
      have htk := HT.out k hlt
      have hle := HTL.out (k + 1)
      clear hcell
      generalize l[k] = x at *
      have HC := Lib.hid (fun W => HP.out x hmem W)
      rw [htk] at hle
      generalize f x = fx at *
      have HTT := Lib.hid htk
      have HLE := Lib.hid hle
      clear htk hle hmem
      go_wp2_with (first
        | fail
        | (go_at_call 47; refine (HC.out _).mono ?_; rintro e w2 ⟨v2, B2, rfl, hB2, ho2, hb2⟩; have HB2 := Lib.hid (bel2 (bel2 HB.out (Below.refl _ _)) hb2); have HOw := Lib.hid (own_belowX (own_belowX HO.out (Below.refl _ _)) hb2); have HV2 := Lib.hid (own_bs ho2); have hq1 : (b4 ++ (l.take k).flatMap f).length + (fx.map bc).length ≤ maxLen := (by have := HLE.out; rw [List.length_append] at this; rw [List.length_map]; unfold maxLen; omega); have hq2 : ((b4 ++ (l.take k).flatMap f).length + (fx.map bc).length) * 1 ≤ 140737488355328 := (by have := HLE.out; rw [List.length_append] at this; rw [List.length_map]; omega); have HQ2 := Lib.hid (And.intro hq1 hq2); clear ho2 hb2 hq1 hq2)
        | (at_builtin; refine wpList_append_rd _ rfl _ _ 34 rfl w.heap.size 5 i0 (.int .u8 0) 1 Tryz.underlying34 hi hz0 hz1 hz2 rfl _ _ _ rfl HOw.out _ _ rfl HV2.out (bc_one _) HQ2.out.1 HQ2.out.2 HB2.out.size ?_; intro v5 w5 hown5 hgr5; have HB5 := Lib.hid (HB2.out.grown hgr5 HB2.out.size (fun k hk => (HOw.out.lt k hk).1)); rw [← List.map_append, List.length_map, ← List.length_append, ← HTT.out] at hown5))
      go_roundw
      case rel => exact ⟨k + 1, by omega, by go_num, hown5, HB5.out⟩
      case measure => simp [intOf]; omega
    · obtain rfl : k = l.length := by omega
      have hltI : ¬ (l.length : Int) < (l.length : Int) := by omega
      go_wp2
      go_ret
      exact ⟨_, rfl, by rw [← HEND.out]; exact HO.out, HB.out⟩
set_option maxHeartbeats 2000000 in
theorem putL_Int (f : Int → List UInt8) (A : Option Addr) (cc : Nat) (l : List Int) (w : World) (hf : Is w (.slice A l.length cc) l) (hn : l.length ≤ 1000) (hb : (listB f l).length ≤ 10000000)
    (hcall : ∀ x ∈ l, ∀ W, Calls Tryz.prog 87 #[.int .i64 x] W (PutsV W (f x))) :
    Calls Tryz.prog 90 #[.slice A l.length cc, .func (Fn.func 87) #[] #[]] w (Puts w (listB f l)) := by
  obtain ⟨i0, hi, hz0, hz1, hz2⟩ := info_parts u8info
  obtain ⟨-, hm, hx⟩ := hf.open
  unfold maxLen at hm
  have hlen : l.length ≤ 9223372036854775807 := by omega
  have HP := Lib.hid hcall
  have HX := Lib.hid hx
  have hq : Calls Tryz.prog 86 #[.slice none 0 0, .int .i64 l.length] w (Puts w (be 4 l.length)) := by
    have h := PutCount_any (.slice none 0 0) [] l.length w (Bs.nil w) (by simp) (by omega) (by omega)
    rwa [capC_of hn] at h
  have HQ := Lib.hid hq
  have ht : ∀ k (hk : k < l.length), be 4 l.length ++ (l.take (k + 1)).flatMap f = be 4 l.length ++ (l.take k).flatMap f ++ f l[k] := fun k hk => by
    rw [List.take_succ_eq_append_getElem hk, List.flatMap_append, List.append_assoc]; simp
  have htl : ∀ k, (be 4 l.length ++ (l.take k).flatMap f).length ≤ 10000000 := fun k => by
    have h : l.flatMap f = (l.take k).flatMap f ++ (l.drop k).flatMap f := by rw [← List.flatMap_append, List.take_append_drop]
    unfold listB at hb
    rw [h, List.length_append, List.length_append] at hb
    rw [List.length_append]; omega
  have hend : be 4 l.length ++ (l.take l.length).flatMap f = listB f l := by rw [List.take_length]; rfl
  have h00 : be 4 l.length ++ (l.take 0).flatMap f = be 4 l.length := by simp
  have HT := Lib.hid ht
  have HTL := Lib.hid htl
  have HEND := Lib.hid hend
  have H00 := Lib.hid h00
  clear hcall hx hq ht htl hend hb hn hm h00
  try clear hf
  generalize be 4 l.length = b4 at *
  have hsf := fun (w : World) (a : Addr) (m : Mode) (b : Nat) => run_store Tryz.prog w a (.float .f64 b) m rfl
  go_enter Tryz.func90, Tryz.ntmps90
  go_wp2_with fail
  refine HQ.out.mono ?_
  rintro _ w1 ⟨v1, rfl, ho1, hb1⟩
  have HO1 := Lib.hid ho1
  have HB1 := Lib.hid hb1
  clear ho1 hb1 HQ
  go_wp2
  go_loopw [5, 13] (fun b i wr => ∃ k : Nat, k ≤ l.length ∧ i = .int .i64 k ∧ wr.ownsRow w.heap.size 5 1 b (b4 ++ (l.take k).flatMap f).length ((b4 ++ (l.take k).flatMap f).map bc) ∧ Below w.heap.size w wr) (fun _ i _ => l.length - (intOf i).toNat)
  case atStart => exact ⟨0, Nat.zero_le _, rfl, by rw [H00.out]; exact HO1.out, HB1.out⟩
  case round =>
    obtain ⟨k, hk, rfl, hown, hb⟩ := hrel
    have HO := Lib.hid hown
    have HB := Lib.hid hb
    clear hown hb HO1 HB1
    by_cases hlt : k < l.length
    · have hltI : (k : Int) < (l.length : Int) := by omega
      obtain ⟨ad, rfl, hbl, hcell⟩ := HX.out k hlt
      have hcell2 := (HB.out.cell (p := ad.add k) (by rw [block_add]; exact hbl)).trans hcell
      have hmem := List.getElem_mem hlt
      have htk := HT.out k hlt
      have hle := HTL.out (k + 1)
      clear hcell
      generalize l[k] = x at *
      have HC := Lib.hid (fun W => HP.out x hmem W)
      rw [htk] at hle
      generalize f x = fx at *
      have HTT := Lib.hid htk
      have HLE := Lib.hid hle
      clear htk hle hmem
      go_wp2_with (first
        | fail
        | (go_at_call 87; refine (HC.out _).mono ?_; rintro e w2 ⟨v2, B2, rfl, hB2, ho2, hb2⟩; have HB2 := Lib.hid (bel2 (bel2 HB.out (Below.refl _ _)) hb2); have HOw := Lib.hid (own_belowX (own_belowX HO.out (Below.refl _ _)) hb2); have HV2 := Lib.hid (own_bs ho2); have hq1 : (b4 ++ (l.take k).flatMap f).length + (fx.map bc).length ≤ maxLen := (by have := HLE.out; rw [List.length_append] at this; rw [List.length_map]; unfold maxLen; omega); have hq2 : ((b4 ++ (l.take k).flatMap f).length + (fx.map bc).length) * 1 ≤ 140737488355328 := (by have := HLE.out; rw [List.length_append] at this; rw [List.length_map]; omega); have HQ2 := Lib.hid (And.intro hq1 hq2); clear ho2 hb2 hq1 hq2)
        | (at_builtin; refine wpList_append_rd _ rfl _ _ 34 rfl w.heap.size 5 i0 (.int .u8 0) 1 Tryz.underlying34 hi hz0 hz1 hz2 rfl _ _ _ rfl HOw.out _ _ rfl HV2.out (bc_one _) HQ2.out.1 HQ2.out.2 HB2.out.size ?_; intro v5 w5 hown5 hgr5; have HB5 := Lib.hid (HB2.out.grown hgr5 HB2.out.size (fun k hk => (HOw.out.lt k hk).1)); rw [← List.map_append, List.length_map, ← List.length_append, ← HTT.out] at hown5))
      go_roundw
      case rel => exact ⟨k + 1, by omega, by go_num, hown5, HB5.out⟩
      case measure => simp [intOf]; omega
    · obtain rfl : k = l.length := by omega
      have hltI : ¬ (l.length : Int) < (l.length : Int) := by omega
      go_wp2
      go_ret
      exact ⟨_, rfl, by rw [← HEND.out]; exact HO.out, HB.out⟩
set_option maxHeartbeats 2000000 in
theorem putL_Field (f : Fld → List UInt8) (A : Option Addr) (cc : Nat) (l : List Fld) (w : World) (hf : FldK w A cc l) (hn : l.length ≤ 1000) (hb : (listB f l).length ≤ 10000000)
    (hcall : ∀ x ∈ l, ∀ (A : Option Addr) (c : Nat) W, Below w.heap.size w W → Ss W (.slice A x.en.length c) x.en → Calls Tryz.prog 49 #[agFl x A c] W (PutsV W (f x))) :
    Calls Tryz.prog 48 #[.slice A l.length cc, .func (Fn.func 49) #[] #[]] w (Puts w (listB f l)) := by
  obtain ⟨i0, hi, hz0, hz1, hz2⟩ := info_parts u8info
  obtain ⟨hc, hm, -, hx⟩ := hf
  unfold maxLen at hm
  have hlen : l.length ≤ 9223372036854775807 := by omega
  have HP := Lib.hid hcall
  have HX := Lib.hid hx
  have hq : Calls Tryz.prog 86 #[.slice none 0 0, .int .i64 l.length] w (Puts w (be 4 l.length)) := by
    have h := PutCount_any (.slice none 0 0) [] l.length w (Bs.nil w) (by simp) (by omega) (by omega)
    rwa [capC_of hn] at h
  have HQ := Lib.hid hq
  have ht : ∀ k (hk : k < l.length), be 4 l.length ++ (l.take (k + 1)).flatMap f = be 4 l.length ++ (l.take k).flatMap f ++ f l[k] := fun k hk => by
    rw [List.take_succ_eq_append_getElem hk, List.flatMap_append, List.append_assoc]; simp
  have htl : ∀ k, (be 4 l.length ++ (l.take k).flatMap f).length ≤ 10000000 := fun k => by
    have h : l.flatMap f = (l.take k).flatMap f ++ (l.drop k).flatMap f := by rw [← List.flatMap_append, List.take_append_drop]
    unfold listB at hb
    rw [h, List.length_append, List.length_append] at hb
    rw [List.length_append]; omega
  have hend : be 4 l.length ++ (l.take l.length).flatMap f = listB f l := by rw [List.take_length]; rfl
  have h00 : be 4 l.length ++ (l.take 0).flatMap f = be 4 l.length := by simp
  have HT := Lib.hid ht
  have HTL := Lib.hid htl
  have HEND := Lib.hid hend
  have H00 := Lib.hid h00
  clear hcall hx hq ht htl hend hb hn hm h00
  try clear hf
  generalize be 4 l.length = b4 at *
  have hsf := fun (w : World) (a : Addr) (m : Mode) (b : Nat) => run_store Tryz.prog w a (.float .f64 b) m rfl
  go_enter Tryz.func48, Tryz.ntmps48
  go_wp2_with fail
  refine HQ.out.mono ?_
  rintro _ w1 ⟨v1, rfl, ho1, hb1⟩
  have HO1 := Lib.hid ho1
  have HB1 := Lib.hid hb1
  clear ho1 hb1 HQ
  go_wp2
  go_loopw [5, 13] (fun b i wr => ∃ k : Nat, k ≤ l.length ∧ i = .int .i64 k ∧ wr.ownsRow w.heap.size 5 1 b (b4 ++ (l.take k).flatMap f).length ((b4 ++ (l.take k).flatMap f).map bc) ∧ Below w.heap.size w wr) (fun _ i _ => l.length - (intOf i).toNat)
  case atStart => exact ⟨0, Nat.zero_le _, rfl, by rw [H00.out]; exact HO1.out, HB1.out⟩
  case round =>
    obtain ⟨k, hk, rfl, hown, hb⟩ := hrel
    have HO := Lib.hid hown
    have HB := Lib.hid hb
    clear hown hb HO1 HB1
    by_cases hlt : k < l.length
    · have hltI : (k : Int) < (l.length : Int) := by omega
      obtain ⟨ad, rfl, hbl, hpart⟩ := HX.out k hlt
      have hpart2 := hpart.below HB.out (by rw [block_add]; exact hbl)
      have hmem := List.getElem_mem hlt
      have htk := HT.out k hlt
      have hle := HTL.out (k + 1)
      generalize l[k] = x at *
      obtain ⟨A, c, hq, hdeep⟩ := hpart2
      have q0 : wr.cell? (ad.add (k * 8)) = some (.string x.f.name) := hq.1
      have q1 : wr.cell? ⟨(ad.add (k * 8)).block, (ad.add (k * 8)).off + 1, none⟩ = some (.int .i64 x.f.kind) := hq.2.1
      have q2 : wr.cell? ⟨(ad.add (k * 8)).block, (ad.add (k * 8)).off + 2, none⟩ = some (.slice A x.en.length c) := hq.2.2.1
      have q3 : wr.cell? ⟨(ad.add (k * 8)).block, (ad.add (k * 8)).off + 3, none⟩ = some (.int .i64 x.y.k) := hq.2.2.2.1
      have q4 : wr.cell? ⟨(ad.add (k * 8)).block, (ad.add (k * 8)).off + 4, none⟩ = some (.int .i64 x.y.i) := hq.2.2.2.2.1
      have q5 : wr.cell? ⟨(ad.add (k * 8)).block, (ad.add (k * 8)).off + 5, none⟩ = some (.bool x.y.b) := hq.2.2.2.2.2.1
      have q6 : wr.cell? ⟨(ad.add (k * 8)).block, (ad.add (k * 8)).off + 6, none⟩ = some (.string x.y.s) := hq.2.2.2.2.2.2.1
      have q7 : wr.cell? ⟨(ad.add (k * 8)).block, (ad.add (k * 8)).off + 7, none⟩ = some (.float .f64 x.y.n) := hq.2.2.2.2.2.2.2
      have HC := Lib.hid (fun o => HP.out x hmem A c (wr.alloc o) (bel2 HB.out (alloc1 wr o)) (Rd.below hdeep (alloc1 wr o) (Nat.le_refl _)))
      clear hpart
      rw [htk] at hle
      generalize f x = fx at *
      have HTT := Lib.hid htk
      have HLE := Lib.hid hle
      clear htk hle hmem
      clear hq hdeep
      go_wp2_with (first
        | fail
        | (go_at_call 49; refine (HC.out _).mono ?_; rintro e w2 ⟨v2, B2, rfl, hB2, ho2, hb2⟩; have HB2 := Lib.hid (bel2 (bel2 HB.out (alloc1 wr _)) hb2); have HOw := Lib.hid (own_belowX (own_belowX HO.out (alloc1 wr _)) hb2); have HV2 := Lib.hid (own_bs ho2); have hq1 : (b4 ++ (l.take k).flatMap f).length + (fx.map bc).length ≤ maxLen := (by have := HLE.out; rw [List.length_append] at this; rw [List.length_map]; unfold maxLen; omega); have hq2 : ((b4 ++ (l.take k).flatMap f).length + (fx.map bc).length) * 1 ≤ 140737488355328 := (by have := HLE.out; rw [List.length_append] at this; rw [List.length_map]; omega); have HQ2 := Lib.hid (And.intro hq1 hq2); clear ho2 hb2 hq1 hq2)
        | (at_builtin; refine wpList_append_rd _ rfl _ _ 34 rfl w.heap.size 5 i0 (.int .u8 0) 1 Tryz.underlying34 hi hz0 hz1 hz2 rfl _ _ _ rfl HOw.out _ _ rfl HV2.out (bc_one _) HQ2.out.1 HQ2.out.2 HB2.out.size ?_; intro v5 w5 hown5 hgr5; have HB5 := Lib.hid (HB2.out.grown hgr5 HB2.out.size (fun k hk => (HOw.out.lt k hk).1)); rw [← List.map_append, List.length_map, ← List.length_append, ← HTT.out] at hown5))
      go_roundw
      case rel => exact ⟨k + 1, by omega, by go_num, hown5, HB5.out⟩
      case measure => simp [intOf]; omega
    · obtain rfl : k = l.length := by omega
      have hltI : ¬ (l.length : Int) < (l.length : Int) := by omega
      go_wp2
      go_ret
      exact ⟨_, rfl, by rw [← HEND.out]; exact HO.out, HB.out⟩
set_option maxHeartbeats 2000000 in
theorem putL_Stage (f : Stg → List UInt8) (A : Option Addr) (cc : Nat) (l : List Stg) (w : World) (hf : StgK w A cc l) (hn : l.length ≤ 1000) (hb : (listB f l).length ≤ 10000000)
    (hcall : ∀ x ∈ l, ∀ (A : Option Addr) (c : Nat) W, Below w.heap.size w W → Is W (.slice A x.orgs.length c) x.orgs → Calls Tryz.prog 51 #[agSt x A c] W (PutsV W (f x))) :
    Calls Tryz.prog 50 #[.slice A l.length cc, .func (Fn.func 51) #[] #[]] w (Puts w (listB f l)) := by
  obtain ⟨i0, hi, hz0, hz1, hz2⟩ := info_parts u8info
  obtain ⟨hc, hm, -, hx⟩ := hf
  unfold maxLen at hm
  have hlen : l.length ≤ 9223372036854775807 := by omega
  have HP := Lib.hid hcall
  have HX := Lib.hid hx
  have hq : Calls Tryz.prog 86 #[.slice none 0 0, .int .i64 l.length] w (Puts w (be 4 l.length)) := by
    have h := PutCount_any (.slice none 0 0) [] l.length w (Bs.nil w) (by simp) (by omega) (by omega)
    rwa [capC_of hn] at h
  have HQ := Lib.hid hq
  have ht : ∀ k (hk : k < l.length), be 4 l.length ++ (l.take (k + 1)).flatMap f = be 4 l.length ++ (l.take k).flatMap f ++ f l[k] := fun k hk => by
    rw [List.take_succ_eq_append_getElem hk, List.flatMap_append, List.append_assoc]; simp
  have htl : ∀ k, (be 4 l.length ++ (l.take k).flatMap f).length ≤ 10000000 := fun k => by
    have h : l.flatMap f = (l.take k).flatMap f ++ (l.drop k).flatMap f := by rw [← List.flatMap_append, List.take_append_drop]
    unfold listB at hb
    rw [h, List.length_append, List.length_append] at hb
    rw [List.length_append]; omega
  have hend : be 4 l.length ++ (l.take l.length).flatMap f = listB f l := by rw [List.take_length]; rfl
  have h00 : be 4 l.length ++ (l.take 0).flatMap f = be 4 l.length := by simp
  have HT := Lib.hid ht
  have HTL := Lib.hid htl
  have HEND := Lib.hid hend
  have H00 := Lib.hid h00
  clear hcall hx hq ht htl hend hb hn hm h00
  try clear hf
  generalize be 4 l.length = b4 at *
  have hsf := fun (w : World) (a : Addr) (m : Mode) (b : Nat) => run_store Tryz.prog w a (.float .f64 b) m rfl
  go_enter Tryz.func50, Tryz.ntmps50
  go_wp2_with fail
  refine HQ.out.mono ?_
  rintro _ w1 ⟨v1, rfl, ho1, hb1⟩
  have HO1 := Lib.hid ho1
  have HB1 := Lib.hid hb1
  clear ho1 hb1 HQ
  go_wp2
  go_loopw [5, 13] (fun b i wr => ∃ k : Nat, k ≤ l.length ∧ i = .int .i64 k ∧ wr.ownsRow w.heap.size 5 1 b (b4 ++ (l.take k).flatMap f).length ((b4 ++ (l.take k).flatMap f).map bc) ∧ Below w.heap.size w wr) (fun _ i _ => l.length - (intOf i).toNat)
  case atStart => exact ⟨0, Nat.zero_le _, rfl, by rw [H00.out]; exact HO1.out, HB1.out⟩
  case round =>
    obtain ⟨k, hk, rfl, hown, hb⟩ := hrel
    have HO := Lib.hid hown
    have HB := Lib.hid hb
    clear hown hb HO1 HB1
    by_cases hlt : k < l.length
    · have hltI : (k : Int) < (l.length : Int) := by omega
      obtain ⟨ad, rfl, hbl, hpart⟩ := HX.out k hlt
      have hpart2 := hpart.below HB.out (by rw [block_add]; exact hbl)
      have hmem := List.getElem_mem hlt
      have htk := HT.out k hlt
      have hle := HTL.out (k + 1)
      generalize l[k] = x at *
      obtain ⟨A, c, h0, h1, h2, hdeep⟩ := hpart2
      have q0 : wr.cell? (ad.add (k * 3)) = some (.string x.name) := h0
      have q1 : wr.cell? ⟨(ad.add (k * 3)).block, (ad.add (k * 3)).off + 1, none⟩ = some (.int .i64 x.need) := h1
      have q2 : wr.cell? ⟨(ad.add (k * 3)).block, (ad.add (k * 3)).off + 2, none⟩ = some (.slice A x.orgs.length c) := h2
      have HC := Lib.hid (fun o => HP.out x hmem A c (wr.alloc o) (bel2 HB.out (alloc1 wr o)) (Rd.below hdeep (alloc1 wr o) (Nat.le_refl _)))
      clear hpart
      rw [htk] at hle
      generalize f x = fx at *
      have HTT := Lib.hid htk
      have HLE := Lib.hid hle
      clear htk hle hmem
      clear hdeep
      go_wp2_with (first
        | fail
        | (go_at_call 51; refine (HC.out _).mono ?_; rintro e w2 ⟨v2, B2, rfl, hB2, ho2, hb2⟩; have HB2 := Lib.hid (bel2 (bel2 HB.out (alloc1 wr _)) hb2); have HOw := Lib.hid (own_belowX (own_belowX HO.out (alloc1 wr _)) hb2); have HV2 := Lib.hid (own_bs ho2); have hq1 : (b4 ++ (l.take k).flatMap f).length + (fx.map bc).length ≤ maxLen := (by have := HLE.out; rw [List.length_append] at this; rw [List.length_map]; unfold maxLen; omega); have hq2 : ((b4 ++ (l.take k).flatMap f).length + (fx.map bc).length) * 1 ≤ 140737488355328 := (by have := HLE.out; rw [List.length_append] at this; rw [List.length_map]; omega); have HQ2 := Lib.hid (And.intro hq1 hq2); clear ho2 hb2 hq1 hq2)
        | (at_builtin; refine wpList_append_rd _ rfl _ _ 34 rfl w.heap.size 5 i0 (.int .u8 0) 1 Tryz.underlying34 hi hz0 hz1 hz2 rfl _ _ _ rfl HOw.out _ _ rfl HV2.out (bc_one _) HQ2.out.1 HQ2.out.2 HB2.out.size ?_; intro v5 w5 hown5 hgr5; have HB5 := Lib.hid (HB2.out.grown hgr5 HB2.out.size (fun k hk => (HOw.out.lt k hk).1)); rw [← List.map_append, List.length_map, ← List.length_append, ← HTT.out] at hown5))
      go_roundw
      case rel => exact ⟨k + 1, by omega, by go_num, hown5, HB5.out⟩
      case measure => simp [intOf]; omega
    · obtain rfl : k = l.length := by omega
      have hltI : ¬ (l.length : Int) < (l.length : Int) := by omega
      go_wp2
      go_ret
      exact ⟨_, rfl, by rw [← HEND.out]; exact HO.out, HB.out⟩
set_option maxHeartbeats 2000000 in
theorem putL_Effect (f : Eff → List UInt8) (A : Option Addr) (cc : Nat) (l : List Eff) (w : World) (hf : EffK w A cc l) (hn : l.length ≤ 1000) (hb : (listB f l).length ≤ 10000000)
    (hcall : ∀ x ∈ l, ∀ (A : Option Addr) (c : Nat) W, Below w.heap.size w W → ExE W A c x.e → Calls Tryz.prog 93 #[agEf x A c] W (PutsV W (f x))) :
    Calls Tryz.prog 92 #[.slice A l.length cc, .func (Fn.func 93) #[] #[]] w (Puts w (listB f l)) := by
  obtain ⟨i0, hi, hz0, hz1, hz2⟩ := info_parts u8info
  obtain ⟨hc, hm, -, hx⟩ := hf
  unfold maxLen at hm
  have hlen : l.length ≤ 9223372036854775807 := by omega
  have HP := Lib.hid hcall
  have HX := Lib.hid hx
  have hq : Calls Tryz.prog 86 #[.slice none 0 0, .int .i64 l.length] w (Puts w (be 4 l.length)) := by
    have h := PutCount_any (.slice none 0 0) [] l.length w (Bs.nil w) (by simp) (by omega) (by omega)
    rwa [capC_of hn] at h
  have HQ := Lib.hid hq
  have ht : ∀ k (hk : k < l.length), be 4 l.length ++ (l.take (k + 1)).flatMap f = be 4 l.length ++ (l.take k).flatMap f ++ f l[k] := fun k hk => by
    rw [List.take_succ_eq_append_getElem hk, List.flatMap_append, List.append_assoc]; simp
  have htl : ∀ k, (be 4 l.length ++ (l.take k).flatMap f).length ≤ 10000000 := fun k => by
    have h : l.flatMap f = (l.take k).flatMap f ++ (l.drop k).flatMap f := by rw [← List.flatMap_append, List.take_append_drop]
    unfold listB at hb
    rw [h, List.length_append, List.length_append] at hb
    rw [List.length_append]; omega
  have hend : be 4 l.length ++ (l.take l.length).flatMap f = listB f l := by rw [List.take_length]; rfl
  have h00 : be 4 l.length ++ (l.take 0).flatMap f = be 4 l.length := by simp
  have HT := Lib.hid ht
  have HTL := Lib.hid htl
  have HEND := Lib.hid hend
  have H00 := Lib.hid h00
  clear hcall hx hq ht htl hend hb hn hm h00
  try clear hf
  generalize be 4 l.length = b4 at *
  have hsf := fun (w : World) (a : Addr) (m : Mode) (b : Nat) => run_store Tryz.prog w a (.float .f64 b) m rfl
  go_enter Tryz.func92, Tryz.ntmps92
  go_wp2_with fail
  refine HQ.out.mono ?_
  rintro _ w1 ⟨v1, rfl, ho1, hb1⟩
  have HO1 := Lib.hid ho1
  have HB1 := Lib.hid hb1
  clear ho1 hb1 HQ
  go_wp2
  go_loopw [5, 13] (fun b i wr => ∃ k : Nat, k ≤ l.length ∧ i = .int .i64 k ∧ wr.ownsRow w.heap.size 5 1 b (b4 ++ (l.take k).flatMap f).length ((b4 ++ (l.take k).flatMap f).map bc) ∧ Below w.heap.size w wr) (fun _ i _ => l.length - (intOf i).toNat)
  case atStart => exact ⟨0, Nat.zero_le _, rfl, by rw [H00.out]; exact HO1.out, HB1.out⟩
  case round =>
    obtain ⟨k, hk, rfl, hown, hb⟩ := hrel
    have HO := Lib.hid hown
    have HB := Lib.hid hb
    clear hown hb HO1 HB1
    by_cases hlt : k < l.length
    · have hltI : (k : Int) < (l.length : Int) := by omega
      obtain ⟨ad, rfl, hbl, hpart⟩ := HX.out k hlt
      have hpart2 := hpart.below HB.out (by rw [block_add]; exact hbl)
      have hmem := List.getElem_mem hlt
      have htk := HT.out k hlt
      have hle := HTL.out (k + 1)
      generalize l[k] = x at *
      obtain ⟨A, c, h0, hk, hdeep⟩ := hpart2
      have q0 : wr.cell? (ad.add (k * 9)) = some (.string x.field) := h0
      have q1 : wr.cell? ⟨(ad.add (k * 9)).block, (ad.add (k * 9)).off + 1, none⟩ = some (.int .i64 x.e.op) := hk.1
      have q2 : wr.cell? ⟨(ad.add (k * 9)).block, (ad.add (k * 9)).off + 2, none⟩ = some (.slice A x.e.kids.length c) := hk.2.1
      have q3 : wr.cell? ⟨(ad.add (k * 9)).block, (ad.add (k * 9)).off + 3, none⟩ = some (.string x.e.name) := hk.2.2.1
      have q4 : wr.cell? ⟨(ad.add (k * 9)).block, (ad.add (k * 9)).off + 4, none⟩ = some (.int .i64 x.e.val.k) := hk.2.2.2.1
      have q5 : wr.cell? ⟨(ad.add (k * 9)).block, (ad.add (k * 9)).off + 5, none⟩ = some (.int .i64 x.e.val.i) := hk.2.2.2.2.1
      have q6 : wr.cell? ⟨(ad.add (k * 9)).block, (ad.add (k * 9)).off + 6, none⟩ = some (.bool x.e.val.b) := hk.2.2.2.2.2.1
      have q7 : wr.cell? ⟨(ad.add (k * 9)).block, (ad.add (k * 9)).off + 7, none⟩ = some (.string x.e.val.s) := hk.2.2.2.2.2.2.1
      have q8 : wr.cell? ⟨(ad.add (k * 9)).block, (ad.add (k * 9)).off + 8, none⟩ = some (.float .f64 x.e.val.n) := hk.2.2.2.2.2.2.2
      have HC := Lib.hid (fun o => HP.out x hmem A c (wr.alloc o) (bel2 HB.out (alloc1 wr o)) (hdeep.below (alloc1 wr o)))
      clear hpart
      rw [htk] at hle
      generalize f x = fx at *
      have HTT := Lib.hid htk
      have HLE := Lib.hid hle
      clear htk hle hmem
      clear hdeep
      go_wp2_with (first
        | fail
        | (go_at_call 93; refine (HC.out _).mono ?_; rintro e w2 ⟨v2, B2, rfl, hB2, ho2, hb2⟩; have HB2 := Lib.hid (bel2 (bel2 HB.out (alloc1 wr _)) hb2); have HOw := Lib.hid (own_belowX (own_belowX HO.out (alloc1 wr _)) hb2); have HV2 := Lib.hid (own_bs ho2); have hq1 : (b4 ++ (l.take k).flatMap f).length + (fx.map bc).length ≤ maxLen := (by have := HLE.out; rw [List.length_append] at this; rw [List.length_map]; unfold maxLen; omega); have hq2 : ((b4 ++ (l.take k).flatMap f).length + (fx.map bc).length) * 1 ≤ 140737488355328 := (by have := HLE.out; rw [List.length_append] at this; rw [List.length_map]; omega); have HQ2 := Lib.hid (And.intro hq1 hq2); clear ho2 hb2 hq1 hq2)
        | (at_builtin; refine wpList_append_rd _ rfl _ _ 34 rfl w.heap.size 5 i0 (.int .u8 0) 1 Tryz.underlying34 hi hz0 hz1 hz2 rfl _ _ _ rfl HOw.out _ _ rfl HV2.out (bc_one _) HQ2.out.1 HQ2.out.2 HB2.out.size ?_; intro v5 w5 hown5 hgr5; have HB5 := Lib.hid (HB2.out.grown hgr5 HB2.out.size (fun k hk => (HOw.out.lt k hk).1)); rw [← List.map_append, List.length_map, ← List.length_append, ← HTT.out] at hown5))
      go_roundw
      case rel => exact ⟨k + 1, by omega, by go_num, hown5, HB5.out⟩
      case measure => simp [intOf]; omega
    · obtain rfl : k = l.length := by omega
      have hltI : ¬ (l.length : Int) < (l.length : Int) := by omega
      go_wp2
      go_ret
      exact ⟨_, rfl, by rw [← HEND.out]; exact HO.out, HB.out⟩
set_option maxHeartbeats 2000000 in
theorem putL_Move (f : Mv → List UInt8) (A : Option Addr) (cc : Nat) (l : List Mv) (w : World) (hf : MvK w A cc l) (hn : l.length ≤ 1000) (hb : (listB f l).length ≤ 10000000)
    (hcall : ∀ x ∈ l, ∀ (A : Option Addr) (c : Nat) (EA : Option Addr) (ec : Nat) W, Below w.heap.size w W → (ExE W A c x.guard ∧ EffK W EA ec x.effs) → Calls Tryz.prog 53 #[agMv x A c EA ec] W (PutsV W (f x))) :
    Calls Tryz.prog 52 #[.slice A l.length cc, .func (Fn.func 53) #[] #[]] w (Puts w (listB f l)) := by
  obtain ⟨i0, hi, hz0, hz1, hz2⟩ := info_parts u8info
  obtain ⟨hc, hm, -, hx⟩ := hf
  unfold maxLen at hm
  have hlen : l.length ≤ 9223372036854775807 := by omega
  have HP := Lib.hid hcall
  have HX := Lib.hid hx
  have hq : Calls Tryz.prog 86 #[.slice none 0 0, .int .i64 l.length] w (Puts w (be 4 l.length)) := by
    have h := PutCount_any (.slice none 0 0) [] l.length w (Bs.nil w) (by simp) (by omega) (by omega)
    rwa [capC_of hn] at h
  have HQ := Lib.hid hq
  have ht : ∀ k (hk : k < l.length), be 4 l.length ++ (l.take (k + 1)).flatMap f = be 4 l.length ++ (l.take k).flatMap f ++ f l[k] := fun k hk => by
    rw [List.take_succ_eq_append_getElem hk, List.flatMap_append, List.append_assoc]; simp
  have htl : ∀ k, (be 4 l.length ++ (l.take k).flatMap f).length ≤ 10000000 := fun k => by
    have h : l.flatMap f = (l.take k).flatMap f ++ (l.drop k).flatMap f := by rw [← List.flatMap_append, List.take_append_drop]
    unfold listB at hb
    rw [h, List.length_append, List.length_append] at hb
    rw [List.length_append]; omega
  have hend : be 4 l.length ++ (l.take l.length).flatMap f = listB f l := by rw [List.take_length]; rfl
  have h00 : be 4 l.length ++ (l.take 0).flatMap f = be 4 l.length := by simp
  have HT := Lib.hid ht
  have HTL := Lib.hid htl
  have HEND := Lib.hid hend
  have H00 := Lib.hid h00
  clear hcall hx hq ht htl hend hb hn hm h00
  try clear hf
  generalize be 4 l.length = b4 at *
  have hsf := fun (w : World) (a : Addr) (m : Mode) (b : Nat) => run_store Tryz.prog w a (.float .f64 b) m rfl
  go_enter Tryz.func52, Tryz.ntmps52
  go_wp2_with fail
  refine HQ.out.mono ?_
  rintro _ w1 ⟨v1, rfl, ho1, hb1⟩
  have HO1 := Lib.hid ho1
  have HB1 := Lib.hid hb1
  clear ho1 hb1 HQ
  go_wp2
  go_loopw [5, 13] (fun b i wr => ∃ k : Nat, k ≤ l.length ∧ i = .int .i64 k ∧ wr.ownsRow w.heap.size 5 1 b (b4 ++ (l.take k).flatMap f).length ((b4 ++ (l.take k).flatMap f).map bc) ∧ Below w.heap.size w wr) (fun _ i _ => l.length - (intOf i).toNat)
  case atStart => exact ⟨0, Nat.zero_le _, rfl, by rw [H00.out]; exact HO1.out, HB1.out⟩
  case round =>
    obtain ⟨k, hk, rfl, hown, hb⟩ := hrel
    have HO := Lib.hid hown
    have HB := Lib.hid hb
    clear hown hb HO1 HB1
    by_cases hlt : k < l.length
    · have hltI : (k : Int) < (l.length : Int) := by omega
      obtain ⟨ad, rfl, hbl, hpart⟩ := HX.out k hlt
      have hpart2 := hpart.below HB.out (by rw [block_add]; exact hbl)
      have hmem := List.getElem_mem hlt
      have htk := HT.out k hlt
      have hle := HTL.out (k + 1)
      generalize l[k] = x at *
      obtain ⟨A, c, EA, ec, h0, h1, h2, hk, he, h11, h12, hek⟩ := hpart2
      have q0 : wr.cell? (ad.add (k * 13)) = some (.string x.name) := h0
      have q1 : wr.cell? ⟨(ad.add (k * 13)).block, (ad.add (k * 13)).off + 1, none⟩ = some (.int .i64 x.frm) := h1
      have q2 : wr.cell? ⟨(ad.add (k * 13)).block, (ad.add (k * 13)).off + 2, none⟩ = some (.int .i64 x.too) := h2
      have q3 : wr.cell? ⟨(ad.add (k * 13)).block, (ad.add (k * 13)).off + 3, none⟩ = some (.int .i64 x.guard.op) := hk.1
      have q4 : wr.cell? ⟨(ad.add (k * 13)).block, (ad.add (k * 13)).off + 4, none⟩ = some (.slice A x.guard.kids.length c) := hk.2.1
      have q5 : wr.cell? ⟨(ad.add (k * 13)).block, (ad.add (k * 13)).off + 5, none⟩ = some (.string x.guard.name) := hk.2.2.1
      have q6 : wr.cell? ⟨(ad.add (k * 13)).block, (ad.add (k * 13)).off + 6, none⟩ = some (.int .i64 x.guard.val.k) := hk.2.2.2.1
      have q7 : wr.cell? ⟨(ad.add (k * 13)).block, (ad.add (k * 13)).off + 7, none⟩ = some (.int .i64 x.guard.val.i) := hk.2.2.2.2.1
      have q8 : wr.cell? ⟨(ad.add (k * 13)).block, (ad.add (k * 13)).off + 8, none⟩ = some (.bool x.guard.val.b) := hk.2.2.2.2.2.1
      have q9 : wr.cell? ⟨(ad.add (k * 13)).block, (ad.add (k * 13)).off + 9, none⟩ = some (.string x.guard.val.s) := hk.2.2.2.2.2.2.1
      have q10 : wr.cell? ⟨(ad.add (k * 13)).block, (ad.add (k * 13)).off + 10, none⟩ = some (.float .f64 x.guard.val.n) := hk.2.2.2.2.2.2.2
      have q11 : wr.cell? ⟨(ad.add (k * 13)).block, (ad.add (k * 13)).off + 11, none⟩ = some (.slice EA x.effs.length ec) := h11
      have q12 : wr.cell? ⟨(ad.add (k * 13)).block, (ad.add (k * 13)).off + 12, none⟩ = some (.int .i64 x.org) := h12
      have HC := Lib.hid (fun o => HP.out x hmem A c EA ec (wr.alloc o) (bel2 HB.out (alloc1 wr o)) ⟨he.below (alloc1 wr o), EffK.below hek (alloc1 wr o)⟩)
      clear hpart
      rw [htk] at hle
      generalize f x = fx at *
      have HTT := Lib.hid htk
      have HLE := Lib.hid hle
      clear htk hle hmem
      clear he hek
      go_wp2_with (first
        | fail
        | (go_at_call 53; refine (HC.out _).mono ?_; rintro e w2 ⟨v2, B2, rfl, hB2, ho2, hb2⟩; have HB2 := Lib.hid (bel2 (bel2 HB.out (alloc1 wr _)) hb2); have HOw := Lib.hid (own_belowX (own_belowX HO.out (alloc1 wr _)) hb2); have HV2 := Lib.hid (own_bs ho2); have hq1 : (b4 ++ (l.take k).flatMap f).length + (fx.map bc).length ≤ maxLen := (by have := HLE.out; rw [List.length_append] at this; rw [List.length_map]; unfold maxLen; omega); have hq2 : ((b4 ++ (l.take k).flatMap f).length + (fx.map bc).length) * 1 ≤ 140737488355328 := (by have := HLE.out; rw [List.length_append] at this; rw [List.length_map]; omega); have HQ2 := Lib.hid (And.intro hq1 hq2); clear ho2 hb2 hq1 hq2)
        | (at_builtin; refine wpList_append_rd _ rfl _ _ 34 rfl w.heap.size 5 i0 (.int .u8 0) 1 Tryz.underlying34 hi hz0 hz1 hz2 rfl _ _ _ rfl HOw.out _ _ rfl HV2.out (bc_one _) HQ2.out.1 HQ2.out.2 HB2.out.size ?_; intro v5 w5 hown5 hgr5; have HB5 := Lib.hid (HB2.out.grown hgr5 HB2.out.size (fun k hk => (HOw.out.lt k hk).1)); rw [← List.map_append, List.length_map, ← List.length_append, ← HTT.out] at hown5))
      go_roundw
      case rel => exact ⟨k + 1, by omega, by go_num, hown5, HB5.out⟩
      case measure => simp [intOf]; omega
    · obtain rfl : k = l.length := by omega
      have hltI : ¬ (l.length : Int) < (l.length : Int) := by omega
      go_wp2
      go_ret
      exact ⟨_, rfl, by rw [← HEND.out]; exact HO.out, HB.out⟩
end Go.Proofs.YthgdnpcfdgimlabGreat

/- Layer 6: effects and moves by themselves, and all of them, by the program. (Made by gen/gencmv.py.) -/
namespace Go.Proofs.YthgdnpcfdgimlabGreat
open Go.RowKit
set_option linter.unusedVariables false
set_option linter.unusedSimpArgs false
set_option maxRecDepth 20000

/-- block b holds these cells -/
def BxA (w : World) (b : Nat) (cs : List Value) : Prop := b < w.heap.size ∧ ∀ (i : Nat) (x : Value), cs[i]? = some x → w.cell? ⟨b, i, none⟩ = some x
theorem BxA.below {w w' : World} {b : Nat} {cs : List Value} (h : BxA w b cs) (hb : Below w.heap.size w w') : BxA w' b cs := ⟨Nat.lt_of_lt_of_le h.1 hb.size, fun i x hx => keepc hb h.1 (h.2 i x hx)⟩
theorem BxA.new (w : World) (cs : List Value) (t : TypeId) : BxA (w.alloc (.cells cs.toArray t)) w.heap.size cs := ⟨by simp, fun i x hx => (cell_of_row _ _ i _ _ (0, 0) (heap_alloc_new w _)).trans (by simpa using hx)⟩
abbrev csC (nm : ByteArray) (FA : Option Addr) (fn fc : Nat) (SA : Option Addr) (sn sc : Nat) (MA : Option Addr) (mn mc : Nat) : List Value := [.string nm, .slice FA fn fc, .slice SA sn sc, .slice MA mn mc]
abbrev csEf (x : Eff) (A : Option Addr) (c : Nat) : List Value := [.string x.field, .int .i64 x.e.op, .slice A x.e.kids.length c, .string x.e.name, .int .i64 x.e.val.k, .int .i64 x.e.val.i, .bool x.e.val.b, .string x.e.val.s, .float .f64 x.e.val.n]
abbrev csMv (x : Mv) (A : Option Addr) (c : Nat) (EA : Option Addr) (ec : Nat) : List Value := [.string x.name, .int .i64 x.frm, .int .i64 x.too, .int .i64 x.guard.op, .slice A x.guard.kids.length c, .string x.guard.name, .int .i64 x.guard.val.k, .int .i64 x.guard.val.i, .bool x.guard.val.b, .string x.guard.val.s, .float .f64 x.guard.val.n, .slice EA x.effs.length ec, .int .i64 x.org]
theorem find_map (nm : ByteArray) (l : List Fld) : placeN nm (l.map fun x => x.f.name) 0 = findX nm (l.map Fld.f) 0 := by
  rw [findX_place, List.map_map]; rfl
theorem size1 (w : World) (o : Obj) : (w.alloc o).heap.size = w.heap.size + 1 := by simp
set_option maxHeartbeats 1000000 in
theorem rightEffect_any (x : Eff) (A : Option Addr) (c : Nat) (ct : Ctr) (FA : Option Addr) (fc : Nat) (SA : Option Addr) (sc : Nat) (MA : Option Addr) (mc : Nat) (w : World) (hx : ExE w A c x.e) (h : CtK w ct FA fc SA sc MA mc) :
    Calls Tryz.prog 177 #[agC ct.name FA ct.fs.length fc SA ct.ss.length sc MA ct.ms.length mc, agEf x A c] w (VMk (.bool (effR (ct.fs.map Fld.f) x)) w) := by
  have HB := Lib.hid (bel2 (alloc1 w (bxC ct.name FA ct.fs.length fc SA ct.ss.length sc MA ct.ms.length mc)) (alloc1 (w.alloc (bxC ct.name FA ct.fs.length fc SA ct.ss.length sc MA ct.ms.length mc)) (.cells (csEf x A c).toArray 65)))
  have HC := Lib.hid ((BxA.new w (csC ct.name FA ct.fs.length fc SA ct.ss.length sc MA ct.ms.length mc) 26).below (alloc1 (w.alloc (bxC ct.name FA ct.fs.length fc SA ct.ss.length sc MA ct.ms.length mc)) (.cells (csEf x A c).toArray 65)))
  have HE := Lib.hid (BxA.new (w.alloc (bxC ct.name FA ct.fs.length fc SA ct.ss.length sc MA ct.ms.length mc)) (csEf x A c) 65)
  have hf := cField_any ct FA fc SA sc MA mc x.field _ (h.below HB.out)
  have htl := fun k W (hb : Below w.heap.size w W) => tells_any x.e A c ct FA fc SA sc MA mc k W (hx.below hb) (h.below hb)
  rw [find_map] at hf
  have HFK := Lib.hid h.f
  have hge := placeN_ge x.field ((ct.fs.map Fld.f).map Fd.name) 0
  have hlt := placeN_lt x.field ((ct.fs.map Fld.f).map Fd.name) 0
  rw [← findX_place] at hge hlt
  rw [List.length_map, List.length_map] at hlt
  rw [size1] at HE
  unfold effR
  have hm := h.f.2.1
  unfold maxLen at hm
  clear h hx
  generalize findX x.field (ct.fs.map Fld.f) 0 = i at *
  have HF := Lib.hid hf
  have HT := Lib.hid htl
  clear hf htl
  have hsf := fun (w : World) (a : Addr) (m : Mode) (b : Nat) => run_store Tryz.prog w a (.float .f64 b) m rfl
  by_cases h0 : 0 ≤ i
  · obtain ⟨k, rfl⟩ := Int.eq_ofNat_of_zero_le h0
    have hk : k < ct.fs.length := by omega
    have hd : decide ((0 : Int) ≤ (k : Int)) = true := decide_eq_true h0
    have hkd : ((((ct.fs.map Fld.f)[((k : Int)).toNat]?).map Fd.kind).getD 0) = ct.fs[k].f.kind := by
      rw [Int.toNat_natCast, List.getElem?_map, List.getElem?_eq_getElem hk]; rfl
    rw [hkd, hd, Bool.true_and]
    have hki : (k : Int) < (ct.fs.length : Int) := by omega
    obtain ⟨ad, e1, e2, fp⟩ := HFK.out.2.2.2 k hk
    have HFP := Lib.hid fp
    clear hkd hge hlt fp
    generalize ct.fs[k] = y at *
    generalize hbv : tellsR x.e (ct.fs.map Fld.f) y.f.kind = b at *
    have HT2 := Lib.hid (fun W hb => (show Calls _ _ _ _ (VMk (.bool b) W) from hbv ▸ HT.out y.f.kind W hb))
    clear hbv HT HFK
    subst e1
    go_enter Tryz.func177, Tryz.ntmps177
    go_wp2_with (first | fail | (go_at_call 13; refine HF.out.mono ?_; rintro e w1 ⟨rfl, hb1⟩))
    have hS0 : ∀ W, Below w1.heap.size w1 W → (fun W => Below w1.heap.size w1 W ∧ W.cell? ⟨(ad.add (k * 8)).block, (ad.add (k * 8)).off + 1, none⟩ = some (.int .i64 y.f.kind) ∧ W.cell? ⟨w.heap.size, 0, none⟩ = some (.string ct.name) ∧ W.cell? ⟨w.heap.size, 1, none⟩ = some (.slice (some ad) ct.fs.length fc) ∧ W.cell? ⟨w.heap.size, 2, none⟩ = some (.slice SA ct.ss.length sc) ∧ W.cell? ⟨w.heap.size, 3, none⟩ = some (.slice MA ct.ms.length mc) ∧ W.cell? ⟨w.heap.size + 1, 0, none⟩ = some (.string x.field) ∧ W.cell? ⟨w.heap.size + 1, 1, none⟩ = some (.int .i64 x.e.op) ∧ W.cell? ⟨w.heap.size + 1, 2, none⟩ = some (.slice A x.e.kids.length c) ∧ W.cell? ⟨w.heap.size + 1, 3, none⟩ = some (.string x.e.name) ∧ W.cell? ⟨w.heap.size + 1, 4, none⟩ = some (.int .i64 x.e.val.k) ∧ W.cell? ⟨w.heap.size + 1, 5, none⟩ = some (.int .i64 x.e.val.i) ∧ W.cell? ⟨w.heap.size + 1, 6, none⟩ = some (.bool x.e.val.b) ∧ W.cell? ⟨w.heap.size + 1, 7, none⟩ = some (.string x.e.val.s) ∧ W.cell? ⟨w.heap.size + 1, 8, none⟩ = some (.float .f64 x.e.val.n)) W := fun W hW => by
      obtain ⟨PA, pc, hq, -⟩ := HFP.out.below (bel2 HB.out (bel2 hb1 hW)) (by rw [block_add]; exact e2)
      exact ⟨hW, hq.2.1, (HC.out.below (bel2 hb1 hW)).2 0 _ rfl, (HC.out.below (bel2 hb1 hW)).2 1 _ rfl, (HC.out.below (bel2 hb1 hW)).2 2 _ rfl, (HC.out.below (bel2 hb1 hW)).2 3 _ rfl, (HE.out.below (bel2 hb1 hW)).2 0 _ rfl, (HE.out.below (bel2 hb1 hW)).2 1 _ rfl, (HE.out.below (bel2 hb1 hW)).2 2 _ rfl, (HE.out.below (bel2 hb1 hW)).2 3 _ rfl, (HE.out.below (bel2 hb1 hW)).2 4 _ rfl, (HE.out.below (bel2 hb1 hW)).2 5 _ rfl, (HE.out.below (bel2 hb1 hW)).2 6 _ rfl, (HE.out.below (bel2 hb1 hW)).2 7 _ rfl, (HE.out.below (bel2 hb1 hW)).2 8 _ rfl⟩
    have HKP := Lib.hid hS0
    have HS0 := Lib.hid (hS0 w1.drew (Below.refl _ _).drew)
    have HB1 := Lib.hid (bel2 HB.out hb1)
    clear hS0 hb1
    go_region_held3 (fun W => Below w1.heap.size w1 W ∧ W.cell? ⟨(ad.add (k * 8)).block, (ad.add (k * 8)).off + 1, none⟩ = some (.int .i64 y.f.kind) ∧ W.cell? ⟨w.heap.size, 0, none⟩ = some (.string ct.name) ∧ W.cell? ⟨w.heap.size, 1, none⟩ = some (.slice (some ad) ct.fs.length fc) ∧ W.cell? ⟨w.heap.size, 2, none⟩ = some (.slice SA ct.ss.length sc) ∧ W.cell? ⟨w.heap.size, 3, none⟩ = some (.slice MA ct.ms.length mc) ∧ W.cell? ⟨w.heap.size + 1, 0, none⟩ = some (.string x.field) ∧ W.cell? ⟨w.heap.size + 1, 1, none⟩ = some (.int .i64 x.e.op) ∧ W.cell? ⟨w.heap.size + 1, 2, none⟩ = some (.slice A x.e.kids.length c) ∧ W.cell? ⟨w.heap.size + 1, 3, none⟩ = some (.string x.e.name) ∧ W.cell? ⟨w.heap.size + 1, 4, none⟩ = some (.int .i64 x.e.val.k) ∧ W.cell? ⟨w.heap.size + 1, 5, none⟩ = some (.int .i64 x.e.val.i) ∧ W.cell? ⟨w.heap.size + 1, 6, none⟩ = some (.bool x.e.val.b) ∧ W.cell? ⟨w.heap.size + 1, 7, none⟩ = some (.string x.e.val.s) ∧ W.cell? ⟨w.heap.size + 1, 8, none⟩ = some (.float .f64 x.e.val.n)) (first | exact HS0.out | exact HKP.out _ HB2.out) (first
      | (go_at_call 127; refine (HT2.out _ (bel2 HB1.out (Below.refl _ _).drew)).mono ?_; rintro e w2 ⟨rfl, hb2⟩; have HB2 := Lib.hid (bel2 (Below.refl w1.heap.size w1).drew hb2)))
    go_wp2
    go_ret
    exact ⟨ret_bool (by simp), bel2 HB1.out HB2.out⟩
  · have hd : decide ((0 : Int) ≤ i) = false := decide_eq_false h0
    rw [hd, Bool.false_and]
    have hneg : i < 0 := by omega
    clear h0 hge hlt
    go_enter Tryz.func177, Tryz.ntmps177
    go_wp2_with (first | fail | (go_at_call 13; refine HF.out.mono ?_; rintro e w1 ⟨rfl, hb1⟩))
    go_quiet (fail)
    go_wp2
    go_ret
    exact ⟨ret_bool (by first | (simp; done) | (simp; omega)), below_drewN (bel2 HB.out hb1) _⟩
/-- the closure that tells whether an effect is right -/
theorem clo2_Effect (p : Nat) (x : Eff) (A : Option Addr) (c : Nat) (ct : Ctr) (FA : Option Addr) (fc : Nat) (SA : Option Addr) (sc : Nat) (MA : Option Addr) (mc : Nat) (w : World) (hbx : BxA w p (csC ct.name FA ct.fs.length fc SA ct.ss.length sc MA ct.ms.length mc)) (hx : ExE w A c x.e) (h : CtK w ct FA fc SA sc MA mc) :
    Calls Tryz.prog 176 #[agEf x A c, .pointer (some ⟨p, 0, none⟩)] w (VMk (.bool (effR (ct.fs.map Fld.f) x)) w) := by
  have hp : p < w.heap.size := hbx.1
  have hne : ¬ w.heap.size = p := by omega
  have h0 := hbx.2 0 _ rfl
  have h1 := hbx.2 1 _ rfl
  have h2 := hbx.2 2 _ rfl
  have h3 := hbx.2 3 _ rfl
  have HC := Lib.hid (fun o => rightEffect_any x A c ct FA fc SA sc MA mc (w.alloc o) (hx.below (alloc1 w o)) (h.below (alloc1 w o)))
  clear h hx hbx
  generalize effR (ct.fs.map Fld.f) x = r at *
  have hsf := fun (w : World) (a : Addr) (m : Mode) (b : Nat) => run_store Tryz.prog w a (.float .f64 b) m rfl
  go_enter Tryz.func176, Tryz.ntmps176
  go_wp2_with (go_at_call 177; refine (HC.out _).mono ?_; rintro e w1 ⟨rfl, hb1⟩)
  go_ret
  exact ⟨rfl, bel2 (alloc1 w _) hb1⟩
set_option maxHeartbeats 1000000 in
theorem rightEffects_any (l : List Eff) (EA : Option Addr) (ec : Nat) (ct : Ctr) (FA : Option Addr) (fc : Nat) (SA : Option Addr) (sc : Nat) (MA : Option Addr) (mc : Nat) (w : World) (hl : EffK w EA ec l) (h : CtK w ct FA fc SA sc MA mc) :
    Calls Tryz.prog 128 #[agC ct.name FA ct.fs.length fc SA ct.ss.length sc MA ct.ms.length mc, .slice EA l.length ec] w (VMk (.bool (effsR (ct.fs.map Fld.f) l)) w) := by
  have hm := hl.2.1
  have hm1 := hl.1
  unfold maxLen at hm
  have hlen : l.length ≤ 9223372036854775807 := by omega
  have hb0 := (bel2 (alloc1 w (bxC ct.name FA ct.fs.length fc SA ct.ss.length sc MA ct.ms.length mc)) (alloc1 (w.alloc (bxC ct.name FA ct.fs.length fc SA ct.ss.length sc MA ct.ms.length mc)) (.cells #[.slice EA l.length ec] 59)))
  have hc := ((BxA.new w (csC ct.name FA ct.fs.length fc SA ct.ss.length sc MA ct.ms.length mc) 26).below (alloc1 (w.alloc (bxC ct.name FA ct.fs.length fc SA ct.ss.length sc MA ct.ms.length mc)) (.cells #[.slice EA l.length ec] 59)))
  have he := (BxA.new (w.alloc (bxC ct.name FA ct.fs.length fc SA ct.ss.length sc MA ct.ms.length mc)) [.slice EA l.length ec] 59)
  rw [size1] at he
  have ho := once_Effect (fun x => placeN x.field (l.map Eff.field) 0) (w.heap.size + 1) EA ec l _ (EffK.below hl hb0) (fun x hx A c W hW => clo1_Effect (w.heap.size + 1) EA ec l x A c W ((he.below hW).2 0 _ rfl) (EffK.below hl (bel2 hb0 hW)))
  have hea := fun W hW => each_Effect w.heap.size (effR (ct.fs.map Fld.f)) EA ec l W (EffK.below hl (bel2 hb0 hW)) (fun x hx A c W2 hW2 hdeep => clo2_Effect w.heap.size x A c ct FA fc SA sc MA mc W2 (hc.below (bel2 hW hW2)) hdeep (h.below (bel2 hb0 (bel2 hW hW2))))
  have HO := Lib.hid ho
  have HE := Lib.hid hea
  have HQ := Lib.hid (fun w1 (hb1 : Below _ _ w1) => (he.below hb1).2 0 _ rfl)
  have HB := Lib.hid hb0
  unfold effsR
  rw [onceN_of]
  clear h ho he hc hea hb0 hl hm hm1
  generalize onceF (fun x => placeN x.field (l.map Eff.field) 0) l 0 = b2 at *
  generalize l.all (effR (ct.fs.map Fld.f)) = b3 at *
  go_enter Tryz.func128, Tryz.ntmps128
  by_cases h4 : (l.length : Int) ≤ 4
  · have hd : decide ((l.length : Int) ≤ 4) = true := decide_eq_true h4
    rw [hd]
    rcases b2 with _ | _
    all_goals
      go_wp2_with (first | fail | (go_at_call 172; refine HO.out.mono ?_; rintro e w1 ⟨rfl, hb1⟩; have hq := HQ.out _ hb1) | (go_at_call 175; refine (HE.out _ hb1).mono ?_; rintro e w2 ⟨rfl, hb2⟩))
      go_ret
      first | exact ⟨ret_bool (by simp), bel2 HB.out hb1⟩ | exact ⟨ret_bool (by simp), bel2 (bel2 HB.out hb1) hb2⟩
  · have hd : decide ((l.length : Int) ≤ 4) = false := decide_eq_false h4
    rw [hd]
    go_wp2
    go_ret
    exact ⟨ret_bool (by first | (simp; done) | (simp; omega)), HB.out⟩
set_option maxHeartbeats 2000000 in
theorem rightMove_any (x : Mv) (A : Option Addr) (c : Nat) (EA : Option Addr) (ec : Nat) (ct : Ctr) (FA : Option Addr) (fc : Nat) (SA : Option Addr) (sc : Nat) (MA : Option Addr) (mc : Nat) (w : World) (hx : ExE w A c x.guard ∧ EffK w EA ec x.effs) (h : CtK w ct FA fc SA sc MA mc) :
    Calls Tryz.prog 80 #[agC ct.name FA ct.fs.length fc SA ct.ss.length sc MA ct.ms.length mc, agMv x A c EA ec] w (VMk (.bool (moveR ct x)) w) := by
  have hm := h.s.2.1
  have hm1 := h.s.1
  unfold maxLen at hm
  have hlen : ct.ss.length ≤ 9223372036854775807 := by omega
  have hw : IntKind.i64.wrap ((ct.ss.length : Int) - 1) = (ct.ss.length : Int) - 1 := by rw [IntKind.wrap_i64]; omega
  have HB := Lib.hid (bel2 (alloc1 w (bxC ct.name FA ct.fs.length fc SA ct.ss.length sc MA ct.ms.length mc)) (alloc1 (w.alloc (bxC ct.name FA ct.fs.length fc SA ct.ss.length sc MA ct.ms.length mc)) (.cells (csMv x A c EA ec).toArray 61)))
  have HC := Lib.hid ((BxA.new w (csC ct.name FA ct.fs.length fc SA ct.ss.length sc MA ct.ms.length mc) 26).below (alloc1 (w.alloc (bxC ct.name FA ct.fs.length fc SA ct.ss.length sc MA ct.ms.length mc)) (.cells (csMv x A c EA ec).toArray 61)))
  have HM := Lib.hid (BxA.new (w.alloc (bxC ct.name FA ct.fs.length fc SA ct.ss.length sc MA ct.ms.length mc)) (csMv x A c EA ec) 61)
  rw [size1] at HM
  have HN := Lib.hid (fun W => isName_any x.name W)
  have HA1 := Lib.hid (fun W => among_any x.frm 0 ((ct.ss.length : Int) - 1) W)
  have HA2 := Lib.hid (fun W => among_any x.too 0 ((ct.ss.length : Int) - 1) W)
  have HA3 := Lib.hid (fun W => among_any x.org (-1) 3 W)
  have HT := Lib.hid (fun W (hb : Below w.heap.size w W) => tells_any x.guard A c ct FA fc SA sc MA mc 2 W (hx.1.below hb) (h.below hb))
  have HE := Lib.hid (fun W (hb : Below w.heap.size w W) => rightEffects_any x.effs EA ec ct FA fc SA sc MA mc W (EffK.below hx.2 hb) (h.below hb))
  unfold moveR
  clear h hx hm hm1
  generalize nameB x.name = b1 at *
  generalize (decide (0 ≤ x.frm) && decide (x.frm ≤ (ct.ss.length : Int) - 1)) = b2 at *
  generalize (decide (0 ≤ x.too) && decide (x.too ≤ (ct.ss.length : Int) - 1)) = b3 at *
  generalize (decide (-1 ≤ x.org) && decide (x.org ≤ 3)) = b4 at *
  generalize tellsR x.guard (ct.fs.map Fld.f) 2 = b5 at *
  generalize effsR (ct.fs.map Fld.f) x.effs = b6 at *
  have hsf := fun (w : World) (a : Addr) (m : Mode) (b : Nat) => run_store Tryz.prog w a (.float .f64 b) m rfl
  go_enter Tryz.func80, Tryz.ntmps80
  rcases b1 with _ | _
  · go_wp2_with (first | fail | (go_at_call 30; refine (HN.out _).mono ?_; rintro e w1 ⟨rfl, rfl⟩))
    go_ret
    exact ⟨ret_bool (by simp), HB.out⟩
  rcases b2 with _ | _
  · go_wp2_with (first | fail | (go_at_call 30; refine (HN.out _).mono ?_; rintro e w1 ⟨rfl, rfl⟩) | (first | (go_at_call_of 67 (x.frm); refine (HA1.out _).mono ?_; rintro e w1 ⟨rfl, rfl⟩) | (go_at_call_of 67 (x.too); refine (HA2.out _).mono ?_; rintro e w1 ⟨rfl, rfl⟩) | (go_at_call_of 67 (x.org); refine (HA3.out _).mono ?_; rintro e w1 ⟨rfl, rfl⟩)))
    go_ret
    exact ⟨ret_bool (by simp), HB.out⟩
  rcases b3 with _ | _
  · go_wp2_with (first | fail | (go_at_call 30; refine (HN.out _).mono ?_; rintro e w1 ⟨rfl, rfl⟩) | (first | (go_at_call_of 67 (x.frm); refine (HA1.out _).mono ?_; rintro e w1 ⟨rfl, rfl⟩) | (go_at_call_of 67 (x.too); refine (HA2.out _).mono ?_; rintro e w1 ⟨rfl, rfl⟩) | (go_at_call_of 67 (x.org); refine (HA3.out _).mono ?_; rintro e w1 ⟨rfl, rfl⟩)))
    go_ret
    exact ⟨ret_bool (by simp), HB.out⟩
  rcases b4 with _ | _
  · go_wp2_with (first | fail | (go_at_call 30; refine (HN.out _).mono ?_; rintro e w1 ⟨rfl, rfl⟩) | (first | (go_at_call_of 67 (x.frm); refine (HA1.out _).mono ?_; rintro e w1 ⟨rfl, rfl⟩) | (go_at_call_of 67 (x.too); refine (HA2.out _).mono ?_; rintro e w1 ⟨rfl, rfl⟩) | (go_at_call_of 67 (x.org); refine (HA3.out _).mono ?_; rintro e w1 ⟨rfl, rfl⟩)))
    go_ret
    exact ⟨ret_bool (by simp), HB.out⟩
  rcases b5 with _ | _
  · go_wp2_with (first | fail | (go_at_call 30; refine (HN.out _).mono ?_; rintro e w1 ⟨rfl, rfl⟩) | (first | (go_at_call_of 67 (x.frm); refine (HA1.out _).mono ?_; rintro e w1 ⟨rfl, rfl⟩) | (go_at_call_of 67 (x.too); refine (HA2.out _).mono ?_; rintro e w1 ⟨rfl, rfl⟩) | (go_at_call_of 67 (x.org); refine (HA3.out _).mono ?_; rintro e w1 ⟨rfl, rfl⟩)) | (go_at_call 127; refine (HT.out _ HB.out).mono ?_; rintro e w1 ⟨rfl, hb1⟩; have c0 := (HC.out.below hb1).2 0 _ rfl; have c1 := (HC.out.below hb1).2 1 _ rfl; have c2 := (HC.out.below hb1).2 2 _ rfl; have c3 := (HC.out.below hb1).2 3 _ rfl; have q0 := (HM.out.below hb1).2 0 _ rfl; have q1 := (HM.out.below hb1).2 1 _ rfl; have q2 := (HM.out.below hb1).2 2 _ rfl; have q3 := (HM.out.below hb1).2 3 _ rfl; have q4 := (HM.out.below hb1).2 4 _ rfl; have q5 := (HM.out.below hb1).2 5 _ rfl; have q6 := (HM.out.below hb1).2 6 _ rfl; have q7 := (HM.out.below hb1).2 7 _ rfl; have q8 := (HM.out.below hb1).2 8 _ rfl; have q9 := (HM.out.below hb1).2 9 _ rfl; have q10 := (HM.out.below hb1).2 10 _ rfl; have q11 := (HM.out.below hb1).2 11 _ rfl; have q12 := (HM.out.below hb1).2 12 _ rfl))
    go_ret
    exact ⟨ret_bool (by simp), bel2 HB.out hb1⟩
  rcases b6 with _ | _
  · go_wp2_with (first | fail | (go_at_call 30; refine (HN.out _).mono ?_; rintro e w1 ⟨rfl, rfl⟩) | (first | (go_at_call_of 67 (x.frm); refine (HA1.out _).mono ?_; rintro e w1 ⟨rfl, rfl⟩) | (go_at_call_of 67 (x.too); refine (HA2.out _).mono ?_; rintro e w1 ⟨rfl, rfl⟩) | (go_at_call_of 67 (x.org); refine (HA3.out _).mono ?_; rintro e w1 ⟨rfl, rfl⟩)) | (go_at_call 127; refine (HT.out _ HB.out).mono ?_; rintro e w1 ⟨rfl, hb1⟩; have c0 := (HC.out.below hb1).2 0 _ rfl; have c1 := (HC.out.below hb1).2 1 _ rfl; have c2 := (HC.out.below hb1).2 2 _ rfl; have c3 := (HC.out.below hb1).2 3 _ rfl; have q0 := (HM.out.below hb1).2 0 _ rfl; have q1 := (HM.out.below hb1).2 1 _ rfl; have q2 := (HM.out.below hb1).2 2 _ rfl; have q3 := (HM.out.below hb1).2 3 _ rfl; have q4 := (HM.out.below hb1).2 4 _ rfl; have q5 := (HM.out.below hb1).2 5 _ rfl; have q6 := (HM.out.below hb1).2 6 _ rfl; have q7 := (HM.out.below hb1).2 7 _ rfl; have q8 := (HM.out.below hb1).2 8 _ rfl; have q9 := (HM.out.below hb1).2 9 _ rfl; have q10 := (HM.out.below hb1).2 10 _ rfl; have q11 := (HM.out.below hb1).2 11 _ rfl; have q12 := (HM.out.below hb1).2 12 _ rfl) | (go_at_call 128; refine (HE.out _ (bel2 HB.out hb1)).mono ?_; rintro e w2 ⟨rfl, hb2⟩))
    go_ret
    exact ⟨ret_bool (by simp), bel2 (bel2 HB.out hb1) hb2⟩
  go_wp2_with (first | fail | (go_at_call 30; refine (HN.out _).mono ?_; rintro e w1 ⟨rfl, rfl⟩) | (first | (go_at_call_of 67 (x.frm); refine (HA1.out _).mono ?_; rintro e w1 ⟨rfl, rfl⟩) | (go_at_call_of 67 (x.too); refine (HA2.out _).mono ?_; rintro e w1 ⟨rfl, rfl⟩) | (go_at_call_of 67 (x.org); refine (HA3.out _).mono ?_; rintro e w1 ⟨rfl, rfl⟩)) | (go_at_call 127; refine (HT.out _ HB.out).mono ?_; rintro e w1 ⟨rfl, hb1⟩; have c0 := (HC.out.below hb1).2 0 _ rfl; have c1 := (HC.out.below hb1).2 1 _ rfl; have c2 := (HC.out.below hb1).2 2 _ rfl; have c3 := (HC.out.below hb1).2 3 _ rfl; have q0 := (HM.out.below hb1).2 0 _ rfl; have q1 := (HM.out.below hb1).2 1 _ rfl; have q2 := (HM.out.below hb1).2 2 _ rfl; have q3 := (HM.out.below hb1).2 3 _ rfl; have q4 := (HM.out.below hb1).2 4 _ rfl; have q5 := (HM.out.below hb1).2 5 _ rfl; have q6 := (HM.out.below hb1).2 6 _ rfl; have q7 := (HM.out.below hb1).2 7 _ rfl; have q8 := (HM.out.below hb1).2 8 _ rfl; have q9 := (HM.out.below hb1).2 9 _ rfl; have q10 := (HM.out.below hb1).2 10 _ rfl; have q11 := (HM.out.below hb1).2 11 _ rfl; have q12 := (HM.out.below hb1).2 12 _ rfl) | (go_at_call 128; refine (HE.out _ (bel2 HB.out hb1)).mono ?_; rintro e w2 ⟨rfl, hb2⟩))
  go_ret
  exact ⟨ret_bool (by simp), bel2 (bel2 HB.out hb1) hb2⟩
theorem clo2_Move (p : Nat) (x : Mv) (A : Option Addr) (c : Nat) (EA : Option Addr) (ec : Nat) (ct : Ctr) (FA : Option Addr) (fc : Nat) (SA : Option Addr) (sc : Nat) (MA : Option Addr) (mc : Nat) (w : World) (hbx : BxA w p (csC ct.name FA ct.fs.length fc SA ct.ss.length sc MA ct.ms.length mc)) (hx : ExE w A c x.guard ∧ EffK w EA ec x.effs) (h : CtK w ct FA fc SA sc MA mc) :
    Calls Tryz.prog 79 #[agMv x A c EA ec, .pointer (some ⟨p, 0, none⟩)] w (VMk (.bool (moveR ct x)) w) := by
  have hp : p < w.heap.size := hbx.1
  have hne : ¬ w.heap.size = p := by omega
  have h0 := hbx.2 0 _ rfl
  have h1 := hbx.2 1 _ rfl
  have h2 := hbx.2 2 _ rfl
  have h3 := hbx.2 3 _ rfl
  have HC := Lib.hid (fun o => rightMove_any x A c EA ec ct FA fc SA sc MA mc (w.alloc o) ⟨hx.1.below (alloc1 w o), EffK.below hx.2 (alloc1 w o)⟩ (h.below (alloc1 w o)))
  clear h hx hbx
  generalize moveR ct x = r at *
  have hsf := fun (w : World) (a : Addr) (m : Mode) (b : Nat) => run_store Tryz.prog w a (.float .f64 b) m rfl
  go_enter Tryz.func79, Tryz.ntmps79
  go_wp2_with (go_at_call 80; refine (HC.out _).mono ?_; rintro e w1 ⟨rfl, hb1⟩)
  go_ret
  exact ⟨rfl, bel2 (alloc1 w _) hb1⟩
end Go.Proofs.YthgdnpcfdgimlabGreat

/- Layer 6: a field, a stage, an effect, a move, a contract as bytes, by the program. (Made by gen/gencput.py.) -/
namespace Go.Proofs.YthgdnpcfdgimlabGreat
open Go.RowKit
set_option linter.unusedVariables false
set_option linter.unusedSimpArgs false
set_option maxRecDepth 20000

set_option maxHeartbeats 4000000 in
theorem putField_any (x : Fld) (A : Option Addr) (c : Nat) (w : World) (hd : Ss w (.slice A x.en.length c) x.en) (hs : FldS x) (hok : okV x.y) :
    Calls Tryz.prog 49 #[agFl x A c] w (PutsV w (fldB x)) := by
  have hle := hs.le
  unfold fldB at hle
  have hq1 : ∀ W, Below w.heap.size w W → Calls Tryz.prog 47 #[.string x.f.name] W (Puts W (texB x.f.name)) := fun W H => putText_any x.f.name W (by have := hs.nm; omega)
  have hq2 : ∀ W, Below w.heap.size w W → Calls Tryz.prog 87 #[.int .i64 x.f.kind] W (Puts W (intB x.f.kind)) := fun W H => putInt_any x.f.kind W
  have hq3 : ∀ W, Below w.heap.size w W → Calls Tryz.prog 88 #[.slice A x.en.length c, .func (Fn.func 47) #[] #[]] W (Puts W (listB texB x.en)) := fun W H => putL_Str texB A c x.en W (hd.below H (Nat.le_refl _)) (by have := hs.en; omega) (by have h1 := listB_len texB 36 x.en (fun s hs2 => by rw [texB_len]; have := hs.tx s hs2; omega); have := hs.en; omega) (fun s hs2 W2 => ((putText_any s W2 (by have := hs.tx s hs2; omega)).mono fun e w3 h => PutsV.of_puts h (Below.refl _ _)))
  have hq4 : ∀ W, Below w.heap.size w W → Calls Tryz.prog 89 #[.slice none 0 0, agV x.y] W (PutsV W (valB x.y)) := fun W H => (by have h := Put_val x.y (.slice none 0 0) [] W (Bs.nil W) (by simp) (by have := hs.vl; omega) hok.2.2; rwa [List.nil_append] at h)
  have hcc : ∀ W v, Bss W v [texB x.f.name, intB x.f.kind, listB texB x.en, valB x.y] → Calls Tryz.prog 46 #[v] W (Puts W ([texB x.f.name, intB x.f.kind, listB texB x.en, valB x.y].flatten)) := fun W v hv => Concat_any v _ W hv (by simp only [List.flatten_cons, List.flatten_nil, List.append_nil, ← List.append_assoc]; omega)
  have hfl : fldB x = [texB x.f.name, intB x.f.kind, listB texB x.en, valB x.y].flatten := by unfold fldB; simp only [List.flatten_cons, List.flatten_nil, List.append_nil, List.append_assoc]
  rw [hfl]
  clear hfl
  generalize texB x.f.name = m1 at *
  generalize intB x.f.kind = m2 at *
  generalize listB texB x.en = m3 at *
  generalize valB x.y = m4 at *
  have Q1 := Lib.hid hq1
  have Q2 := Lib.hid hq2
  have Q3 := Lib.hid hq3
  have Q4 := Lib.hid hq4
  have QC := Lib.hid hcc
  have HA := Lib.hid (BxA.new w [.string x.f.name, .int .i64 x.f.kind, .slice A x.en.length c, .int .i64 x.y.k, .int .i64 x.y.i, .bool x.y.b, .string x.y.s, .float .f64 x.y.n] 55)
  have HW := Lib.hid (alloc1 w (.cells #[.string x.f.name, .int .i64 x.f.kind, .slice A x.en.length c, .int .i64 x.y.k, .int .i64 x.y.i, .bool x.y.b, .string x.y.s, .float .f64 x.y.n] 55))
  clear hle hcc hq1 hq2 hq3 hq4 hd hs hok
  have hsf := fun (w : World) (a : Addr) (m : Mode) (b : Nat) => run_store Tryz.prog w a (.float .f64 b) m rfl
  go_enter Tryz.func49, Tryz.ntmps49
  go_upto_region 1 with fail
  have HWK := Lib.hid (al_lt w (.cells #[.string x.f.name, .int .i64 x.f.kind, .slice A x.en.length c, .int .i64 x.y.k, .int .i64 x.y.i, .bool x.y.b, .string x.y.s, .float .f64 x.y.n] 55))
  generalize hwk : w.alloc (.cells #[.string x.f.name, .int .i64 x.f.kind, .slice A x.en.length c, .int .i64 x.y.k, .int .i64 x.y.i, .bool x.y.b, .string x.y.s, .float .f64 x.y.n] 55) = wk at *
  clear hwk
  have hkp : ∀ W, Below wk.heap.size wk W → (fun W => Below wk.heap.size wk W ∧ W.cell? ⟨w.heap.size, 0, none⟩ = some (.string x.f.name) ∧ W.cell? ⟨w.heap.size, 1, none⟩ = some (.int .i64 x.f.kind) ∧ W.cell? ⟨w.heap.size, 2, none⟩ = some (.slice A x.en.length c) ∧ W.cell? ⟨w.heap.size, 3, none⟩ = some (.int .i64 x.y.k) ∧ W.cell? ⟨w.heap.size, 4, none⟩ = some (.int .i64 x.y.i) ∧ W.cell? ⟨w.heap.size, 5, none⟩ = some (.bool x.y.b) ∧ W.cell? ⟨w.heap.size, 6, none⟩ = some (.string x.y.s) ∧ W.cell? ⟨w.heap.size, 7, none⟩ = some (.float .f64 x.y.n)) W := fun W h => ⟨h, (HA.out.below h).2 0 _ rfl, (HA.out.below h).2 1 _ rfl, (HA.out.below h).2 2 _ rfl, (HA.out.below h).2 3 _ rfl, (HA.out.below h).2 4 _ rfl, (HA.out.below h).2 5 _ rfl, (HA.out.below h).2 6 _ rfl, (HA.out.below h).2 7 _ rfl⟩
  have HKP := Lib.hid hkp
  clear hkp
  have HS0 := Lib.hid (HKP.out wk.drew (Below.refl _ _).drew)
  go_region_held3 (fun W => Below wk.heap.size wk W ∧ W.cell? ⟨w.heap.size, 0, none⟩ = some (.string x.f.name) ∧ W.cell? ⟨w.heap.size, 1, none⟩ = some (.int .i64 x.f.kind) ∧ W.cell? ⟨w.heap.size, 2, none⟩ = some (.slice A x.en.length c) ∧ W.cell? ⟨w.heap.size, 3, none⟩ = some (.int .i64 x.y.k) ∧ W.cell? ⟨w.heap.size, 4, none⟩ = some (.int .i64 x.y.i) ∧ W.cell? ⟨w.heap.size, 5, none⟩ = some (.bool x.y.b) ∧ W.cell? ⟨w.heap.size, 6, none⟩ = some (.string x.y.s) ∧ W.cell? ⟨w.heap.size, 7, none⟩ = some (.float .f64 x.y.n)) (first | exact HS0.out | exact HKP.out _ HB1.out | exact HKP.out _ HB2.out | exact HKP.out _ HB3.out | exact HKP.out _ HB4.out | exact HKP.out _ HB5.out | exact HKP.out _ (bel2 HB4.out (alloc1 _ _))) (first
    | (go_at_call 47; refine (Q1.out _ (bel2 HW.out (Below.refl wk.heap.size wk).drew)).mono ?_; rintro e w1 ⟨v1, rfl, ho1, hb1⟩; obtain ⟨A1, c1, rfl, -⟩ := (own_bs ho1).open; have HO1 := Lib.hid (own_bs ho1); have HB1 := Lib.hid (bel2 (Below.refl wk.heap.size wk).drew hb1); have HL1 := Lib.hid hb1; clear ho1 hb1)
    | (go_at_call 87; refine (Q2.out _ (bel2 HW.out HB1.out)).mono ?_; rintro e w2 ⟨v2, rfl, ho2, hb2⟩; obtain ⟨A2, c2, rfl, -⟩ := (own_bs ho2).open; have HO2 := Lib.hid (own_bs ho2); have HB2 := Lib.hid (bel2 HB1.out hb2); have HL2 := Lib.hid hb2; clear ho2 hb2)
    | (go_at_call 88; refine (Q3.out _ (bel2 HW.out HB2.out)).mono ?_; rintro e w3 ⟨v3, rfl, ho3, hb3⟩; obtain ⟨A3, c3, rfl, -⟩ := (own_bs ho3).open; have HO3 := Lib.hid (own_bs ho3); have HB3 := Lib.hid (bel2 HB2.out hb3); have HL3 := Lib.hid hb3; clear ho3 hb3)
    | (go_at_call 89; refine (Q4.out _ (bel2 HW.out HB3.out)).mono ?_; rintro e w4 ⟨v4, B4, rfl, hB4, ho4, hb4⟩; obtain ⟨A4, c4, rfl, -⟩ := (own_bs ho4).open; have HO4 := Lib.hid (own_bs ho4); have HB4 := Lib.hid (bel2 HB3.out hb4); have HL4 := Lib.hid hb4; clear ho4 hb4)
    | (go_at_call 46; refine (QC.out _ _ (bss_built _ [.slice A1 _ c1, .slice A2 _ c2, .slice A3 _ c3, .slice A4 _ c4] _ 4 rfl (by decide) ⟨(Rd.below (Rd.below (Rd.below HO1.out HL2.out (Nat.le_refl _)) HL3.out (Nat.le_refl _)) HL4.out (Nat.le_refl _)), (Rd.below (Rd.below HO2.out HL3.out (Nat.le_refl _)) HL4.out (Nat.le_refl _)), (Rd.below HO3.out HL4.out (Nat.le_refl _)), HO4.out, trivial⟩)).mono ?_; rintro e w5 ⟨v5, rfl, ho5, hb5⟩; have HB5 := Lib.hid (bel2 (bel2 HB4.out (alloc1 _ _)) hb5)))
  go_wp2_with fail
  go_ret
  exact ⟨_, _, rfl, Nat.le_trans HW.out.size (bel2 HB4.out (alloc1 _ _)).size, ho5, bel2 HW.out HB5.out⟩
set_option maxHeartbeats 4000000 in
theorem putStage_any (x : Stg) (A : Option Addr) (c : Nat) (w : World) (hd : Is w (.slice A x.orgs.length c) x.orgs) (hs : StgS x) :
    Calls Tryz.prog 51 #[agSt x A c] w (PutsV w (stgB x)) := by
  have hle := hs.le
  unfold stgB at hle
  have hq1 : ∀ W, Below w.heap.size w W → Calls Tryz.prog 47 #[.string x.name] W (Puts W (texB x.name)) := fun W H => putText_any x.name W (by have := hs.nm; omega)
  have hq2 : ∀ W, Below w.heap.size w W → Calls Tryz.prog 87 #[.int .i64 x.need] W (Puts W (intB x.need)) := fun W H => putInt_any x.need W
  have hq3 : ∀ W, Below w.heap.size w W → Calls Tryz.prog 90 #[.slice A x.orgs.length c, .func (Fn.func 87) #[] #[]] W (Puts W (listB intB x.orgs)) := fun W H => putL_Int intB A c x.orgs W (Rd.below hd H (Nat.le_refl _)) (by have := hs.og; omega) (by have h1 := listB_len intB 8 x.orgs (fun s hs2 => by rw [intB_len]; omega); have := hs.og; omega) (fun s hs2 W2 => ((putInt_any s W2).mono fun e w3 h => PutsV.of_puts h (Below.refl _ _)))
  have hcc : ∀ W v, Bss W v [texB x.name, intB x.need, listB intB x.orgs] → Calls Tryz.prog 46 #[v] W (Puts W ([texB x.name, intB x.need, listB intB x.orgs].flatten)) := fun W v hv => Concat_any v _ W hv (by simp only [List.flatten_cons, List.flatten_nil, List.append_nil, ← List.append_assoc]; omega)
  have hfl : stgB x = [texB x.name, intB x.need, listB intB x.orgs].flatten := by unfold stgB; simp only [List.flatten_cons, List.flatten_nil, List.append_nil, List.append_assoc]
  rw [hfl]
  clear hfl
  generalize texB x.name = m1 at *
  generalize intB x.need = m2 at *
  generalize listB intB x.orgs = m3 at *
  have Q1 := Lib.hid hq1
  have Q2 := Lib.hid hq2
  have Q3 := Lib.hid hq3
  have QC := Lib.hid hcc
  have HA := Lib.hid (BxA.new w [.string x.name, .int .i64 x.need, .slice A x.orgs.length c] 69)
  have HW := Lib.hid (alloc1 w (.cells #[.string x.name, .int .i64 x.need, .slice A x.orgs.length c] 69))
  clear hle hcc hq1 hq2 hq3 hd hs
  have hsf := fun (w : World) (a : Addr) (m : Mode) (b : Nat) => run_store Tryz.prog w a (.float .f64 b) m rfl
  go_enter Tryz.func51, Tryz.ntmps51
  go_upto_region 1 with fail
  have HWK := Lib.hid (al_lt w (.cells #[.string x.name, .int .i64 x.need, .slice A x.orgs.length c] 69))
  generalize hwk : w.alloc (.cells #[.string x.name, .int .i64 x.need, .slice A x.orgs.length c] 69) = wk at *
  clear hwk
  have hkp : ∀ W, Below wk.heap.size wk W → (fun W => Below wk.heap.size wk W ∧ W.cell? ⟨w.heap.size, 0, none⟩ = some (.string x.name) ∧ W.cell? ⟨w.heap.size, 1, none⟩ = some (.int .i64 x.need) ∧ W.cell? ⟨w.heap.size, 2, none⟩ = some (.slice A x.orgs.length c)) W := fun W h => ⟨h, (HA.out.below h).2 0 _ rfl, (HA.out.below h).2 1 _ rfl, (HA.out.below h).2 2 _ rfl⟩
  have HKP := Lib.hid hkp
  clear hkp
  have HS0 := Lib.hid (HKP.out wk.drew (Below.refl _ _).drew)
  go_region_held3 (fun W => Below wk.heap.size wk W ∧ W.cell? ⟨w.heap.size, 0, none⟩ = some (.string x.name) ∧ W.cell? ⟨w.heap.size, 1, none⟩ = some (.int .i64 x.need) ∧ W.cell? ⟨w.heap.size, 2, none⟩ = some (.slice A x.orgs.length c)) (first | exact HS0.out | exact HKP.out _ HB1.out | exact HKP.out _ HB2.out | exact HKP.out _ HB3.out | exact HKP.out _ HB4.out | exact HKP.out _ (bel2 HB3.out (alloc1 _ _))) (first
    | (go_at_call 47; refine (Q1.out _ (bel2 HW.out (Below.refl wk.heap.size wk).drew)).mono ?_; rintro e w1 ⟨v1, rfl, ho1, hb1⟩; obtain ⟨A1, c1, rfl, -⟩ := (own_bs ho1).open; have HO1 := Lib.hid (own_bs ho1); have HB1 := Lib.hid (bel2 (Below.refl wk.heap.size wk).drew hb1); have HL1 := Lib.hid hb1; clear ho1 hb1)
    | (go_at_call 87; refine (Q2.out _ (bel2 HW.out HB1.out)).mono ?_; rintro e w2 ⟨v2, rfl, ho2, hb2⟩; obtain ⟨A2, c2, rfl, -⟩ := (own_bs ho2).open; have HO2 := Lib.hid (own_bs ho2); have HB2 := Lib.hid (bel2 HB1.out hb2); have HL2 := Lib.hid hb2; clear ho2 hb2)
    | (go_at_call 90; refine (Q3.out _ (bel2 HW.out HB2.out)).mono ?_; rintro e w3 ⟨v3, rfl, ho3, hb3⟩; obtain ⟨A3, c3, rfl, -⟩ := (own_bs ho3).open; have HO3 := Lib.hid (own_bs ho3); have HB3 := Lib.hid (bel2 HB2.out hb3); have HL3 := Lib.hid hb3; clear ho3 hb3)
    | (go_at_call 46; refine (QC.out _ _ (bss_built _ [.slice A1 _ c1, .slice A2 _ c2, .slice A3 _ c3] _ 3 rfl (by decide) ⟨(Rd.below (Rd.below HO1.out HL2.out (Nat.le_refl _)) HL3.out (Nat.le_refl _)), (Rd.below HO2.out HL3.out (Nat.le_refl _)), HO3.out, trivial⟩)).mono ?_; rintro e w4 ⟨v4, rfl, ho4, hb4⟩; have HB4 := Lib.hid (bel2 (bel2 HB3.out (alloc1 _ _)) hb4)))
  go_wp2_with fail
  go_ret
  exact ⟨_, _, rfl, Nat.le_trans HW.out.size (bel2 HB3.out (alloc1 _ _)).size, ho4, bel2 HW.out HB4.out⟩
set_option maxHeartbeats 4000000 in
theorem putEffect_any (x : Eff) (A : Option Addr) (c : Nat) (fs : List Fd) (w : World) (hd : ExE w A c x.e) (hs : EffS fs x) (hok : ∀ k, okX k x.e) :
    Calls Tryz.prog 93 #[agEf x A c] w (PutsV w (effB x)) := by
  obtain ⟨D, hd⟩ := hd
  have hle := hs.le
  unfold effB at hle
  have hq1 : ∀ W, Below w.heap.size w W → Calls Tryz.prog 47 #[.string x.field] W (Puts W (texB x.field)) := fun W H => putText_any x.field W (by have := hs.fd; omega)
  have hq2 : ∀ W, Below w.heap.size w W → Calls Tryz.prog 91 #[.slice none 0 0, agX x.e.op A x.e.kids.length c x.e.name x.e.val] W (PutsV W (putE x.e)) := fun W H => (by have h := ePut_any D x.e A c (.slice none 0 0) [] W (hd.below H (Nat.le_refl _)) (fun _ => hs.ex.tx) (hok 6) (Bs.nil W) (by simp); rwa [List.nil_append] at h)
  have hcc : ∀ W v, Bss W v [texB x.field, putE x.e] → Calls Tryz.prog 46 #[v] W (Puts W ([texB x.field, putE x.e].flatten)) := fun W v hv => Concat_any v _ W hv (by simp only [List.flatten_cons, List.flatten_nil, List.append_nil, ← List.append_assoc]; omega)
  have hfl : effB x = [texB x.field, putE x.e].flatten := by unfold effB; simp only [List.flatten_cons, List.flatten_nil, List.append_nil, List.append_assoc]
  rw [hfl]
  clear hfl
  generalize texB x.field = m1 at *
  generalize putE x.e = m2 at *
  have Q1 := Lib.hid hq1
  have Q2 := Lib.hid hq2
  have QC := Lib.hid hcc
  have HA := Lib.hid (BxA.new w [.string x.field, .int .i64 x.e.op, .slice A x.e.kids.length c, .string x.e.name, .int .i64 x.e.val.k, .int .i64 x.e.val.i, .bool x.e.val.b, .string x.e.val.s, .float .f64 x.e.val.n] 65)
  have HW := Lib.hid (alloc1 w (.cells #[.string x.field, .int .i64 x.e.op, .slice A x.e.kids.length c, .string x.e.name, .int .i64 x.e.val.k, .int .i64 x.e.val.i, .bool x.e.val.b, .string x.e.val.s, .float .f64 x.e.val.n] 65))
  clear hle hcc hq1 hq2 hd hs hok D
  have hsf := fun (w : World) (a : Addr) (m : Mode) (b : Nat) => run_store Tryz.prog w a (.float .f64 b) m rfl
  go_enter Tryz.func93, Tryz.ntmps93
  go_upto_region 1 with fail
  have HWK := Lib.hid (al_lt w (.cells #[.string x.field, .int .i64 x.e.op, .slice A x.e.kids.length c, .string x.e.name, .int .i64 x.e.val.k, .int .i64 x.e.val.i, .bool x.e.val.b, .string x.e.val.s, .float .f64 x.e.val.n] 65))
  generalize hwk : w.alloc (.cells #[.string x.field, .int .i64 x.e.op, .slice A x.e.kids.length c, .string x.e.name, .int .i64 x.e.val.k, .int .i64 x.e.val.i, .bool x.e.val.b, .string x.e.val.s, .float .f64 x.e.val.n] 65) = wk at *
  clear hwk
  have hkp : ∀ W, Below wk.heap.size wk W → (fun W => Below wk.heap.size wk W ∧ W.cell? ⟨w.heap.size, 0, none⟩ = some (.string x.field) ∧ W.cell? ⟨w.heap.size, 1, none⟩ = some (.int .i64 x.e.op) ∧ W.cell? ⟨w.heap.size, 2, none⟩ = some (.slice A x.e.kids.length c) ∧ W.cell? ⟨w.heap.size, 3, none⟩ = some (.string x.e.name) ∧ W.cell? ⟨w.heap.size, 4, none⟩ = some (.int .i64 x.e.val.k) ∧ W.cell? ⟨w.heap.size, 5, none⟩ = some (.int .i64 x.e.val.i) ∧ W.cell? ⟨w.heap.size, 6, none⟩ = some (.bool x.e.val.b) ∧ W.cell? ⟨w.heap.size, 7, none⟩ = some (.string x.e.val.s) ∧ W.cell? ⟨w.heap.size, 8, none⟩ = some (.float .f64 x.e.val.n)) W := fun W h => ⟨h, (HA.out.below h).2 0 _ rfl, (HA.out.below h).2 1 _ rfl, (HA.out.below h).2 2 _ rfl, (HA.out.below h).2 3 _ rfl, (HA.out.below h).2 4 _ rfl, (HA.out.below h).2 5 _ rfl, (HA.out.below h).2 6 _ rfl, (HA.out.below h).2 7 _ rfl, (HA.out.below h).2 8 _ rfl⟩
  have HKP := Lib.hid hkp
  clear hkp
  have HS0 := Lib.hid (HKP.out wk.drew (Below.refl _ _).drew)
  go_region_held3 (fun W => Below wk.heap.size wk W ∧ W.cell? ⟨w.heap.size, 0, none⟩ = some (.string x.field) ∧ W.cell? ⟨w.heap.size, 1, none⟩ = some (.int .i64 x.e.op) ∧ W.cell? ⟨w.heap.size, 2, none⟩ = some (.slice A x.e.kids.length c) ∧ W.cell? ⟨w.heap.size, 3, none⟩ = some (.string x.e.name) ∧ W.cell? ⟨w.heap.size, 4, none⟩ = some (.int .i64 x.e.val.k) ∧ W.cell? ⟨w.heap.size, 5, none⟩ = some (.int .i64 x.e.val.i) ∧ W.cell? ⟨w.heap.size, 6, none⟩ = some (.bool x.e.val.b) ∧ W.cell? ⟨w.heap.size, 7, none⟩ = some (.string x.e.val.s) ∧ W.cell? ⟨w.heap.size, 8, none⟩ = some (.float .f64 x.e.val.n)) (first | exact HS0.out | exact HKP.out _ HB1.out | exact HKP.out _ HB2.out | exact HKP.out _ HB3.out | exact HKP.out _ (bel2 HB2.out (alloc1 _ _))) (first
    | (go_at_call 47; refine (Q1.out _ (bel2 HW.out (Below.refl wk.heap.size wk).drew)).mono ?_; rintro e w1 ⟨v1, rfl, ho1, hb1⟩; obtain ⟨A1, c1, rfl, -⟩ := (own_bs ho1).open; have HO1 := Lib.hid (own_bs ho1); have HB1 := Lib.hid (bel2 (Below.refl wk.heap.size wk).drew hb1); have HL1 := Lib.hid hb1; clear ho1 hb1)
    | (go_at_call 91; refine (Q2.out _ (bel2 HW.out HB1.out)).mono ?_; rintro e w2 ⟨v2, B2, rfl, hB2, ho2, hb2⟩; obtain ⟨A2, c2, rfl, -⟩ := (own_bs ho2).open; have HO2 := Lib.hid (own_bs ho2); have HB2 := Lib.hid (bel2 HB1.out hb2); have HL2 := Lib.hid hb2; clear ho2 hb2)
    | (go_at_call 46; refine (QC.out _ _ (bss_built _ [.slice A1 _ c1, .slice A2 _ c2] _ 2 rfl (by decide) ⟨(Rd.below HO1.out HL2.out (Nat.le_refl _)), HO2.out, trivial⟩)).mono ?_; rintro e w3 ⟨v3, rfl, ho3, hb3⟩; have HB3 := Lib.hid (bel2 (bel2 HB2.out (alloc1 _ _)) hb3)))
  go_wp2_with fail
  go_ret
  exact ⟨_, _, rfl, Nat.le_trans HW.out.size (bel2 HB2.out (alloc1 _ _)).size, ho3, bel2 HW.out HB3.out⟩
set_option maxHeartbeats 4000000 in
theorem putMove_any (ct : Ctr) (x : Mv) (A : Option Addr) (c : Nat) (EA : Option Addr) (ec : Nat) (w : World) (hd : ExE w A c x.guard ∧ EffK w EA ec x.effs) (hs : MvS ct x) (hok : (∀ k, okX k x.guard) ∧ ∀ e ∈ x.effs, ∀ k, okX k e.e) :
    Calls Tryz.prog 53 #[agMv x A c EA ec] w (PutsV w (mvB x)) := by
  obtain ⟨⟨D, hd⟩, he⟩ := hd
  have hle := hs.le
  unfold mvB at hle
  have hq1 : ∀ W, Below w.heap.size w W → Calls Tryz.prog 47 #[.string x.name] W (Puts W (texB x.name)) := fun W H => putText_any x.name W (by have := hs.nm; omega)
  have hq2 : ∀ W, Below w.heap.size w W → Calls Tryz.prog 87 #[.int .i64 x.frm] W (Puts W (intB x.frm)) := fun W H => putInt_any x.frm W
  have hq3 : ∀ W, Below w.heap.size w W → Calls Tryz.prog 87 #[.int .i64 x.too] W (Puts W (intB x.too)) := fun W H => putInt_any x.too W
  have hq4 : ∀ W, Below w.heap.size w W → Calls Tryz.prog 87 #[.int .i64 x.org] W (Puts W (intB x.org)) := fun W H => putInt_any x.org W
  have hq5 : ∀ W, Below w.heap.size w W → Calls Tryz.prog 91 #[.slice none 0 0, agX x.guard.op A x.guard.kids.length c x.guard.name x.guard.val] W (PutsV W (putE x.guard)) := fun W H => (by have h := ePut_any D x.guard A c (.slice none 0 0) [] W (hd.below H (Nat.le_refl _)) (fun _ => hs.gd.tx) (hok.1 6) (Bs.nil W) (by simp); rwa [List.nil_append] at h)
  have hq6 : ∀ W, Below w.heap.size w W → Calls Tryz.prog 92 #[.slice EA x.effs.length ec, .func (Fn.func 93) #[] #[]] W (Puts W (listB effB x.effs)) := fun W H => putL_Effect effB EA ec x.effs W (EffK.below he H) (by have := hs.ef; omega) (by have h1 := listB_len effB 2500 x.effs (fun s hs2 => (hs.es s hs2).le); have := hs.ef; omega) (fun y hy A2 c2 W2 hW2 hdeep => putEffect_any y A2 c2 (ct.fs.map Fld.f) W2 hdeep (hs.es y hy) (hok.2 y hy))
  have hcc : ∀ W v, Bss W v [texB x.name, intB x.frm, intB x.too, intB x.org, putE x.guard, listB effB x.effs] → Calls Tryz.prog 46 #[v] W (Puts W ([texB x.name, intB x.frm, intB x.too, intB x.org, putE x.guard, listB effB x.effs].flatten)) := fun W v hv => Concat_any v _ W hv (by simp only [List.flatten_cons, List.flatten_nil, List.append_nil, ← List.append_assoc]; omega)
  have hfl : mvB x = [texB x.name, intB x.frm, intB x.too, intB x.org, putE x.guard, listB effB x.effs].flatten := by unfold mvB; simp only [List.flatten_cons, List.flatten_nil, List.append_nil, List.append_assoc]
  rw [hfl]
  clear hfl
  generalize texB x.name = m1 at *
  generalize intB x.frm = m2 at *
  generalize intB x.too = m3 at *
  generalize intB x.org = m4 at *
  generalize putE x.guard = m5 at *
  generalize listB effB x.effs = m6 at *
  have Q1 := Lib.hid hq1
  have Q2 := Lib.hid hq2
  have Q3 := Lib.hid hq3
  have Q4 := Lib.hid hq4
  have Q5 := Lib.hid hq5
  have Q6 := Lib.hid hq6
  have QC := Lib.hid hcc
  have HA := Lib.hid (BxA.new w [.string x.name, .int .i64 x.frm, .int .i64 x.too, .int .i64 x.guard.op, .slice A x.guard.kids.length c, .string x.guard.name, .int .i64 x.guard.val.k, .int .i64 x.guard.val.i, .bool x.guard.val.b, .string x.guard.val.s, .float .f64 x.guard.val.n, .slice EA x.effs.length ec, .int .i64 x.org] 61)
  have HW := Lib.hid (alloc1 w (.cells #[.string x.name, .int .i64 x.frm, .int .i64 x.too, .int .i64 x.guard.op, .slice A x.guard.kids.length c, .string x.guard.name, .int .i64 x.guard.val.k, .int .i64 x.guard.val.i, .bool x.guard.val.b, .string x.guard.val.s, .float .f64 x.guard.val.n, .slice EA x.effs.length ec, .int .i64 x.org] 61))
  clear hle hcc hq1 hq2 hq3 hq4 hq5 hq6 hd he hs hok D
  have hsf := fun (w : World) (a : Addr) (m : Mode) (b : Nat) => run_store Tryz.prog w a (.float .f64 b) m rfl
  go_enter Tryz.func53, Tryz.ntmps53
  go_upto_region 1 with fail
  have HWK := Lib.hid (al_lt w (.cells #[.string x.name, .int .i64 x.frm, .int .i64 x.too, .int .i64 x.guard.op, .slice A x.guard.kids.length c, .string x.guard.name, .int .i64 x.guard.val.k, .int .i64 x.guard.val.i, .bool x.guard.val.b, .string x.guard.val.s, .float .f64 x.guard.val.n, .slice EA x.effs.length ec, .int .i64 x.org] 61))
  generalize hwk : w.alloc (.cells #[.string x.name, .int .i64 x.frm, .int .i64 x.too, .int .i64 x.guard.op, .slice A x.guard.kids.length c, .string x.guard.name, .int .i64 x.guard.val.k, .int .i64 x.guard.val.i, .bool x.guard.val.b, .string x.guard.val.s, .float .f64 x.guard.val.n, .slice EA x.effs.length ec, .int .i64 x.org] 61) = wk at *
  clear hwk
  have hkp : ∀ W, Below wk.heap.size wk W → (fun W => Below wk.heap.size wk W ∧ W.cell? ⟨w.heap.size, 0, none⟩ = some (.string x.name) ∧ W.cell? ⟨w.heap.size, 1, none⟩ = some (.int .i64 x.frm) ∧ W.cell? ⟨w.heap.size, 2, none⟩ = some (.int .i64 x.too) ∧ W.cell? ⟨w.heap.size, 3, none⟩ = some (.int .i64 x.guard.op) ∧ W.cell? ⟨w.heap.size, 4, none⟩ = some (.slice A x.guard.kids.length c) ∧ W.cell? ⟨w.heap.size, 5, none⟩ = some (.string x.guard.name) ∧ W.cell? ⟨w.heap.size, 6, none⟩ = some (.int .i64 x.guard.val.k) ∧ W.cell? ⟨w.heap.size, 7, none⟩ = some (.int .i64 x.guard.val.i) ∧ W.cell? ⟨w.heap.size, 8, none⟩ = some (.bool x.guard.val.b) ∧ W.cell? ⟨w.heap.size, 9, none⟩ = some (.string x.guard.val.s) ∧ W.cell? ⟨w.heap.size, 10, none⟩ = some (.float .f64 x.guard.val.n) ∧ W.cell? ⟨w.heap.size, 11, none⟩ = some (.slice EA x.effs.length ec) ∧ W.cell? ⟨w.heap.size, 12, none⟩ = some (.int .i64 x.org)) W := fun W h => ⟨h, (HA.out.below h).2 0 _ rfl, (HA.out.below h).2 1 _ rfl, (HA.out.below h).2 2 _ rfl, (HA.out.below h).2 3 _ rfl, (HA.out.below h).2 4 _ rfl, (HA.out.below h).2 5 _ rfl, (HA.out.below h).2 6 _ rfl, (HA.out.below h).2 7 _ rfl, (HA.out.below h).2 8 _ rfl, (HA.out.below h).2 9 _ rfl, (HA.out.below h).2 10 _ rfl, (HA.out.below h).2 11 _ rfl, (HA.out.below h).2 12 _ rfl⟩
  have HKP := Lib.hid hkp
  clear hkp
  have HS0 := Lib.hid (HKP.out wk.drew (Below.refl _ _).drew)
  go_region_held3 (fun W => Below wk.heap.size wk W ∧ W.cell? ⟨w.heap.size, 0, none⟩ = some (.string x.name) ∧ W.cell? ⟨w.heap.size, 1, none⟩ = some (.int .i64 x.frm) ∧ W.cell? ⟨w.heap.size, 2, none⟩ = some (.int .i64 x.too) ∧ W.cell? ⟨w.heap.size, 3, none⟩ = some (.int .i64 x.guard.op) ∧ W.cell? ⟨w.heap.size, 4, none⟩ = some (.slice A x.guard.kids.length c) ∧ W.cell? ⟨w.heap.size, 5, none⟩ = some (.string x.guard.name) ∧ W.cell? ⟨w.heap.size, 6, none⟩ = some (.int .i64 x.guard.val.k) ∧ W.cell? ⟨w.heap.size, 7, none⟩ = some (.int .i64 x.guard.val.i) ∧ W.cell? ⟨w.heap.size, 8, none⟩ = some (.bool x.guard.val.b) ∧ W.cell? ⟨w.heap.size, 9, none⟩ = some (.string x.guard.val.s) ∧ W.cell? ⟨w.heap.size, 10, none⟩ = some (.float .f64 x.guard.val.n) ∧ W.cell? ⟨w.heap.size, 11, none⟩ = some (.slice EA x.effs.length ec) ∧ W.cell? ⟨w.heap.size, 12, none⟩ = some (.int .i64 x.org)) (first | exact HS0.out | exact HKP.out _ HB1.out | exact HKP.out _ HB2.out | exact HKP.out _ HB3.out | exact HKP.out _ HB4.out | exact HKP.out _ HB5.out | exact HKP.out _ HB6.out | exact HKP.out _ HB7.out | exact HKP.out _ (bel2 HB6.out (alloc1 _ _))) (first
    | (go_at_call 47; refine (Q1.out _ (bel2 HW.out (Below.refl wk.heap.size wk).drew)).mono ?_; rintro e w1 ⟨v1, rfl, ho1, hb1⟩; obtain ⟨A1, c1, rfl, -⟩ := (own_bs ho1).open; have HO1 := Lib.hid (own_bs ho1); have HB1 := Lib.hid (bel2 (Below.refl wk.heap.size wk).drew hb1); have HL1 := Lib.hid hb1; clear ho1 hb1)
    | (go_at_call 87; refine (Q2.out _ (bel2 HW.out HB1.out)).mono ?_; rintro e w2 ⟨v2, rfl, ho2, hb2⟩; obtain ⟨A2, c2, rfl, -⟩ := (own_bs ho2).open; have HO2 := Lib.hid (own_bs ho2); have HB2 := Lib.hid (bel2 HB1.out hb2); have HL2 := Lib.hid hb2; clear ho2 hb2)
    | (go_at_call 87; refine (Q3.out _ (bel2 HW.out HB2.out)).mono ?_; rintro e w3 ⟨v3, rfl, ho3, hb3⟩; obtain ⟨A3, c3, rfl, -⟩ := (own_bs ho3).open; have HO3 := Lib.hid (own_bs ho3); have HB3 := Lib.hid (bel2 HB2.out hb3); have HL3 := Lib.hid hb3; clear ho3 hb3)
    | (go_at_call 87; refine (Q4.out _ (bel2 HW.out HB3.out)).mono ?_; rintro e w4 ⟨v4, rfl, ho4, hb4⟩; obtain ⟨A4, c4, rfl, -⟩ := (own_bs ho4).open; have HO4 := Lib.hid (own_bs ho4); have HB4 := Lib.hid (bel2 HB3.out hb4); have HL4 := Lib.hid hb4; clear ho4 hb4)
    | (go_at_call 91; refine (Q5.out _ (bel2 HW.out HB4.out)).mono ?_; rintro e w5 ⟨v5, B5, rfl, hB5, ho5, hb5⟩; obtain ⟨A5, c5, rfl, -⟩ := (own_bs ho5).open; have HO5 := Lib.hid (own_bs ho5); have HB5 := Lib.hid (bel2 HB4.out hb5); have HL5 := Lib.hid hb5; clear ho5 hb5)
    | (go_at_call 92; refine (Q6.out _ (bel2 HW.out HB5.out)).mono ?_; rintro e w6 ⟨v6, rfl, ho6, hb6⟩; obtain ⟨A6, c6, rfl, -⟩ := (own_bs ho6).open; have HO6 := Lib.hid (own_bs ho6); have HB6 := Lib.hid (bel2 HB5.out hb6); have HL6 := Lib.hid hb6; clear ho6 hb6)
    | (go_at_call 46; refine (QC.out _ _ (bss_built _ [.slice A1 _ c1, .slice A2 _ c2, .slice A3 _ c3, .slice A4 _ c4, .slice A5 _ c5, .slice A6 _ c6] _ 6 rfl (by decide) ⟨(Rd.below (Rd.below (Rd.below (Rd.below (Rd.below HO1.out HL2.out (Nat.le_refl _)) HL3.out (Nat.le_refl _)) HL4.out (Nat.le_refl _)) HL5.out (Nat.le_refl _)) HL6.out (Nat.le_refl _)), (Rd.below (Rd.below (Rd.below (Rd.below HO2.out HL3.out (Nat.le_refl _)) HL4.out (Nat.le_refl _)) HL5.out (Nat.le_refl _)) HL6.out (Nat.le_refl _)), (Rd.below (Rd.below (Rd.below HO3.out HL4.out (Nat.le_refl _)) HL5.out (Nat.le_refl _)) HL6.out (Nat.le_refl _)), (Rd.below (Rd.below HO4.out HL5.out (Nat.le_refl _)) HL6.out (Nat.le_refl _)), (Rd.below HO5.out HL6.out (Nat.le_refl _)), HO6.out, trivial⟩)).mono ?_; rintro e w7 ⟨v7, rfl, ho7, hb7⟩; have HB7 := Lib.hid (bel2 (bel2 HB6.out (alloc1 _ _)) hb7)))
  go_wp2_with fail
  go_ret
  exact ⟨_, _, rfl, Nat.le_trans HW.out.size (bel2 HB6.out (alloc1 _ _)).size, ho7, bel2 HW.out HB7.out⟩
end Go.Proofs.YthgdnpcfdgimlabGreat

/- Layer 6: all fields, all moves, Check, by the program. (Made by gen/gencmv.py.) -/
namespace Go.Proofs.YthgdnpcfdgimlabGreat
open Go.RowKit
set_option linter.unusedVariables false
set_option linter.unusedSimpArgs false
set_option maxRecDepth 20000

set_option maxHeartbeats 1000000 in
theorem rightFields_any (ct : Ctr) (FA : Option Addr) (fc : Nat) (SA : Option Addr) (sc : Nat) (MA : Option Addr) (mc : Nat) (w : World) (h : CtK w ct FA fc SA sc MA mc) :
    Calls Tryz.prog 31 #[agC ct.name FA ct.fs.length fc SA ct.ss.length sc MA ct.ms.length mc] w (VMk (.bool (fieldsR ct)) w) := by
  have hm := h.f.2.1
  have hm1 := h.f.1
  unfold maxLen at hm
  have hlen : ct.fs.length ≤ 9223372036854775807 := by omega
  have hb0 := alloc1 w (bxC ct.name FA ct.fs.length fc SA ct.ss.length sc MA ct.ms.length mc)
  have hc := BxA.new w (csC ct.name FA ct.fs.length fc SA ct.ss.length sc MA ct.ms.length mc) 26
  have ho := once_Field (fun x => placeN x.f.name (ct.fs.map fun x => x.f.name) 0) w.heap.size FA fc ct.fs _ (h.f.below hb0) (fun x hx A c W hW => clo1_Field w.heap.size ct FA fc SA sc MA mc x A c W ((hc.below hW).2 0 _ rfl) ((hc.below hW).2 1 _ rfl) ((hc.below hW).2 2 _ rfl) ((hc.below hW).2 3 _ rfl) (h.below (bel2 hb0 hW)))
  have he := fun W hW => each_Field fieldR FA fc ct.fs W (h.f.below (bel2 hb0 hW)) (fun x hx A c W2 hW2 hI => rightField_any x A c W2 hI)
  have HO := Lib.hid ho
  have HE := Lib.hid he
  have HQ := Lib.hid (fun w1 (hb1 : Below _ _ w1) => (hc.below hb1).2 1 _ rfl)
  have HB := Lib.hid hb0
  unfold fieldsR
  rw [onceN_of]
  clear h ho he hc hb0 hm hm1
  generalize onceF (fun x => placeN x.f.name (ct.fs.map fun x => x.f.name) 0) ct.fs 0 = b2 at *
  generalize ct.fs.all fieldR = b3 at *
  go_enter Tryz.func31, Tryz.ntmps31
  by_cases h4 : (ct.fs.length : Int) ≤ 6
  · have hd : decide ((ct.fs.length : Int) ≤ 6) = true := decide_eq_true h4
    rw [hd]
    rcases b2 with _ | _
    all_goals
      go_wp2_with (first | fail | (go_at_call 68; refine HO.out.mono ?_; rintro e w1 ⟨rfl, hb1⟩; have hq := HQ.out _ hb1) | (go_at_call 70; refine (HE.out _ hb1).mono ?_; rintro e w2 ⟨rfl, hb2⟩))
      go_ret
      first | exact ⟨ret_bool (by simp), bel2 HB.out hb1⟩ | exact ⟨ret_bool (by simp), bel2 (bel2 HB.out hb1) hb2⟩
  · have hd : decide ((ct.fs.length : Int) ≤ 6) = false := decide_eq_false h4
    rw [hd]
    go_wp2
    go_ret
    exact ⟨ret_bool (by first | (simp; done) | (simp; omega)), HB.out⟩
set_option maxHeartbeats 1000000 in
theorem rightMoves_any (ct : Ctr) (FA : Option Addr) (fc : Nat) (SA : Option Addr) (sc : Nat) (MA : Option Addr) (mc : Nat) (w : World) (h : CtK w ct FA fc SA sc MA mc) :
    Calls Tryz.prog 33 #[agC ct.name FA ct.fs.length fc SA ct.ss.length sc MA ct.ms.length mc] w (VMk (.bool (movesR ct)) w) := by
  have hm := h.m.2.1
  have hm1 := h.m.1
  unfold maxLen at hm
  have hlen : ct.ms.length ≤ 9223372036854775807 := by omega
  have hb0 := alloc1 w (bxC ct.name FA ct.fs.length fc SA ct.ss.length sc MA ct.ms.length mc)
  have hc := BxA.new w (csC ct.name FA ct.fs.length fc SA ct.ss.length sc MA ct.ms.length mc) 26
  have ho := once_Move (fun x => placeN x.name (ct.ms.map fun x => x.name) 0) w.heap.size MA mc ct.ms _ (h.m.below hb0) (fun x hx A c EA ec W hW => clo1_Move w.heap.size ct FA fc SA sc MA mc x A c EA ec W ((hc.below hW).2 0 _ rfl) ((hc.below hW).2 1 _ rfl) ((hc.below hW).2 2 _ rfl) ((hc.below hW).2 3 _ rfl) (h.below (bel2 hb0 hW)))
  have he := fun W hW => each_Move w.heap.size (moveR ct) MA mc ct.ms W (h.m.below (bel2 hb0 hW)) (fun x hx A c EA ec W2 hW2 hI => clo2_Move w.heap.size x A c EA ec ct FA fc SA sc MA mc W2 (hc.below (bel2 hW hW2)) hI (h.below (bel2 hb0 (bel2 hW hW2))))
  have HO := Lib.hid ho
  have HE := Lib.hid he
  have HQ := Lib.hid (fun w1 (hb1 : Below _ _ w1) => (hc.below hb1).2 3 _ rfl)
  have HB := Lib.hid hb0
  unfold movesR
  rw [onceN_of]
  clear h ho he hc hb0 hm hm1
  generalize onceF (fun x => placeN x.name (ct.ms.map fun x => x.name) 0) ct.ms 0 = b2 at *
  generalize ct.ms.all (moveR ct) = b3 at *
  go_enter Tryz.func33, Tryz.ntmps33
  by_cases h4 : (ct.ms.length : Int) ≤ 8
  · have hd : decide ((ct.ms.length : Int) ≤ 8) = true := decide_eq_true h4
    rw [hd]
    rcases b2 with _ | _
    all_goals
      go_wp2_with (first | fail | (go_at_call 76; refine HO.out.mono ?_; rintro e w1 ⟨rfl, hb1⟩; have hq := HQ.out _ hb1) | (go_at_call 78; refine (HE.out _ hb1).mono ?_; rintro e w2 ⟨rfl, hb2⟩))
      go_ret
      first | exact ⟨ret_bool (by simp), bel2 HB.out hb1⟩ | exact ⟨ret_bool (by simp), bel2 (bel2 HB.out hb1) hb2⟩
  · have hd : decide ((ct.ms.length : Int) ≤ 8) = false := decide_eq_false h4
    rw [hd]
    go_wp2
    go_ret
    exact ⟨ret_bool (by first | (simp; done) | (simp; omega)), HB.out⟩
set_option maxHeartbeats 2000000 in
theorem cCheck_any (ct : Ctr) (FA : Option Addr) (fc : Nat) (SA : Option Addr) (sc : Nat) (MA : Option Addr) (mc : Nat) (w : World) (h : CtK w ct FA fc SA sc MA mc) :
    Calls Tryz.prog 10 #[agC ct.name FA ct.fs.length fc SA ct.ss.length sc MA ct.ms.length mc] w (VMk (.int .i64 (checkC ct)) w) := by
  have HB := Lib.hid (alloc1 w (bxC ct.name FA ct.fs.length fc SA ct.ss.length sc MA ct.ms.length mc))
  have HC := Lib.hid (BxA.new w (csC ct.name FA ct.fs.length fc SA ct.ss.length sc MA ct.ms.length mc) 26)
  have HN := Lib.hid (fun W => isName_any ct.name W)
  have HF := Lib.hid (fun W (hb : Below w.heap.size w W) => rightFields_any ct FA fc SA sc MA mc W (h.below hb))
  have HS := Lib.hid (fun W (hb : Below w.heap.size w W) => rightStages_any ct FA fc SA sc MA mc W (h.below hb))
  have HM := Lib.hid (fun W (hb : Below w.heap.size w W) => rightMoves_any ct FA fc SA sc MA mc W (h.below hb))
  unfold checkC
  clear h
  generalize nameB ct.name = b1 at *
  generalize fieldsR ct = b2 at *
  generalize stagesR ct = b3 at *
  generalize movesR ct = b4 at *
  go_enter Tryz.func10, Tryz.ntmps10
  rcases b1 with _ | _
  · go_wp2_with (first | fail | (go_at_call 30; refine (HN.out _).mono ?_; rintro e w1 ⟨rfl, rfl⟩))
    go_ret
    exact ⟨rfl, HB.out⟩
  rcases b2 with _ | _
  · go_wp2_with (first | fail | (go_at_call 30; refine (HN.out _).mono ?_; rintro e w1 ⟨rfl, rfl⟩) | (go_at_call 31; refine (HF.out _ (HB.out)).mono ?_; rintro e w2 ⟨rfl, hb2⟩; (try clear c0); (try clear c1); (try clear c2); (try clear c3); have c0 := (HC.out.below (hb2)).2 0 _ rfl; have c1 := (HC.out.below (hb2)).2 1 _ rfl; have c2 := (HC.out.below (hb2)).2 2 _ rfl; have c3 := (HC.out.below (hb2)).2 3 _ rfl))
    go_ret
    exact ⟨rfl, bel2 (HB.out) hb2⟩
  rcases b3 with _ | _
  · go_wp2_with (first | fail | (go_at_call 30; refine (HN.out _).mono ?_; rintro e w1 ⟨rfl, rfl⟩) | (go_at_call 31; refine (HF.out _ (HB.out)).mono ?_; rintro e w2 ⟨rfl, hb2⟩; (try clear c0); (try clear c1); (try clear c2); (try clear c3); have c0 := (HC.out.below (hb2)).2 0 _ rfl; have c1 := (HC.out.below (hb2)).2 1 _ rfl; have c2 := (HC.out.below (hb2)).2 2 _ rfl; have c3 := (HC.out.below (hb2)).2 3 _ rfl) | (go_at_call 32; refine (HS.out _ (bel2 (HB.out) hb2)).mono ?_; rintro e w3 ⟨rfl, hb3⟩; (try clear c0); (try clear c1); (try clear c2); (try clear c3); have c0 := (HC.out.below (bel2 hb2 hb3)).2 0 _ rfl; have c1 := (HC.out.below (bel2 hb2 hb3)).2 1 _ rfl; have c2 := (HC.out.below (bel2 hb2 hb3)).2 2 _ rfl; have c3 := (HC.out.below (bel2 hb2 hb3)).2 3 _ rfl))
    go_ret
    exact ⟨rfl, bel2 (bel2 (HB.out) hb2) hb3⟩
  rcases b4 with _ | _
  · go_wp2_with (first | fail | (go_at_call 30; refine (HN.out _).mono ?_; rintro e w1 ⟨rfl, rfl⟩) | (go_at_call 31; refine (HF.out _ (HB.out)).mono ?_; rintro e w2 ⟨rfl, hb2⟩; (try clear c0); (try clear c1); (try clear c2); (try clear c3); have c0 := (HC.out.below (hb2)).2 0 _ rfl; have c1 := (HC.out.below (hb2)).2 1 _ rfl; have c2 := (HC.out.below (hb2)).2 2 _ rfl; have c3 := (HC.out.below (hb2)).2 3 _ rfl) | (go_at_call 32; refine (HS.out _ (bel2 (HB.out) hb2)).mono ?_; rintro e w3 ⟨rfl, hb3⟩; (try clear c0); (try clear c1); (try clear c2); (try clear c3); have c0 := (HC.out.below (bel2 hb2 hb3)).2 0 _ rfl; have c1 := (HC.out.below (bel2 hb2 hb3)).2 1 _ rfl; have c2 := (HC.out.below (bel2 hb2 hb3)).2 2 _ rfl; have c3 := (HC.out.below (bel2 hb2 hb3)).2 3 _ rfl) | (go_at_call 33; refine (HM.out _ (bel2 (bel2 (HB.out) hb2) hb3)).mono ?_; rintro e w4 ⟨rfl, hb4⟩; (try clear c0); (try clear c1); (try clear c2); (try clear c3); have c0 := (HC.out.below (bel2 (bel2 hb2 hb3) hb4)).2 0 _ rfl; have c1 := (HC.out.below (bel2 (bel2 hb2 hb3) hb4)).2 1 _ rfl; have c2 := (HC.out.below (bel2 (bel2 hb2 hb3) hb4)).2 2 _ rfl; have c3 := (HC.out.below (bel2 (bel2 hb2 hb3) hb4)).2 3 _ rfl))
    go_ret
    exact ⟨rfl, bel2 (bel2 (bel2 (HB.out) hb2) hb3) hb4⟩
  go_wp2_with (first | fail | (go_at_call 30; refine (HN.out _).mono ?_; rintro e w1 ⟨rfl, rfl⟩) | (go_at_call 31; refine (HF.out _ (HB.out)).mono ?_; rintro e w2 ⟨rfl, hb2⟩; (try clear c0); (try clear c1); (try clear c2); (try clear c3); have c0 := (HC.out.below (hb2)).2 0 _ rfl; have c1 := (HC.out.below (hb2)).2 1 _ rfl; have c2 := (HC.out.below (hb2)).2 2 _ rfl; have c3 := (HC.out.below (hb2)).2 3 _ rfl) | (go_at_call 32; refine (HS.out _ (bel2 (HB.out) hb2)).mono ?_; rintro e w3 ⟨rfl, hb3⟩; (try clear c0); (try clear c1); (try clear c2); (try clear c3); have c0 := (HC.out.below (bel2 hb2 hb3)).2 0 _ rfl; have c1 := (HC.out.below (bel2 hb2 hb3)).2 1 _ rfl; have c2 := (HC.out.below (bel2 hb2 hb3)).2 2 _ rfl; have c3 := (HC.out.below (bel2 hb2 hb3)).2 3 _ rfl) | (go_at_call 33; refine (HM.out _ (bel2 (bel2 (HB.out) hb2) hb3)).mono ?_; rintro e w4 ⟨rfl, hb4⟩; (try clear c0); (try clear c1); (try clear c2); (try clear c3); have c0 := (HC.out.below (bel2 (bel2 hb2 hb3) hb4)).2 0 _ rfl; have c1 := (HC.out.below (bel2 (bel2 hb2 hb3) hb4)).2 1 _ rfl; have c2 := (HC.out.below (bel2 (bel2 hb2 hb3) hb4)).2 2 _ rfl; have c3 := (HC.out.below (bel2 (bel2 hb2 hb3) hb4)).2 3 _ rfl))
  go_ret
  exact ⟨rfl, bel2 (bel2 (bel2 (HB.out) hb2) hb3) hb4⟩
end Go.Proofs.YthgdnpcfdgimlabGreat

/- Layer 6: Put of a contract, by the program. (Made by gen/gencput2.py.) -/
namespace Go.Proofs.YthgdnpcfdgimlabGreat
open Go.RowKit
set_option linter.unusedVariables false
set_option linter.unusedSimpArgs false
set_option maxRecDepth 20000

theorem putC_bad {c : Ctr} (h : checkC c ≠ 0) : putC c = [] := if_neg h
theorem putC_good {c : Ctr} (h : checkC c = 0) : putC c = ctrB c := if_pos h
set_option maxHeartbeats 4000000 in
theorem cPut_any (ct : Ctr) (FA : Option Addr) (fc : Nat) (SA : Option Addr) (sc : Nat) (MA : Option Addr) (mc : Nat) (v : Value) (l : List UInt8) (w : World) (h : CtK w ct FA fc SA sc MA mc) (hok : okC ct) (hv : Bs w v l) (hl : l.length ≤ 5000) :
    Calls Tryz.prog 20 #[v, agC ct.name FA ct.fs.length fc SA ct.ss.length sc MA ct.ms.length mc] w (PutsV w (l ++ putC ct)) := by
  have HCK := Lib.hid (fun W (hb : Below w.heap.size w W) => cCheck_any ct FA fc SA sc MA mc W (h.below hb))
  have HB0 := Lib.hid (alloc1 w (bxC ct.name FA ct.fs.length fc SA ct.ss.length sc MA ct.ms.length mc))
  have HC := Lib.hid (BxA.new w (csC ct.name FA ct.fs.length fc SA ct.ss.length sc MA ct.ms.length mc) 26)
  have HCL := Lib.hid (fun W (hb : Below w.heap.size w W) => Clone_puts v l W (Rd.below hv hb (Nat.le_refl _)) (by omega))
  by_cases h0 : checkC ct = 0
  case neg =>
    have hb : (checkC ct != 0) = true := by simpa using h0
    rw [putC_bad h0, List.append_nil]
    clear h0 h hok hv hl
    generalize checkC ct = r at *
    go_enter Tryz.func20, Tryz.ntmps20
    go_wp2_with (first
      | fail
      | (go_at_call 10; refine (HCK.out _ HB0.out).mono ?_; rintro e w1 ⟨rfl, hb1⟩)
      | (go_at_call 45; refine (HCL.out _ (bel2 HB0.out hb1)).mono ?_; rintro e w2 ⟨v2, rfl, ho2, hb2⟩))
    go_ret
    exact ⟨_, _, rfl, (bel2 HB0.out hb1).size, ho2, bel2 (bel2 HB0.out hb1) hb2⟩
  have hs := ctr_short hok h0
  have hle := hs.le
  rw [h0] at HCK
  rw [putC_good h0]
  unfold ctrB at hle ⊢
  have hq1 : ∀ W, Below w.heap.size w W → Calls Tryz.prog 47 #[.string ct.name] W (Puts W (texB ct.name)) := fun W H => putText_any ct.name W (by have := hs.nm; omega)
  have hq2 : ∀ W, Below w.heap.size w W → Calls Tryz.prog 48 #[.slice FA ct.fs.length fc, .func (Fn.func 49) #[] #[]] W (Puts W (listB fldB ct.fs)) := fun W H => putL_Field fldB FA fc ct.fs W (h.f.below H) (by have := hs.fn; omega) (by have h1 := listB_len fldB 300 ct.fs (fun f hf => (hs.fs f hf).le); have := hs.fn; omega) (fun x hx A c W2 hW2 hd => putField_any x A c W2 hd (hs.fs x hx) (hok.y x hx).1)
  have hq3 : ∀ W, Below w.heap.size w W → Calls Tryz.prog 50 #[.slice SA ct.ss.length sc, .func (Fn.func 51) #[] #[]] W (Puts W (listB stgB ct.ss)) := fun W H => putL_Stage stgB SA sc ct.ss W (h.s.below H) (by have := hs.sn; omega) (by have h1 := listB_len stgB 100 ct.ss (fun f hf => (hs.ss f hf).le); have := hs.sn; omega) (fun x hx A c W2 hW2 hd => putStage_any x A c W2 hd (hs.ss x hx))
  have hq4 : ∀ W, Below w.heap.size w W → Calls Tryz.prog 52 #[.slice MA ct.ms.length mc, .func (Fn.func 53) #[] #[]] W (Puts W (listB mvB ct.ms)) := fun W H => putL_Move mvB MA mc ct.ms W (h.m.below H) (by have := hs.mn; omega) (by have h1 := listB_len mvB 13000 ct.ms (fun f hf => (hs.ms f hf).le); have := hs.mn; omega) (fun x hx A c EA ec W2 hW2 hd => putMove_any ct x A c EA ec W2 hd (hs.ms x hx) ⟨(hok.m x hx).2.2.2.1, (hok.m x hx).2.2.2.2⟩)
  have hcc : ∀ W u, Bss W u [l, texB ct.name, listB fldB ct.fs, listB stgB ct.ss, listB mvB ct.ms] → Calls Tryz.prog 46 #[u] W (Puts W ([l, texB ct.name, listB fldB ct.fs, listB stgB ct.ss, listB mvB ct.ms].flatten)) := fun W u hu => Concat_any u _ W hu (by simp only [List.flatten_cons, List.flatten_nil, List.append_nil, List.length_append] at hle ⊢; omega)
  have hfl : l ++ (texB ct.name ++ listB fldB ct.fs ++ listB stgB ct.ss ++ listB mvB ct.ms) = [l, texB ct.name, listB fldB ct.fs, listB stgB ct.ss, listB mvB ct.ms].flatten := by simp only [List.flatten_cons, List.flatten_nil, List.append_nil, List.append_assoc]
  rw [hfl]
  clear hfl
  generalize texB ct.name = m1 at *
  generalize listB fldB ct.fs = m2 at *
  generalize listB stgB ct.ss = m3 at *
  generalize listB mvB ct.ms = m4 at *
  obtain ⟨bA, bc0, rfl, -⟩ := hv.open
  have HBV := Lib.hid hv
  have Q1 := Lib.hid hq1
  have Q2 := Lib.hid hq2
  have Q3 := Lib.hid hq3
  have Q4 := Lib.hid hq4
  have QC := Lib.hid hcc
  have hbz : ((0 : Int) != 0) = false := rfl
  clear hcc hq1 hq2 hq3 hq4 hle hs h0 h hok hv hl HCL
  go_enter Tryz.func20, Tryz.ntmps20
  go_wp2_with (first
    | fail
    | (go_at_call 10; refine (HCK.out _ HB0.out).mono ?_; rintro e w1 ⟨rfl, hb1⟩))
  have HKP := Lib.hid (show ∀ W, Below w1.heap.size w1 W → (fun W => Below w1.heap.size w1 W ∧ W.cell? ⟨w.heap.size, 0, none⟩ = some (.string ct.name) ∧ W.cell? ⟨w.heap.size, 1, none⟩ = some (.slice FA ct.fs.length fc) ∧ W.cell? ⟨w.heap.size, 2, none⟩ = some (.slice SA ct.ss.length sc) ∧ W.cell? ⟨w.heap.size, 3, none⟩ = some (.slice MA ct.ms.length mc)) W from fun W h => ⟨h, (HC.out.below (bel2 hb1 h)).2 0 _ rfl, (HC.out.below (bel2 hb1 h)).2 1 _ rfl, (HC.out.below (bel2 hb1 h)).2 2 _ rfl, (HC.out.below (bel2 hb1 h)).2 3 _ rfl⟩)
  have HW := Lib.hid (bel2 HB0.out hb1)
  clear hb1
  have HS0 := Lib.hid (HKP.out w1.drew (Below.refl _ _).drew)
  go_region_held3 (fun W => Below w1.heap.size w1 W ∧ W.cell? ⟨w.heap.size, 0, none⟩ = some (.string ct.name) ∧ W.cell? ⟨w.heap.size, 1, none⟩ = some (.slice FA ct.fs.length fc) ∧ W.cell? ⟨w.heap.size, 2, none⟩ = some (.slice SA ct.ss.length sc) ∧ W.cell? ⟨w.heap.size, 3, none⟩ = some (.slice MA ct.ms.length mc)) (first | exact HS0.out | exact HKP.out _ HB1.out | exact HKP.out _ HB2.out | exact HKP.out _ HB3.out | exact HKP.out _ HB4.out | exact HKP.out _ HB5.out | exact HKP.out _ (bel2 HB4.out (alloc1 _ _))) (first
    | (go_at_call 47; refine (Q1.out _ (bel2 HW.out (Below.refl w1.heap.size w1).drew)).mono ?_; rintro e w2 ⟨v1, rfl, ho1, hb1⟩; obtain ⟨A1, c1, rfl, -⟩ := (own_bs ho1).open; have HO1 := Lib.hid (own_bs ho1); have HB1 := Lib.hid (bel2 (Below.refl w1.heap.size w1).drew hb1); have HL1 := Lib.hid hb1; clear ho1 hb1)
    | (go_at_call 48; refine (Q2.out _ (bel2 HW.out HB1.out)).mono ?_; rintro e w3 ⟨v2, rfl, ho2, hb2⟩; obtain ⟨A2, c2, rfl, -⟩ := (own_bs ho2).open; have HO2 := Lib.hid (own_bs ho2); have HB2 := Lib.hid (bel2 HB1.out hb2); have HL2 := Lib.hid hb2; clear ho2 hb2)
    | (go_at_call 50; refine (Q3.out _ (bel2 HW.out HB2.out)).mono ?_; rintro e w4 ⟨v3, rfl, ho3, hb3⟩; obtain ⟨A3, c3, rfl, -⟩ := (own_bs ho3).open; have HO3 := Lib.hid (own_bs ho3); have HB3 := Lib.hid (bel2 HB2.out hb3); have HL3 := Lib.hid hb3; clear ho3 hb3)
    | (go_at_call 52; refine (Q4.out _ (bel2 HW.out HB3.out)).mono ?_; rintro e w5 ⟨v4, rfl, ho4, hb4⟩; obtain ⟨A4, c4, rfl, -⟩ := (own_bs ho4).open; have HO4 := Lib.hid (own_bs ho4); have HB4 := Lib.hid (bel2 HB3.out hb4); have HL4 := Lib.hid hb4; clear ho4 hb4)
    | (go_at_call 46; refine (QC.out _ _ (bss_built _ [.slice bA _ bc0, .slice A1 _ c1, .slice A2 _ c2, .slice A3 _ c3, .slice A4 _ c4] _ 5 rfl (by decide) ⟨(Rd.below HBV.out (bel2 HW.out HB4.out) (Nat.le_refl _)), (Rd.below (Rd.below (Rd.below HO1.out HL2.out (Nat.le_refl _)) HL3.out (Nat.le_refl _)) HL4.out (Nat.le_refl _)), (Rd.below (Rd.below HO2.out HL3.out (Nat.le_refl _)) HL4.out (Nat.le_refl _)), (Rd.below HO3.out HL4.out (Nat.le_refl _)), HO4.out, trivial⟩)).mono ?_; rintro e w9 ⟨v9, rfl, ho9, hb9⟩; have HB5 := Lib.hid (bel2 (bel2 HB4.out (alloc1 _ _)) hb9)))
  go_wp2_with fail
  go_ret
  exact ⟨_, _, rfl, Nat.le_trans HW.out.size (bel2 HB4.out (alloc1 _ _)).size, ho9, bel2 HW.out HB5.out⟩
end Go.Proofs.YthgdnpcfdgimlabGreat

/- Layer 6: chapter 6's examples by definition, and as they are made. -/
namespace Go.Proofs.YthgdnpcfdgimlabGreat
open Go.RowKit
set_option linter.unusedVariables false
set_option linter.unusedSimpArgs false
set_option maxRecDepth 20000

def fldN : Fld := ⟨⟨⟨#[110]⟩, 1⟩, [], vInt 0⟩
def stgS : Stg := ⟨⟨#[115]⟩, 0, []⟩
def stgT : Stg := ⟨⟨#[116]⟩, 1, [0, 2]⟩
def mvYes : Mv := ⟨⟨#[109]⟩, 0, 1, conX (vTruth true), [], -1⟩
def mvInt : Mv := ⟨⟨#[109]⟩, 0, 0, conX (vInt 0), [], -1⟩
def ctOne : Ctr := ⟨⟨#[99]⟩, [fldN], [stgS, stgT], [mvYes]⟩
def ctNoS : Ctr := ⟨⟨#[99]⟩, [fldN], [], []⟩
def ctInt : Ctr := ⟨⟨#[99]⟩, [fldN], [stgS, stgT], [mvInt]⟩
def ctTwo : Ctr := ⟨⟨#[99]⟩, [fldN, fldN], [stgS, stgT], [mvYes]⟩
theorem once_one (nm : ByteArray) : onceN [nm] = true := by
  rw [onceN_iff]
  intro i hi
  have h0 : i = 0 := by have : i < 1 := hi; omega
  subst h0
  show placeN nm [nm] 0 = 0
  unfold placeN
  rw [if_pos (beq_self_eq_true _)]
  rfl
theorem once_dup (nm : ByteArray) : onceN [nm, nm] = false := by
  rw [← Bool.not_eq_true, onceN_iff]
  intro h
  have h1 := h 1 (by show 1 < 2; omega)
  have h2 : placeN nm [nm, nm] 0 = 1 := h1
  unfold placeN at h2
  rw [if_pos (beq_self_eq_true _)] at h2
  exact absurd h2 (by decide)
theorem ne_ts : ((⟨#[115]⟩ : ByteArray).toList == (⟨#[116]⟩ : ByteArray).toList) = false := by
  rw [ByteArray.toList_eq, ByteArray.toList_eq]
  decide
theorem place_t : placeN ⟨#[116]⟩ [⟨#[115]⟩, ⟨#[116]⟩] 0 = 1 := by
  unfold placeN
  rw [ne_ts, if_neg (by decide)]
  unfold placeN
  rw [if_pos (beq_self_eq_true _)]
  rfl
theorem place_s : placeN ⟨#[115]⟩ [⟨#[115]⟩, ⟨#[116]⟩] 0 = 0 := by
  unfold placeN
  rw [if_pos (beq_self_eq_true _)]
  rfl
theorem once_st : onceN [⟨#[115]⟩, ⟨#[116]⟩] = true := by
  rw [onceN_iff]
  intro i hi
  match i, hi with
  | 0, _ => exact place_s
  | 1, _ => exact place_t
theorem fldN_right : fieldR fldN = true := by
  have h : fitsV (vInt 0) 1 [] = 0 := by unfold fitsV; rw [good_int]; rfl
  have h1 : fitsV fldN.y fldN.f.kind fldN.en = 0 := h
  unfold fieldR
  rw [h1]
  rfl
theorem stgs_right : [stgS, stgT].all stageR = true := by decide
theorem fields_one (ss : List Stg) (ms : List Mv) : fieldsR ⟨⟨#[99]⟩, [fldN], ss, ms⟩ = true := by
  unfold fieldsR
  have h : onceN ([fldN].map fun f => f.f.name) = true := once_one _
  have h2 : [fldN].all fieldR = true := by rw [List.all_cons, fldN_right]; rfl
  show (decide ((([fldN].length : Nat) : Int) ≤ 6) && onceN ([fldN].map fun f => f.f.name) && [fldN].all fieldR) = true
  rw [h, h2]
  rfl
theorem fields_two : fieldsR ctTwo = false := by
  unfold fieldsR
  have h : onceN (ctTwo.fs.map fun f => f.f.name) = false := once_dup _
  rw [h, Bool.and_false, Bool.false_and]
theorem stages_st (fs : List Fld) (ms : List Mv) : stagesR ⟨⟨#[99]⟩, fs, [stgS, stgT], ms⟩ = true := by
  unfold stagesR
  have h : onceN ([stgS, stgT].map Stg.name) = true := once_st
  show ((decide (1 ≤ (([stgS, stgT].length : Nat) : Int)) && decide ((([stgS, stgT].length : Nat) : Int) ≤ 6)) && onceN ([stgS, stgT].map Stg.name) && [stgS, stgT].all stageR) = true
  rw [h, stgs_right]
  rfl
theorem check_con (v : Vl) (fs : List Fd) (hg : goodV v = true) : checkX (conX v) fs = (v.k, 0) := by
  unfold checkX
  rw [if_pos (show smallX (conX v) = true from rfl)]
  exact chk_con 5 v fs hg
theorem one_right : checkC ctOne = 0 := by
  have h4 : movesR ctOne = true := by
    have h1 : onceN (ctOne.ms.map Mv.name) = true := once_one _
    have h2 : moveR ctOne mvYes = true := by
      have ht : tellsR mvYes.guard (ctOne.fs.map Fld.f) 2 = true := by
        unfold tellsR
        rw [show checkX mvYes.guard (ctOne.fs.map Fld.f) = (2, 0) from check_con _ _ (good_truth true)]
        rfl
      unfold moveR
      rw [ht, show effsR (ctOne.fs.map Fld.f) mvYes.effs = true from rfl]
      rfl
    have h3 : ctOne.ms.all (moveR ctOne) = true := by
      show [mvYes].all (moveR ctOne) = true
      rw [List.all_cons, h2]; rfl
    unfold movesR
    rw [h1, h3]
    rfl
  unfold checkC
  rw [show nameB ctOne.name = true from rfl, show fieldsR ctOne = true from fields_one _ _, show stagesR ctOne = true from stages_st _ _, h4]
  rfl
theorem noS_wrong : checkC ctNoS = 61 := by
  unfold checkC
  rw [show nameB ctNoS.name = true from rfl, show fieldsR ctNoS = true from fields_one _ _, show stagesR ctNoS = false from rfl]
  rfl
theorem int_wrong : checkC ctInt = 62 := by
  have h4 : movesR ctInt = false := by
    have h2 : moveR ctInt mvInt = false := by
      have ht : tellsR mvInt.guard (ctInt.fs.map Fld.f) 2 = false := by
        unfold tellsR
        rw [show checkX mvInt.guard (ctInt.fs.map Fld.f) = (1, 0) from check_con _ _ (good_int 0)]
        rfl
      unfold moveR
      rw [ht, Bool.and_false, Bool.false_and]
    have h3 : ctInt.ms.all (moveR ctInt) = false := by
      show [mvInt].all (moveR ctInt) = false
      rw [List.all_cons, h2]; rfl
    unfold movesR
    rw [h3, Bool.and_false]
  unfold checkC
  rw [show nameB ctInt.name = true from rfl, show fieldsR ctInt = true from fields_one _ _, show stagesR ctInt = true from stages_st _ _, h4]
  rfl
theorem two_wrong : checkC ctTwo = 60 := by
  unfold checkC
  rw [show nameB ctTwo.name = true from rfl, fields_two]
  rfl
theorem i64_lit {n : Int} (h : -100 ≤ n) (h2 : n ≤ 100) : in64 n := by unfold in64; omega
theorem okX_con {v : Vl} (h : okV v) : ∀ k, okX k (conX v)
  | 0 => trivial
  | k + 1 => ⟨h, show in64 1 from i64_lit (by decide) (by decide), fun x hx => by cases hx⟩
theorem one_ok : okC ctOne := by
  refine ⟨fun f hf => ?_, fun s hs => ?_, fun m hm => ?_⟩
  · obtain rfl : f = fldN := by simpa [ctOne] using hf
    exact ⟨ok_int (i64_lit (by decide) (by decide)), i64_lit (by decide) (by decide)⟩
  · have : s = stgS ∨ s = stgT := by simpa [ctOne] using hs
    rcases this with rfl | rfl
    · exact ⟨i64_lit (by decide) (by decide), fun o ho => by cases ho⟩
    · refine ⟨i64_lit (by decide) (by decide), fun o ho => ?_⟩
      have : o = 0 ∨ o = 2 := by simpa [stgT] using ho
      rcases this with rfl | rfl <;> exact i64_lit (by decide) (by decide)
  · obtain rfl : m = mvYes := by simpa [ctOne] using hm
    exact ⟨i64_lit (by decide) (by decide), i64_lit (by decide) (by decide), i64_lit (by decide) (by decide), okX_con (ok_truth true), fun e he => by cases he⟩
theorem one_long : 20 < (putC ctOne).length := by
  rw [putC_good one_right]
  unfold ctrB listB
  simp only [List.length_append, texB_len, be_length]
  show 20 < 4 + 1 + (4 + ([fldN].flatMap fldB).length) + _ + _
  have h : 12 ≤ ([fldN].flatMap fldB).length := by
    rw [List.flatMap_cons, List.length_append]
    unfold fldB
    simp only [List.length_append, texB_len, intB_len]
    omega
  omega

/-! in memory -/
theorem at_row {w : World} {g : Nat} {cs : Array Value} {t : TypeId} (h : w.heap[g]? = some (.cells cs t (0, 0))) (i : Nat) (x : Value) (hx : cs[i]? = some x) : w.cell? ⟨g, i, none⟩ = some x := (cell_of_row w g i cs t (0, 0) h).trans hx
abbrev csN (A : Option Addr) (c : Nat) : List Value := [.string ⟨#[110]⟩, .int .i64 1, .slice A 0 c, .int .i64 1, .int .i64 0, .bool false, .string ⟨#[]⟩, .float .f64 0]
abbrev csM (tt : Int) (k : Int) (b : Bool) : List Value := [.string ⟨#[109]⟩, .int .i64 0, .int .i64 tt, .int .i64 1, .slice none 0 0, .string ⟨#[]⟩, .int .i64 k, .int .i64 0, .bool b, .string ⟨#[]⟩, .float .f64 0, .slice none 0 0, .int .i64 (-1)]
theorem ss_none (w : World) : Ss w (.slice none 0 0) [] := Rd.nil w
theorem fldk_rows (w : World) (g n : Nat) (t : TypeId) (A : Option Addr) (c : Nat) (hs : Ss w (.slice A 0 c) []) (hn : n ≤ 2) (h : w.heap[g]? = some (.cells (List.replicate n (csN A c)).flatten.toArray t (0, 0))) : FldK w (some ⟨g, 0, none⟩) n (List.replicate n fldN) := by
  have hlt : g < w.heap.size := (Array.getElem?_eq_some_iff.1 h).1
  refine ⟨by simp, by unfold maxLen; omega, fun h => (by cases h), fun j hj => ?_⟩
  have hj2 : j < n := by simpa using hj
  refine ⟨_, rfl, hlt, A, c, ?_, ?_⟩
  · rw [List.getElem_replicate, Addr.add_lit]
    have hc : ∀ i (x : Value), (csN A c)[i]? = some x → w.cell? ⟨g, 0 + j * 8 + i, none⟩ = some x := fun i x hx => at_row h _ x (by
      have hcase : (n = 1 ∧ j = 0) ∨ (n = 2 ∧ j = 0) ∨ (n = 2 ∧ j = 1) := by omega
      have hi : i < 8 := (List.getElem?_eq_some_iff.1 hx).1
      rcases hcase with ⟨rfl, rfl⟩ | ⟨rfl, rfl⟩ | ⟨rfl, rfl⟩
      all_goals
        match i, hi with
        | 0, _ => exact hx
        | 1, _ => exact hx
        | 2, _ => exact hx
        | 3, _ => exact hx
        | 4, _ => exact hx
        | 5, _ => exact hx
        | 6, _ => exact hx
        | 7, _ => exact hx)
    exact ⟨hc 0 _ rfl, hc 1 _ rfl, hc 2 _ rfl, hc 3 _ rfl, hc 4 _ rfl, hc 5 _ rfl, hc 6 _ rfl, hc 7 _ rfl⟩
  · rw [List.getElem_replicate]; exact hs
theorem mvk_row (w : World) (g : Nat) (t : TypeId) (tt k : Int) (b : Bool) (m : Mv) (hm : m = ⟨⟨#[109]⟩, 0, tt, conX ⟨k, 0, b, ⟨#[]⟩, 0⟩, [], -1⟩) (h : w.heap[g]? = some (.cells (csM tt k b).toArray t (0, 0))) : MvK w (some ⟨g, 0, none⟩) 1 [m] := by
  subst hm
  have hlt : g < w.heap.size := (Array.getElem?_eq_some_iff.1 h).1
  refine ⟨by simp, by unfold maxLen; omega, fun h => (by cases h), fun j hj => ?_⟩
  have hj2 : j = 0 := by have : j < 1 := hj; omega
  subst hj2
  refine ⟨_, rfl, hlt, none, 0, none, 0, at_row h 0 _ rfl, at_row h 1 _ rfl, at_row h 2 _ rfl, ?_, ExE.leaf w _ rfl, at_row h 11 _ rfl, at_row h 12 _ rfl, RowK.none _ _ _⟩
  exact ⟨at_row h 3 _ rfl, at_row h 4 _ rfl, at_row h 5 _ rfl, at_row h 6 _ rfl, at_row h 7 _ rfl, at_row h 8 _ rfl, at_row h 9 _ rfl, at_row h 10 _ rfl⟩
theorem stgk_row (w : World) (g gi : Nat) (t t' : TypeId) (hi : w.heap[gi]? = some (.cells #[.int .i64 0, .int .i64 2] t' (0, 0)))
    (h : w.heap[g]? = some (.cells #[.string ⟨#[115]⟩, .int .i64 0, .slice none 0 0, .string ⟨#[116]⟩, .int .i64 1, .slice (some ⟨gi, 0, none⟩) 2 2] t (0, 0))) : StgK w (some ⟨g, 0, none⟩) 2 [stgS, stgT] := by
  have hlt : g < w.heap.size := (Array.getElem?_eq_some_iff.1 h).1
  have hlti : gi < w.heap.size := (Array.getElem?_eq_some_iff.1 hi).1
  refine ⟨by simp, by unfold maxLen; omega, fun h => (by cases h), fun j hj => ?_⟩
  have hj2 : j < 2 := hj
  match j, hj2 with
  | 0, _ => exact ⟨_, rfl, hlt, none, 0, at_row h 0 _ rfl, at_row h 1 _ rfl, at_row h 2 _ rfl, Rd.nil w⟩
  | 1, _ =>
    refine ⟨_, rfl, hlt, some ⟨gi, 0, none⟩, 2, at_row h 3 _ rfl, at_row h 4 _ rfl, at_row h 5 _ rfl, ⟨_, 2, rfl, Nat.le_refl 2, by unfold maxLen; omega, (by intro h; cases h), fun _ => ⟨_, rfl, hlti, fun i u hu => ?_⟩⟩⟩
    rw [Addr.add_lit, Nat.zero_add]
    have hi2 : i < 2 := (List.getElem?_eq_some_iff.1 hu).1
    match i, hi2 with
    | 0, _ => exact at_row hi 0 _ hu
    | 1, _ => exact at_row hi 1 _ hu
/-- a contract is told -/
def CtP (c : Ctr) (w : World) (e : Ending) (w' : World) : Prop := ∃ FA fc SA sc MA mc, e = .returned (agC c.name FA c.fs.length fc SA c.ss.length sc MA c.ms.length mc) ∧ CtK w' c FA fc SA sc MA mc ∧ Below w.heap.size w w'
end Go.Proofs.YthgdnpcfdgimlabGreat

/- Layer 6: the law's One and awake. -/
namespace Go.Proofs.YthgdnpcfdgimlabGreat
open Go.RowKit
set_option linter.unusedVariables false
set_option linter.unusedSimpArgs false
set_option maxRecDepth 20000

theorem heap_old (w : World) (o : Obj) (k : Nat) (h : k < w.heap.size) : (w.alloc o).heap[k]? = w.heap[k]? := (alloc1 w o).block k h
theorem six_worlds (w : World) (o0 o1 o2 o3 o4 o5 : Obj) :
    ((((((w.alloc o0).alloc o1).alloc o2).alloc o3).alloc o4).alloc o5).heap[w.heap.size]? = some o0 ∧
    ((((((w.alloc o0).alloc o1).alloc o2).alloc o3).alloc o4).alloc o5).heap[w.heap.size + 1 + 1]? = some o2 ∧
    ((((((w.alloc o0).alloc o1).alloc o2).alloc o3).alloc o4).alloc o5).heap[w.heap.size + 1 + 1 + 1]? = some o3 ∧
    ((((((w.alloc o0).alloc o1).alloc o2).alloc o3).alloc o4).alloc o5).heap[w.heap.size + 1 + 1 + 1 + 1]? = some o4 ∧
    ((((((w.alloc o0).alloc o1).alloc o2).alloc o3).alloc o4).alloc o5).heap[w.heap.size + 1 + 1 + 1 + 1 + 1]? = some o5 ∧
    Below w.heap.size w ((((((w.alloc o0).alloc o1).alloc o2).alloc o3).alloc o4).alloc o5) := by
  have n0 := heap_alloc_new w o0
  have n2 := heap_alloc_new ((w.alloc o0).alloc o1) o2
  have n3 := heap_alloc_new (((w.alloc o0).alloc o1).alloc o2) o3
  have n4 := heap_alloc_new ((((w.alloc o0).alloc o1).alloc o2).alloc o3) o4
  have n5 := heap_alloc_new (((((w.alloc o0).alloc o1).alloc o2).alloc o3).alloc o4) o5
  simp only [World.size_alloc] at n2 n3 n4 n5
  refine ⟨?_, ?_, ?_, ?_, n5, bel2 (bel2 (bel2 (bel2 (bel2 (alloc1 _ _) (alloc1 _ _)) (alloc1 _ _)) (alloc1 _ _)) (alloc1 _ _)) (alloc1 _ _)⟩
  · rw [heap_old _ _ _ (by simp only [World.size_alloc]; omega), heap_old _ _ _ (by simp only [World.size_alloc]; omega), heap_old _ _ _ (by simp only [World.size_alloc]; omega), heap_old _ _ _ (by simp only [World.size_alloc]; omega), heap_old _ _ _ (by simp only [World.size_alloc]; omega)]; exact n0
  · rw [heap_old _ _ _ (by simp only [World.size_alloc]; omega), heap_old _ _ _ (by simp only [World.size_alloc]; omega), heap_old _ _ _ (by simp only [World.size_alloc]; omega)]; exact n2
  · rw [heap_old _ _ _ (by simp only [World.size_alloc]; omega), heap_old _ _ _ (by simp only [World.size_alloc]; omega)]; exact n3
  · rw [heap_old _ _ _ (by simp only [World.size_alloc]; omega)]; exact n4
set_option maxHeartbeats 2000000 in
theorem One_any (w : World) : Calls Tryz.prog 38 #[] w (CtP ctOne w) := by
  have hsf := fun (w : World) (a : Addr) (m : Mode) (b : Nat) => run_store Tryz.prog w a (.float .f64 b) m rfl
  go_enter Tryz.func38, Tryz.ntmps38
  go_wp2
  generalize ho0 : Obj.cells #[Value.string { data := #[99] }, Value.slice (some { block := w.heap.size + 1 + 1, off := 0 }) 1 1, Value.slice (some { block := w.heap.size + 1 + 1 + 1 + 1, off := 0 }) 2 2, Value.slice (some { block := w.heap.size + 1 + 1 + 1 + 1 + 1, off := 0 }) 1 1] 26 = o0
  generalize ho2 : Obj.cells #[Value.string { data := #[110] }, Value.int IntKind.i64 1, Value.slice none 0 0, Value.int IntKind.i64 1, Value.int IntKind.i64 0, Value.bool false, Value.string { data := #[] }, Value.float FloatKind.f64 0] 55 = o2
  generalize ho3 : Obj.cells #[Value.int IntKind.i64 0, Value.int IntKind.i64 2] 3 = o3
  generalize ho4 : Obj.cells #[Value.string { data := #[115] }, Value.int IntKind.i64 0, Value.slice none 0 0, Value.string { data := #[116] }, Value.int IntKind.i64 1, Value.slice (some { block := w.heap.size + 1 + 1 + 1, off := 0 }) 2 2] 69 = o4
  generalize ho5 : Obj.cells #[Value.string { data := #[109] }, Value.int IntKind.i64 0, Value.int IntKind.i64 1, Value.int IntKind.i64 1, Value.slice none 0 0, Value.string { data := #[] }, Value.int IntKind.i64 2, Value.int IntKind.i64 0, Value.bool true, Value.string { data := #[] }, Value.float FloatKind.f64 0, Value.slice none 0 0, Value.int IntKind.i64 (-1)] 61 = o5
  generalize hW : (w.alloc o0).alloc _ = W1
  obtain ⟨k0, k2, k3, k4, k5, hb⟩ := six_worlds w o0 (.cells #[Value.int IntKind.i64 1, Value.slice none 0 0, Value.string { data := #[] }, Value.int IntKind.i64 2, Value.int IntKind.i64 0, Value.bool true, Value.string { data := #[] }, Value.float FloatKind.f64 0] 58) o2 o3 o4 o5
  rw [hW] at k0 k2 k3 k4 k5 hb
  generalize ((((W1.alloc o2).alloc o3).alloc o4).alloc o5) = W at *
  rw [← ho0] at k0
  rw [← ho2] at k2
  rw [← ho3] at k3
  rw [← ho4] at k4
  rw [← ho5] at k5
  have hlt : w.heap.size < W.heap.size := (Array.getElem?_eq_some_iff.1 k0).1
  have v0 := at_row k0 0 _ rfl
  have v1 := at_row k0 1 _ rfl
  have v2 := at_row k0 2 _ rfl
  have v3 := at_row k0 3 _ rfl
  clear ho0 ho2 ho3 ho4 ho5 hW
  exact bodyPost_ret (v := agC ⟨#[99]⟩ (some ⟨w.heap.size + 1 + 1, 0, none⟩) 1 1 (some ⟨w.heap.size + 1 + 1 + 1 + 1, 0, none⟩) 2 2 (some ⟨w.heap.size + 1 + 1 + 1 + 1 + 1, 0, none⟩) 1 1) (by simp [results, Tryz.results38, go_sem, v0, v1, v2, v3, hlt]) rfl
    ⟨_, _, _, _, _, _, rfl, ⟨fldk_rows W _ 1 _ none 0 (ss_none W) (by omega) k2, stgk_row W _ _ _ _ k3 k4, mvk_row W _ _ 1 2 true mvYes rfl k5⟩, hb⟩
theorem four_worlds (w : World) (o0 o1 o2 o3 : Obj) :
    ((((w.alloc o0).alloc o1).alloc o2).alloc o3).heap[w.heap.size]? = some o0 ∧
    ((((w.alloc o0).alloc o1).alloc o2).alloc o3).heap[w.heap.size + 1]? = some o1 ∧
    ((((w.alloc o0).alloc o1).alloc o2).alloc o3).heap[w.heap.size + 1 + 1]? = some o2 ∧
    ((((w.alloc o0).alloc o1).alloc o2).alloc o3).heap[w.heap.size + 1 + 1 + 1]? = some o3 ∧
    Below w.heap.size w ((((w.alloc o0).alloc o1).alloc o2).alloc o3) := by
  have n0 := heap_alloc_new w o0
  have n1 := heap_alloc_new (w.alloc o0) o1
  have n2 := heap_alloc_new ((w.alloc o0).alloc o1) o2
  have n3 := heap_alloc_new (((w.alloc o0).alloc o1).alloc o2) o3
  simp only [World.size_alloc] at n1 n2 n3
  refine ⟨?_, ?_, ?_, n3, bel2 (bel2 (bel2 (alloc1 _ _) (alloc1 _ _)) (alloc1 _ _)) (alloc1 _ _)⟩
  · rw [heap_old _ _ _ (by simp only [World.size_alloc]; omega), heap_old _ _ _ (by simp only [World.size_alloc]; omega), heap_old _ _ _ (by simp only [World.size_alloc]; omega)]; exact n0
  · rw [heap_old _ _ _ (by simp only [World.size_alloc]; omega), heap_old _ _ _ (by simp only [World.size_alloc]; omega)]; exact n1
  · rw [heap_old _ _ _ (by simp only [World.size_alloc]; omega)]; exact n2
set_option maxHeartbeats 2000000 in
theorem awake6_any (w : World) : Calls Tryz.prog 12 #[] w (VMk (.bool true) w) := by
  have hsf := fun (w : World) (a : Addr) (m : Mode) (b : Nat) => run_store Tryz.prog w a (.float .f64 b) m rfl
  have HO := Lib.hid One_any
  go_enter Tryz.func12, Tryz.ntmps12
  go_wp2_with fail
  refine (HO.out _).mono ?_
  rintro e w1 ⟨F1, f1, S1, s1, M1, m1, rfl, hc1, hb1⟩
  have HC1 := Lib.hid hc1
  have HB1 := Lib.hid hb1
  clear hc1 hb1
  go_wp2_with fail
  refine (HO.out _).mono ?_
  rintro e w2 ⟨F2, f2, S2, s2, M2, m2, rfl, hc2, hb2⟩
  have HC2 := Lib.hid hc2
  have HB2 := Lib.hid hb2
  clear hc2 hb2
  go_wp2_with fail
  refine (HO.out _).mono ?_
  rintro e w3 ⟨F3, f3, S3, s3, M3, m3, rfl, hc3, hb3⟩
  have HC3 := Lib.hid hc3
  have HB3 := Lib.hid hb3
  clear hc3 hb3
  go_upto_region 5 with fail
  obtain ⟨fa, rfl, hfl, FA0, fc0, hfq, hfs⟩ := HC3.out.f.2.2.2 0 (by show 0 < 1; omega)
  have HFS := Lib.hid (show Ss w3 (.slice FA0 0 fc0) [] from hfs)
  clear hfs
  have hL1 : ctOne.fs.length = 1 := rfl
  have hL2 : ctOne.ss.length = 2 := rfl
  have hL3 : ctOne.ms.length = 1 := rfl
  have hN : ctOne.name = ⟨#[99]⟩ := rfl
  rw [hL1, hL2, hL3, hN]
  obtain ⟨k0, k1, k2, k3, hW⟩ := four_worlds w3 (.cells #[Value.string ⟨#[99]⟩, Value.slice F1 1 f1, Value.slice none 0 0, Value.slice none 0 0] 26) (.cells #[Value.string ⟨#[99]⟩, Value.slice F2 1 f2, Value.slice S2 2 s2, Value.slice (some { block := w3.heap.size + 1 + 1 + 1, off := 0 }) 1 1] 26) (.cells #[Value.string ⟨#[99]⟩, Value.slice (some fa) 1 f3, Value.slice S3 2 s3, Value.slice M3 1 m3] 26) (.cells (csM 0 1 false).toArray 61)
  have e0 : fa.add (0 * 8) = fa := by rw [Nat.zero_mul, Addr.add_zero']
  rw [e0] at hfq
  have hq := hfq.below hW hfl
  generalize hw4 : (((w3.alloc (.cells #[Value.string ⟨#[99]⟩, Value.slice F1 1 f1, Value.slice none 0 0, Value.slice none 0 0] 26)).alloc (.cells #[Value.string ⟨#[99]⟩, Value.slice F2 1 f2, Value.slice S2 2 s2, Value.slice (some { block := w3.heap.size + 1 + 1 + 1, off := 0 }) 1 1] 26)).alloc (.cells #[Value.string ⟨#[99]⟩, Value.slice (some fa) 1 f3, Value.slice S3 2 s3, Value.slice M3 1 m3] 26)).alloc (.cells (csM 0 1 false).toArray 61) = w4 at *
  have hsz : w4.heap.size = w3.heap.size + 1 + 1 + 1 + 1 := by rw [← hw4]; simp
  clear hw4 hfq
  have q0 : w4.cell? fa = some (.string ⟨#[110]⟩) := hq.1
  have q1 : w4.cell? ⟨fa.block, fa.off + 1, none⟩ = some (.int .i64 1) := hq.2.1
  have q2 : w4.cell? ⟨fa.block, fa.off + 2, none⟩ = some (.slice FA0 0 fc0) := hq.2.2.1
  have q3 : w4.cell? ⟨fa.block, fa.off + 3, none⟩ = some (.int .i64 1) := hq.2.2.2.1
  have q4 : w4.cell? ⟨fa.block, fa.off + 4, none⟩ = some (.int .i64 0) := hq.2.2.2.2.1
  have q5 : w4.cell? ⟨fa.block, fa.off + 5, none⟩ = some (.bool false) := hq.2.2.2.2.2.1
  have q6 : w4.cell? ⟨fa.block, fa.off + 6, none⟩ = some (.string ⟨#[]⟩) := hq.2.2.2.2.2.2.1
  have q7 : w4.cell? ⟨fa.block, fa.off + 7, none⟩ = some (.float .f64 0) := hq.2.2.2.2.2.2.2
  have p1 := at_row k2 1 _ rfl
  have pf : w4.frozen? ⟨w3.heap.size + 1 + 1, 1, none⟩ = false := by simp [World.frozen?, k2]
  have hb2 : w3.heap.size + 1 + 1 < w4.heap.size := by omega
  have K0 := Lib.hid k0
  have K1 := Lib.hid k1
  have K2 := Lib.hid k2
  have K3 := Lib.hid k3
  have HW4 := Lib.hid hW
  have HSZ := Lib.hid hsz
  clear k0 k1 k2 k3 hW hsz hq e0 hL1 hL2 hL3 hN hfl
  go_region
  have hb5 : Below w3.heap.size w3 ((w4.setCell { block := w3.heap.size + 1 + 1, off := 1 } (Value.slice (some { block := w4.heap.size, off := 0 }) 2 2)).alloc (Obj.cells #[.string ⟨#[110]⟩, .int .i64 1, .slice FA0 0 fc0, .int .i64 1, .int .i64 0, .bool false, .string ⟨#[]⟩, .float .f64 0, .string ⟨#[110]⟩, .int .i64 1, .slice FA0 0 fc0, .int .i64 1, .int .i64 0, .bool false, .string ⟨#[]⟩, .float .f64 0] 55)).drew :=
    ((HW4.out.setCell (p := ⟨w3.heap.size + 1 + 1, 1, none⟩) (by show w3.heap.size ≤ w3.heap.size + 1 + 1; omega) _).alloc (by rw [World.size_setCell]; have := HSZ.out; omega) _).drew
  have hx : ∀ k, k < w4.heap.size → k ≠ w3.heap.size + 1 + 1 → ((w4.setCell { block := w3.heap.size + 1 + 1, off := 1 } (Value.slice (some { block := w4.heap.size, off := 0 }) 2 2)).alloc (Obj.cells #[.string ⟨#[110]⟩, .int .i64 1, .slice FA0 0 fc0, .int .i64 1, .int .i64 0, .bool false, .string ⟨#[]⟩, .float .f64 0, .string ⟨#[110]⟩, .int .i64 1, .slice FA0 0 fc0, .int .i64 1, .int .i64 0, .bool false, .string ⟨#[]⟩, .float .f64 0] 55)).drew.heap[k]? = w4.heap[k]? := fun k hk hne => by
    show ((w4.setCell _ _).alloc _).heap[k]? = _
    rw [heap_old _ _ _ (by rw [World.size_setCell]; exact hk), Below.heap_setCell _ _ _ _ hne]
  have hR : ((w4.setCell { block := w3.heap.size + 1 + 1, off := 1 } (Value.slice (some { block := w4.heap.size, off := 0 }) 2 2)).alloc (Obj.cells #[.string ⟨#[110]⟩, .int .i64 1, .slice FA0 0 fc0, .int .i64 1, .int .i64 0, .bool false, .string ⟨#[]⟩, .float .f64 0, .string ⟨#[110]⟩, .int .i64 1, .slice FA0 0 fc0, .int .i64 1, .int .i64 0, .bool false, .string ⟨#[]⟩, .float .f64 0] 55)).drew.heap[w4.heap.size]? = some (Obj.cells #[.string ⟨#[110]⟩, .int .i64 1, .slice FA0 0 fc0, .int .i64 1, .int .i64 0, .bool false, .string ⟨#[]⟩, .float .f64 0, .string ⟨#[110]⟩, .int .i64 1, .slice FA0 0 fc0, .int .i64 1, .int .i64 0, .bool false, .string ⟨#[]⟩, .float .f64 0] 55) := by
    have h := heap_alloc_new (w4.setCell { block := w3.heap.size + 1 + 1, off := 1 } (Value.slice (some { block := w4.heap.size, off := 0 }) 2 2)) (Obj.cells #[.string ⟨#[110]⟩, .int .i64 1, .slice FA0 0 fc0, .int .i64 1, .int .i64 0, .bool false, .string ⟨#[]⟩, .float .f64 0, .string ⟨#[110]⟩, .int .i64 1, .slice FA0 0 fc0, .int .i64 1, .int .i64 0, .bool false, .string ⟨#[]⟩, .float .f64 0] 55)
    rw [World.size_setCell] at h
    exact h
  have hcs : ∀ j (x : Value), ([.string ⟨#[99]⟩, .slice (some ⟨w4.heap.size, 0, none⟩) 2 2, .slice S3 2 s3, .slice M3 1 m3] : List Value)[j]? = some x → ((w4.setCell { block := w3.heap.size + 1 + 1, off := 1 } (Value.slice (some { block := w4.heap.size, off := 0 }) 2 2)).alloc (Obj.cells #[.string ⟨#[110]⟩, .int .i64 1, .slice FA0 0 fc0, .int .i64 1, .int .i64 0, .bool false, .string ⟨#[]⟩, .float .f64 0, .string ⟨#[110]⟩, .int .i64 1, .slice FA0 0 fc0, .int .i64 1, .int .i64 0, .bool false, .string ⟨#[]⟩, .float .f64 0] 55)).drew.cell? ⟨w3.heap.size + 1 + 1, j, none⟩ = some x := fun j x hj => by
    show ((w4.setCell _ _).alloc _).cell? _ = _
    refine keepc (alloc1 _ _) (by rw [World.size_setCell]; exact hb2) ?_
    have hj4 : j < 4 := (List.getElem?_eq_some_iff.1 hj).1
    by_cases h1 : j = 1
    · subst h1
      injection hj with hj
      subst hj
      exact World.cell?_setCell_same w4 _ _ p1
    · rw [World.cell?_setCell_other w4 (a := ⟨w3.heap.size + 1 + 1, 1, none⟩) (b := ⟨w3.heap.size + 1 + 1, j, none⟩) _ (by intro e; injection e with _ e _; exact h1 e.symm)]
      match j, hj4, h1 with
      | 0, _, _ => exact at_row K2.out 0 _ hj
      | 2, _, _ => exact at_row K2.out 2 _ hj
      | 3, _, _ => exact at_row K2.out 3 _ hj
  generalize hW5 : ((w4.setCell { block := w3.heap.size + 1 + 1, off := 1 } (Value.slice (some { block := w4.heap.size, off := 0 }) 2 2)).alloc (Obj.cells #[.string ⟨#[110]⟩, .int .i64 1, .slice FA0 0 fc0, .int .i64 1, .int .i64 0, .bool false, .string ⟨#[]⟩, .float .f64 0, .string ⟨#[110]⟩, .int .i64 1, .slice FA0 0 fc0, .int .i64 1, .int .i64 0, .bool false, .string ⟨#[]⟩, .float .f64 0] 55)).drew = W5 at *
  have hlt5 : w3.heap.size + 1 + 1 < W5.heap.size := Nat.lt_trans hb2 (Array.getElem?_eq_some_iff.1 hR).1
  have h0 := (hx w3.heap.size (by have := HSZ.out; omega) (by omega)).trans K0.out
  have h1 := (hx (w3.heap.size + 1) (by have := HSZ.out; omega) (by omega)).trans K1.out
  have h3 := (hx (w3.heap.size + 1 + 1 + 1) (by have := HSZ.out; omega) (by omega)).trans K3.out
  have HA := Lib.hid (show BxA W5 w3.heap.size [.string ⟨#[99]⟩, .slice F1 1 f1, .slice none 0 0, .slice none 0 0] from ⟨by omega, fun j x hj => at_row h0 j x (by simpa using hj)⟩)
  have HB := Lib.hid (show BxA W5 (w3.heap.size + 1) [.string ⟨#[99]⟩, .slice F2 1 f2, .slice S2 2 s2, .slice (some ⟨w3.heap.size + 1 + 1 + 1, 0, none⟩) 1 1] from ⟨by omega, fun j x hj => at_row h1 j x (by simpa using hj)⟩)
  have HD := Lib.hid (show BxA W5 (w3.heap.size + 1 + 1) [.string ⟨#[99]⟩, .slice (some ⟨w4.heap.size, 0, none⟩) 2 2, .slice S3 2 s3, .slice M3 1 m3] from ⟨hlt5, hcs⟩)
  have HKA := Lib.hid (show CtK W5 ctNoS F1 f1 none 0 none 0 from ⟨(((HC1.out.below HB2.out).below HB3.out).below hb5).f, RowK.none _ _ _, RowK.none _ _ _⟩)
  have HKB := Lib.hid (show CtK W5 ctInt F2 f2 S2 s2 (some ⟨w3.heap.size + 1 + 1 + 1, 0, none⟩) 1 from ⟨((HC2.out.below HB3.out).below hb5).f, ((HC2.out.below HB3.out).below hb5).s, mvk_row W5 _ _ 0 1 false mvInt rfl h3⟩)
  have HKD := Lib.hid (show CtK W5 ctTwo (some ⟨w4.heap.size, 0, none⟩) 2 S3 s3 M3 m3 from ⟨fldk_rows W5 _ 2 _ FA0 fc0 (HFS.out.below hb5 (Nat.le_refl _)) (by omega) hR, (HC3.out.below hb5).s, (HC3.out.below hb5).m⟩)
  have HB5 := Lib.hid (bel2 (bel2 (bel2 HB1.out HB2.out) HB3.out) hb5)
  clear h0 h1 h3 hx hR hcs hW5 hb5 hlt5 K0 K1 K2 K3 HFS HW4 HSZ HC1 HC2 HC3 HB1 HB2 HB3 q0 q1 q2 q3 q4 q5 q6 q7 p1 pf hb2
  go_wp2_with fail
  refine (HO.out _).mono ?_
  rintro e w6 ⟨F6, f6, S6, s6, M6, m6, rfl, hc6, hb6⟩
  have H6 := Lib.hid (And.intro hc6 hb6)
  clear hc6 hb6
  go_wp2_with fail
  refine (cCheck_any ctOne F6 f6 S6 s6 M6 m6 w6 H6.out.1).mono ?_
  rintro e w7 ⟨he, hb7⟩
  rw [one_right] at he
  subst he
  have H7 := Lib.hid (bel2 H6.out.2 hb7)
  clear H6 hb7
  go_wp2_with fail
  refine (HO.out _).mono ?_
  rintro e w8 ⟨F8, f8, S8, s8, M8, m8, rfl, hc8, hb8⟩
  have H8 := Lib.hid (And.intro hc8 (bel2 H7.out hb8))
  clear hc8 hb8 H7
  go_wp2_with fail
  refine (cPut_any ctOne F8 f8 S8 s8 M8 m8 (.slice none 0 0) [] w8 H8.out.1 one_ok (Bs.nil _) (by simp)).mono ?_
  rintro e w9 ⟨v9, B9, rfl, -, ho9, hb9⟩
  rw [List.nil_append] at ho9
  obtain ⟨A9, c9, rfl, -⟩ := (own_bs ho9).open
  have hlong : (20 : Int) < (((putC ctOne).length : Nat) : Int) := by have := one_long; omega
  have H9 := Lib.hid (bel2 H8.out.2 hb9)
  clear ho9 hb9 H8
  generalize (putC ctOne).length = plen at *
  have a0 := (HA.out.below H9.out).2 0 _ rfl
  have a1 := (HA.out.below H9.out).2 1 _ rfl
  have a2 := (HA.out.below H9.out).2 2 _ rfl
  have a3 := (HA.out.below H9.out).2 3 _ rfl
  go_wp2_with fail
  refine (cCheck_any ctNoS F1 f1 none 0 none 0 w9 (HKA.out.below H9.out)).mono ?_
  rintro e w10 ⟨he, hb10⟩
  rw [noS_wrong] at he
  subst he
  have H10 := Lib.hid (bel2 H9.out hb10)
  clear hb10 H9 a0 a1 a2 a3
  have a0 := (HB.out.below H10.out).2 0 _ rfl
  have a1 := (HB.out.below H10.out).2 1 _ rfl
  have a2 := (HB.out.below H10.out).2 2 _ rfl
  have a3 := (HB.out.below H10.out).2 3 _ rfl
  go_wp2_with fail
  refine (cCheck_any ctInt F2 f2 S2 s2 (some ⟨w3.heap.size + 1 + 1 + 1, 0, none⟩) 1 w10 (HKB.out.below H10.out)).mono ?_
  rintro e w11 ⟨he, hb11⟩
  rw [int_wrong] at he
  subst he
  have H11 := Lib.hid (bel2 H10.out hb11)
  clear hb11 H10 a0 a1 a2 a3
  have a0 := (HD.out.below H11.out).2 0 _ rfl
  have a1 := (HD.out.below H11.out).2 1 _ rfl
  have a2 := (HD.out.below H11.out).2 2 _ rfl
  have a3 := (HD.out.below H11.out).2 3 _ rfl
  go_wp2_with fail
  refine (cCheck_any ctTwo (some ⟨w4.heap.size, 0, none⟩) 2 S3 s3 M3 m3 w11 (HKD.out.below H11.out)).mono ?_
  rintro e w12 ⟨he, hb12⟩
  rw [two_wrong] at he
  subst he
  have H12 := Lib.hid (bel2 H11.out hb12)
  clear hb12 H11 a0 a1 a2 a3
  go_wp2_with fail
  refine (HO.out _).mono ?_
  rintro e w13 ⟨F13, f13, S13, s13, M13, m13, rfl, hc13, hb13⟩
  have H13 := Lib.hid (And.intro hc13 (bel2 H12.out hb13))
  clear hc13 hb13 H12
  go_wp2_with fail
  refine (cStage_any ctOne F13 f13 S13 s13 M13 m13 ⟨#[116]⟩ w13 H13.out.1).mono ?_
  rintro e w14 ⟨he, hb14⟩
  rw [show placeN ⟨#[116]⟩ (ctOne.ss.map fun x => x.name) 0 = 1 from place_t] at he
  subst he
  go_wp2
  go_ret
  exact ⟨ret_bool (by first | rfl | simp), bel2 (bel2 HB5.out H13.out.2) hb14⟩
end Go.Proofs.YthgdnpcfdgimlabGreat

/- Layer 6: are a contract's parts few (made by gen/gencfew.py). -/
namespace Go.Proofs.YthgdnpcfdgimlabGreat
open Go.RowKit
set_option linter.unusedVariables false
set_option linter.unusedSimpArgs false
set_option maxRecDepth 20000

/-- a truth is told -/
def TellB (w : World) (e : Ending) (w' : World) : Prop := ∃ b, e = .returned (.bool b) ∧ Below w.heap.size w w'
set_option maxHeartbeats 4000000 in
theorem few6_any (ct : Ctr) (FA : Option Addr) (fc : Nat) (SA : Option Addr) (sc : Nat) (MA : Option Addr) (mc : Nat) (w : World) (h : CtK w ct FA fc SA sc MA mc) :
    Calls Tryz.prog 9 #[agC ct.name FA ct.fs.length fc SA ct.ss.length sc MA ct.ms.length mc] w (TellB w) := by
  have HB0 := Lib.hid (alloc1 w (bxC ct.name FA ct.fs.length fc SA ct.ss.length sc MA ct.ms.length mc))
  have HC := Lib.hid (BxA.new w (csC ct.name FA ct.fs.length fc SA ct.ss.length sc MA ct.ms.length mc) 26)
  have hfl := h.f.2.1
  have hfl1 := h.f.1
  have hsl := h.s.2.1
  have hsl1 := h.s.1
  have hml := h.m.2.1
  have hml1 := h.m.1
  unfold maxLen at hfl hsl hml
  have hflen : ct.fs.length ≤ 9223372036854775807 := by omega
  have hslen : ct.ss.length ≤ 9223372036854775807 := by omega
  have hmlen : ct.ms.length ≤ 9223372036854775807 := by omega
  have HF := Lib.hid h.f.2.2.2
  have HS := Lib.hid h.s.2.2.2
  have HM := Lib.hid h.m.2.2.2
  clear h hfl hfl1 hsl hsl1 hml hml1
  have hsf := fun (w : World) (a : Addr) (m : Mode) (b : Nat) => run_store Tryz.prog w a (.float .f64 b) m rfl
  go_enter Tryz.func9, Tryz.ntmps9
  go_upto_region 1 with fail
  generalize hw0 : w.alloc (bxC ct.name FA ct.fs.length fc SA ct.ss.length sc MA ct.ms.length mc) = w0 at *
  clear hw0
  have c0 := HC.out.2 0 _ rfl
  have c1 := HC.out.2 1 _ rfl
  have c2 := HC.out.2 2 _ rfl
  have c3 := HC.out.2 3 _ rfl
  by_cases g0 : (200 : Int) < (ct.name.size : Int)
  · have gd : decide ((200 : Int) < (ct.name.size : Int)) = true := decide_eq_true g0
    go_wp2
    go_ret
    exact ⟨false, rfl, HB0.out⟩
  have gd0 : decide ((200 : Int) < (ct.name.size : Int)) = false := decide_eq_false g0
  by_cases g1 : (30 : Int) < (ct.fs.length : Int)
  · have gd : decide ((30 : Int) < (ct.fs.length : Int)) = true := decide_eq_true g1
    go_wp2
    go_ret
    exact ⟨false, rfl, HB0.out⟩
  have gd1 : decide ((30 : Int) < (ct.fs.length : Int)) = false := decide_eq_false g1
  by_cases g2 : (30 : Int) < (ct.ss.length : Int)
  · have gd : decide ((30 : Int) < (ct.ss.length : Int)) = true := decide_eq_true g2
    go_wp2
    go_ret
    exact ⟨false, rfl, HB0.out⟩
  have gd2 : decide ((30 : Int) < (ct.ss.length : Int)) = false := decide_eq_false g2
  by_cases g3 : (30 : Int) < (ct.ms.length : Int)
  · have gd : decide ((30 : Int) < (ct.ms.length : Int)) = true := decide_eq_true g3
    go_wp2
    go_ret
    exact ⟨false, rfl, HB0.out⟩
  have gd3 : decide ((30 : Int) < (ct.ms.length : Int)) = false := decide_eq_false g3
  go_wp2
  clear g0 g1 g2 g3 gd0 gd1 gd2 gd3
  go_loopw [3] (fun i wr => ∃ k : Nat, k ≤ ct.fs.length ∧ i = .int .i64 k ∧ w0 = wr) (fun i _ => ct.fs.length - (intOf i).toNat)
  case atStart => exact ⟨0, Nat.zero_le _, rfl, by trivial⟩
  case round =>
    obtain ⟨k, hk, rfl, rfl⟩ := hrel
    by_cases hlt : k < ct.fs.length
    case pos =>
      have hltI : (k : Int) < (ct.fs.length : Int) := by omega
      obtain ⟨ad, rfl, hbl, A, c, hq, -⟩ := HF.out k hlt
      have hq2 := hq.below HB0.out (by rw [block_add]; exact hbl)
      generalize ct.fs[k] = x at *
      have q0 := hq2.1
      have q2 := hq2.2.2.1
      have q6 := hq2.2.2.2.2.2.2.1
      clear hq hq2
      by_cases e0 : (200 : Int) < (x.f.name.size : Int)
      · have ed : decide ((200 : Int) < (x.f.name.size : Int)) = true := decide_eq_true e0
        go_wp2
        go_ret
        exact ⟨false, rfl, HB0.out⟩
      have ed0 : decide ((200 : Int) < (x.f.name.size : Int)) = false := decide_eq_false e0
      by_cases e1 : (30 : Int) < (x.en.length : Int)
      · have ed : decide ((30 : Int) < (x.en.length : Int)) = true := decide_eq_true e1
        go_wp2
        go_ret
        exact ⟨false, rfl, HB0.out⟩
      have ed1 : decide ((30 : Int) < (x.en.length : Int)) = false := decide_eq_false e1
      by_cases e2 : (200 : Int) < (x.y.s.size : Int)
      · have ed : decide ((200 : Int) < (x.y.s.size : Int)) = true := decide_eq_true e2
        go_wp2
        go_ret
        exact ⟨false, rfl, HB0.out⟩
      have ed2 : decide ((200 : Int) < (x.y.s.size : Int)) = false := decide_eq_false e2
      go_wp2
      go_roundw
      case rel => exact ⟨k + 1, by omega, by go_num, by trivial⟩
      case measure => simp [intOf]; omega
    case neg =>
      obtain rfl : k = ct.fs.length := by omega
      have hltI : ¬ (ct.fs.length : Int) < (ct.fs.length : Int) := by omega
      go_wp2
      go_loopw [4] (fun i wr => ∃ k : Nat, k ≤ ct.ss.length ∧ i = .int .i64 k ∧ w0 = wr) (fun i _ => ct.ss.length - (intOf i).toNat)
      case atStart => exact ⟨0, Nat.zero_le _, rfl, by trivial⟩
      case round =>
        obtain ⟨k, hk, rfl, rfl⟩ := hrel
        by_cases hlt : k < ct.ss.length
        case pos =>
          have hltI : (k : Int) < (ct.ss.length : Int) := by omega
          obtain ⟨ad, rfl, hbl, hp⟩ := HS.out k hlt
          have hp2 := hp.below HB0.out (by rw [block_add]; exact hbl)
          generalize ct.ss[k] = x at *
          obtain ⟨A, c, -, -, q2, -⟩ := hp2
          clear hp
          by_cases e0 : (30 : Int) < (x.orgs.length : Int)
          · have ed : decide ((30 : Int) < (x.orgs.length : Int)) = true := decide_eq_true e0
            go_wp2
            go_ret
            exact ⟨false, rfl, HB0.out⟩
          have ed0 : decide ((30 : Int) < (x.orgs.length : Int)) = false := decide_eq_false e0
          go_wp2
          go_roundw
          case rel => exact ⟨k + 1, by omega, by go_num, by trivial⟩
          case measure => simp [intOf]; omega
        case neg =>
          obtain rfl : k = ct.ss.length := by omega
          have hltI : ¬ (ct.ss.length : Int) < (ct.ss.length : Int) := by omega
          go_wp2
          go_loopw [5] (fun i wr => ∃ k : Nat, k ≤ ct.ms.length ∧ i = .int .i64 k ∧ w0 = wr) (fun i _ => ct.ms.length - (intOf i).toNat)
          case atStart => exact ⟨0, Nat.zero_le _, rfl, by trivial⟩
          case round =>
            obtain ⟨k, hk, rfl, rfl⟩ := hrel
            by_cases hlt : k < ct.ms.length
            case pos =>
              have hltI : (k : Int) < (ct.ms.length : Int) := by omega
              obtain ⟨ad, rfl, hbl, hp⟩ := HM.out k hlt
              have hp2 := hp.below HB0.out (by rw [block_add]; exact hbl)
              generalize ct.ms[k] = x at *
              obtain ⟨A, c, EA, ec, -, -, -, -, -, q11, -, -⟩ := hp2
              clear hp
              by_cases e0 : (30 : Int) < (x.effs.length : Int)
              · have ed : decide ((30 : Int) < (x.effs.length : Int)) = true := decide_eq_true e0
                go_wp2
                go_ret
                exact ⟨false, rfl, HB0.out⟩
              have ed0 : decide ((30 : Int) < (x.effs.length : Int)) = false := decide_eq_false e0
              go_wp2
              go_roundw
              case rel => exact ⟨k + 1, by omega, by go_num, by trivial⟩
              case measure => simp [intOf]; omega
            case neg =>
              obtain rfl : k = ct.ms.length := by omega
              have hltI : ¬ (ct.ms.length : Int) < (ct.ms.length : Int) := by omega
              go_wp2
              go_ret
              exact ⟨true, rfl, HB0.out⟩
end Go.Proofs.YthgdnpcfdgimlabGreat

/- Layer 6: what is right, said twice: the document asks in another order. -/
namespace Go.Proofs.YthgdnpcfdgimlabGreat
open Go.RowKit
set_option linter.unusedVariables false
set_option linter.unusedSimpArgs false

theorem placeN_eq (nm : ByteArray) : ∀ (l : List ByteArray) (i j : Nat) (hj : j < l.length), placeN nm l i = ((i + j : Nat) : Int) ↔ ((l[j].toList == nm.toList) = true ∧ ∀ (m : Nat) (hm : m < j), ((l[m]'(by omega)).toList == nm.toList) = false)
  | [], _, _, hj => absurd hj (Nat.not_lt_zero _)
  | x :: l, i, 0, hj => by
    unfold placeN
    cases hx : (x.toList == nm.toList) with
    | true => simp [hx]
    | false =>
      rw [if_neg (by decide)]
      have := placeN_ge nm l (i + 1)
      simp only [List.getElem_cons_zero, hx]
      constructor
      · intro h; omega
      · intro h; exact absurd h.1 (by decide)
  | x :: l, i, j + 1, hj => by
    unfold placeN
    have hjl : j < l.length := by simpa using hj
    cases hx : (x.toList == nm.toList) with
    | true =>
      rw [if_pos rfl]
      constructor
      · intro h; omega
      · intro h
        have := h.2 0 (by omega)
        simp only [List.getElem_cons_zero, hx] at this
        exact absurd this (by decide)
    | false =>
      rw [if_neg (by decide)]
      have ih := placeN_eq nm l (i + 1) j hjl
      have e : ((i + (j + 1) : Nat) : Int) = ((i + 1 + j : Nat) : Int) := by omega
      rw [e, ih]
      simp only [List.getElem_cons_succ]
      constructor
      · rintro ⟨h1, h2⟩
        refine ⟨h1, fun m hm => ?_⟩
        cases m with
        | zero => simpa using hx
        | succ m => simpa using h2 m (by omega)
      · rintro ⟨h1, h2⟩
        refine ⟨h1, fun m hm => ?_⟩
        have := h2 (m + 1) (by omega)
        simpa using this
theorem onceN_apart (l : List ByteArray) : onceN l = true ↔ ∀ (j : Nat) (hj : j < l.length) (m : Nat) (hm : m < j), ((l[m]'(by omega)).toList == l[j].toList) = false := by
  rw [onceN_iff]
  constructor
  · intro h j hj
    have := h j hj
    have e : ((j : Nat) : Int) = ((0 + j : Nat) : Int) := by omega
    rw [e, placeN_eq _ _ _ _ hj] at this
    exact this.2
  · intro h j hj
    have e : ((j : Nat) : Int) = ((0 + j : Nat) : Int) := by omega
    rw [e, placeN_eq _ _ _ _ hj]
    exact ⟨by simp, h j hj⟩
/-- may a field have these texts: as the document asks -/
theorem enum_iff (f : Fld) : enumR f = true ↔ f.en.length ≤ 4 ∧ (f.en.length = 0 ∨ f.f.kind = 3) ∧ ∀ (j : Nat) (hj : j < f.en.length), f.en[j].size ≤ 32 ∧ ∀ (m : Nat) (hm : m < j), ((f.en[m]'(by omega)).toList == f.en[j].toList) = false := by
  unfold enumR
  rw [Bool.or_eq_true, List.isEmpty_iff, Bool.and_eq_true, Bool.and_eq_true, Bool.and_eq_true, beq_iff_eq, decide_eq_true_eq, onceN_apart, List.all_eq_true]
  constructor
  · rintro (h | ⟨⟨⟨h1, h2⟩, h3⟩, h4⟩)
    · have h0 : f.en.length = 0 := by rw [h]; rfl
      exact ⟨by omega, .inl h0, fun j hj => absurd hj (by omega)⟩
    · refine ⟨by omega, .inr h1, fun j hj => ⟨?_, h3 j hj⟩⟩
      have := h4 _ (List.getElem_mem hj)
      rw [decide_eq_true_eq] at this
      omega
  · rintro ⟨h1, h2 | h2, h3⟩
    · exact .inl (List.eq_nil_of_length_eq_zero h2)
    · refine .inr ⟨⟨⟨h2, by omega⟩, fun j hj => (h3 j hj).2⟩, fun s hs => ?_⟩
      obtain ⟨j, hj, rfl⟩ := List.getElem_of_mem hs
      rw [decide_eq_true_eq]
      have := (h3 j hj).1
      omega
theorem field_kind {f : Fld} (h : fieldR f = true) : 1 ≤ f.f.kind ∧ f.f.kind ≤ 4 := by
  unfold fieldR at h
  simp only [Bool.and_eq_true, beq_iff_eq] at h
  obtain ⟨h1, h2⟩ := fits_good h.2
  unfold goodV at h1
  simp only [Bool.and_eq_true, decide_eq_true_eq] at h1
  rw [← h2]
  exact ⟨h1.1.1.1.1.1.1, h1.1.1.1.1.1.2⟩
/-- one by one, as the document goes: at its place, and right -/
def bothF {α : Type} (g : α → Int) (P : α → Bool) : List α → Nat → Bool
  | [], _ => true
  | x :: l, i => ((g x == (i : Int)) && P x) && bothF g P l (i + 1)
theorem bothF_eq {α : Type} (g : α → Int) (P : α → Bool) : ∀ (l : List α) (i : Nat), bothF g P l i = (onceF g l i && l.all P)
  | [], _ => rfl
  | x :: l, i => by
    rw [bothF, onceF, List.all_cons, bothF_eq g P l (i + 1)]
    cases (g x == (i : Int)) <;> cases P x <;> cases onceF g l (i + 1) <;> rfl
theorem fields_both (c : Ctr) : fieldsR c = (decide ((c.fs.length : Int) ≤ 6) && bothF (fun x => placeN x.f.name (c.fs.map fun x => x.f.name) 0) fieldR c.fs 0) := by
  unfold fieldsR
  rw [bothF_eq, onceN_of, Bool.and_assoc]
theorem stages_both (c : Ctr) : stagesR c = ((decide (1 ≤ (c.ss.length : Int)) && decide ((c.ss.length : Int) ≤ 6)) && bothF (fun x => placeN x.name (c.ss.map fun x => x.name) 0) stageR c.ss 0) := by
  unfold stagesR
  rw [bothF_eq, onceN_of, Bool.and_assoc]
theorem moves_both (c : Ctr) : movesR c = (decide ((c.ms.length : Int) ≤ 8) && bothF (fun x => placeN x.name (c.ms.map fun x => x.name) 0) (moveR c) c.ms 0) := by
  unfold movesR
  rw [bothF_eq, onceN_of, Bool.and_assoc]
end Go.Proofs.YthgdnpcfdgimlabGreat

/- Layer 6: names, the texts of a field, by the document. -/
namespace Go.Proofs.YthgdnpcfdgimlabGreat
open Go.RowKit
set_option linter.unusedVariables false
set_option linter.unusedSimpArgs false
set_option maxRecDepth 20000

theorem rName_any (s : ByteArray) (w : World) : Calls Tryz.prog 34 #[.string s] w (VGv (.bool (nameB s)) w) := by
  unfold nameB
  by_cases h1 : (1 : Int) ≤ (s.size : Int)
  · by_cases h2 : (s.size : Int) ≤ 16
    · go_enter Tryz.func34, Tryz.ntmps34
      go_wp2
      go_ret
      exact ⟨ret_bool (by simp; omega), rfl⟩
    · go_enter Tryz.func34, Tryz.ntmps34
      go_wp2
      go_ret
      exact ⟨ret_bool (by simp; omega), rfl⟩
  · go_enter Tryz.func34, Tryz.ntmps34
    go_wp2
    go_ret
    exact ⟨ret_bool (by simp; omega), rfl⟩
theorem tell_yes {R : Bool} {P : Prop} (h : R = true ↔ P) : P → Ending.returned (.bool true) = .returned (.bool R) := fun p => by rw [h.2 p]
theorem tell_no {R : Bool} {P : Prop} (h : R = true ↔ P) : ¬ P → Ending.returned (.bool false) = .returned (.bool R) := fun p => by
  cases R
  · rfl
  · exact absurd (h.1 rfl) p
set_option maxHeartbeats 4000000 in
theorem renum_any (x : Fld) (A : Option Addr) (c : Nat) (w : World) (h : Ss w (.slice A x.en.length c) x.en) : Calls Tryz.prog 81 #[agFl x A c] w (VMk (.bool (enumR x)) w) := by
  obtain ⟨A', c', he, hm, hx⟩ := h.open
  injection he with e1 e2 e3
  subst e1 e3
  unfold maxLen at hm
  have HX := Lib.hid hx
  have HY := Lib.hid (tell_yes (enum_iff x))
  have HZ := Lib.hid (tell_no (enum_iff x))
  have HB0 := Lib.hid (alloc1 w (bxFl x A c))
  have HK := Lib.hid (fun W (hb : Below (w.alloc (bxFl x A c)).heap.size (w.alloc (bxFl x A c)) W) => (Fdp_new w x A c).below hb (al_lt w _))
  clear hx h e2
  generalize enumR x = R at *
  have q0 := HK.out _ (Below.refl _ _)
  obtain ⟨-, q1, q2, -⟩ := q0
  have HBR := Lib.hid (Below.refl (w.alloc (bxFl x A c)).heap.size (w.alloc (bxFl x A c)))
  go_enter Tryz.func81, Tryz.ntmps81
  go_upto_region 1 with fail
  generalize hw0 : w.alloc (bxFl x A c) = w0 at *
  clear hw0
  by_cases h4 : 4 < x.en.length
  · have hi : (4 : Int) < (x.en.length : Int) := by omega
    go_wp2
    go_ret
    exact ⟨HZ.out (by rintro ⟨h, -⟩; omega), HB0.out⟩
  have hi : ¬ (4 : Int) < (x.en.length : Int) := by omega
  by_cases hbad : 0 < x.en.length ∧ x.f.kind ≠ 3
  · have hz : (0 : Int) < (x.en.length : Int) := by omega
    have hk : (x.f.kind != 3) = true := by simpa using hbad.2
    have HBAD := Lib.hid hbad
    clear hbad
    go_wp2
    go_ret
    exact ⟨HZ.out (by rintro ⟨-, h, -⟩; have := HBAD.out; omega), HB0.out⟩
  have HFI := Lib.hid (show x.en.length = 0 ∨ x.f.kind = 3 by omega)
  have hq : ((0 : Int) < (x.en.length : Int) ∧ (x.f.kind != 3) = false) ∨ ¬ (0 : Int) < (x.en.length : Int) := by
    by_cases hz : 0 < x.en.length
    · refine .inl ⟨by omega, ?_⟩
      have : x.f.kind = 3 := Classical.byContradiction fun h => hbad ⟨hz, h⟩
      rw [this]; rfl
    · exact .inr (by omega)
  have H4 := Lib.hid h4
  clear hbad h4
  rcases hq with ⟨hq, hk⟩ | hq
  · go_wp2
    go_loopw [3] (fun i wr => ∃ k : Nat, k ≤ x.en.length ∧ i = .int .i64 k ∧ (∀ (j : Nat) (hj : j < x.en.length), j < k → x.en[j].size ≤ 32 ∧ ∀ (m : Nat) (hm : m < j), ((x.en[m]'(by omega)).toList == x.en[j].toList) = false) ∧ Below w0.heap.size w0 wr) (fun i _ => x.en.length - (intOf i).toNat)
    case atStart => exact ⟨0, Nat.zero_le _, rfl, fun j hj h => absurd h (Nat.not_lt_zero _), HBR.out⟩
    case round =>
      clear q1 q2
      obtain ⟨k, hkl, rfl, hdone, hb⟩ := hrel
      obtain ⟨-, q1, q2, -⟩ := HK.out _ hb
      have HDONE := Lib.hid hdone
      have HB := Lib.hid hb
      clear hdone hb
      by_cases hlt : k < x.en.length
      · have hltI : (k : Int) < (x.en.length : Int) := by omega
        obtain ⟨ad, rfl, hbl, hcell⟩ := HX.out k hlt
        have hcellk := (HB.out.cell (p := ad.add k) (by rw [block_add]; have := HB0.out.size; omega)).trans ((HB0.out.cell (p := ad.add k) (by rw [block_add]; exact hbl)).trans hcell)
        clear hcell
        by_cases h32 : 32 < x.en[k].size
        · have h32I : (32 : Int) < (x.en[k].size : Int) := by omega
          go_wp2
          go_ret
          exact ⟨HZ.out (by rintro ⟨-, -, h⟩; have := (h k hlt).1; omega), bel2 HB0.out HB.out⟩
        have h32I : ¬ (32 : Int) < (x.en[k].size : Int) := by omega
        have H32 := Lib.hid h32
        clear h32
        go_wp2
        go_loopw [4] (fun i wr2 => ∃ m : Nat, m ≤ k ∧ i = .int .i64 m ∧ (∀ (m' : Nat) (hm : m' < x.en.length), m' < m → (x.en[m'].toList == x.en[k].toList) = false) ∧ Below w0.heap.size w0 wr2) (fun i _ => k - (intOf i).toNat)
        case atStart => exact ⟨0, Nat.zero_le _, rfl, fun j hj h => absurd h (Nat.not_lt_zero _), HB.out⟩
        case round =>
          clear q1 q2 hcellk
          obtain ⟨m, hmk, rfl, hd2, hb2⟩ := hrel
          obtain ⟨-, q1, q2, -⟩ := HK.out _ hb2
          have HD2 := Lib.hid hd2
          have HB2 := Lib.hid hb2
          clear hd2 hb2
          have hat : ∀ j (hj : j < x.en.length), _ := fun j hj => (HB2.out.cell (p := ad.add j) (by rw [block_add]; have := HB0.out.size; omega)).trans ((HB0.out.cell (p := ad.add j) (by rw [block_add]; exact hbl)).trans (by obtain ⟨ad2, e, -, h⟩ := HX.out j hj; injection e with e; subst e; exact h))
          have hck := hat k hlt
          by_cases hml : m < k
          · have hmI : (m : Int) < (k : Int) := by omega
            have hmx : m < x.en.length := by omega
            have hmxI : (m : Int) < (x.en.length : Int) := by omega
            have hcm := hat m hmx
            clear hat
            rcases hd : (x.en[k].toList == x.en[m].toList) with _ | _
            · have HD := Lib.hid hd
              go_wp2
              go_quiet (fail)
              go_wp2
              go_roundw
              case rel => exact ⟨m + 1, by omega, by go_num, fun m' hm' hlt' => by
                by_cases e : m' < m
                · exact HD2.out m' hm' e
                · obtain rfl : m' = m := by omega
                  rw [BEq.comm]; exact HD.out, below_drewN HB2.out _⟩
              case measure => simp [intOf]; omega
            · have HD := Lib.hid hd
              go_wp2
              go_quiet (fail)
              go_wp2
              go_ret
              exact ⟨HZ.out (by rintro ⟨-, -, h⟩; have h2 := (h k hlt).2 m hml; rw [BEq.comm, HD.out] at h2; cases h2), bel2 HB0.out (below_drewN HB2.out _)⟩
          · obtain rfl : m = k := by omega
            have hmI : ¬ (m : Int) < (m : Int) := by omega
            clear hat
            go_wp2
            go_roundw
            case rel => exact ⟨m + 1, by omega, by go_num, fun j hj hjk => by
              by_cases e : j < m
              · exact HDONE.out j hj e
              · obtain rfl : j = m := by omega
                exact ⟨by have := H32.out; omega, fun m' hm' => HD2.out m' (by omega) hm'⟩, HB2.out⟩
            case measure => simp [intOf]; omega
      · obtain rfl : k = x.en.length := by omega
        have hltI : ¬ (x.en.length : Int) < (x.en.length : Int) := by omega
        go_wp2
        go_ret
        exact ⟨HY.out ⟨by have := H4.out; omega, HFI.out, fun j hj => HDONE.out j hj hj⟩, bel2 HB0.out HB.out⟩
  · have hz0 : x.en.length = 0 := by omega
    have HZ0 := Lib.hid hz0
    clear hz0
    go_wp2
    go_loopw [3] (fun i wr => i = .int .i64 0 ∧ Below w0.heap.size w0 wr) (fun _ _ => 0)
    case atStart => exact ⟨rfl, HBR.out⟩
    case round =>
      clear q1 q2
      obtain ⟨rfl, hb⟩ := hrel
      obtain ⟨-, q1, q2, -⟩ := HK.out _ hb
      have HB := Lib.hid hb
      clear hb
      have hltI : ¬ (0 : Int) < (x.en.length : Int) := by have := HZ0.out; omega
      go_wp2
      go_ret
      exact ⟨HY.out ⟨by have := H4.out; omega, HFI.out, fun j hj => absurd hj (by have := HZ0.out; omega)⟩, bel2 HB0.out HB.out⟩
end Go.Proofs.YthgdnpcfdgimlabGreat

/- Layer 6: all fields, all stages, by the document. (Made by gen/gencref.py.) -/
namespace Go.Proofs.YthgdnpcfdgimlabGreat
open Go.RowKit
set_option linter.unusedVariables false
set_option linter.unusedSimpArgs false
set_option maxRecDepth 20000

set_option maxHeartbeats 4000000 in
theorem rfields_any (ct : Ctr) (FA : Option Addr) (fc : Nat) (SA : Option Addr) (sc : Nat) (MA : Option Addr) (mc : Nat) (w : World) (h : CtK w ct FA fc SA sc MA mc) :
    Calls Tryz.prog 35 #[agC ct.name FA ct.fs.length fc SA ct.ss.length sc MA ct.ms.length mc] w (VMk (.bool (fieldsR ct)) w) := by
  rw [fields_both]
  have hgf : ∀ (x : Fld) W, CtK W ct FA fc SA sc MA mc → Calls Tryz.prog 14 #[agC ct.name FA ct.fs.length fc SA ct.ss.length sc MA ct.ms.length mc, .string x.f.name] W (VMk (.int .i64 ((fun x : Fld => placeN x.f.name (ct.fs.map fun x => x.f.name) 0) x)) W) := fun x W h => rField_any ct FA fc SA sc MA mc x.f.name W h
  generalize (fun x : Fld => placeN x.f.name (ct.fs.map fun x => x.f.name) 0) = g at *
  have hm := h.f.2.1
  have hm1 := h.f.1
  unfold maxLen at hm
  have hlen : ct.fs.length ≤ 9223372036854775807 := by omega
  have HX := Lib.hid h.f.2.2.2
  have HB0 := Lib.hid (alloc1 w (bxC ct.name FA ct.fs.length fc SA ct.ss.length sc MA ct.ms.length mc))
  have HBR := Lib.hid (Below.refl (w.alloc (bxC ct.name FA ct.fs.length fc SA ct.ss.length sc MA ct.ms.length mc)).heap.size (w.alloc (bxC ct.name FA ct.fs.length fc SA ct.ss.length sc MA ct.ms.length mc)))
  have HC := Lib.hid (BxA.new w (csC ct.name FA ct.fs.length fc SA ct.ss.length sc MA ct.ms.length mc) 26)
  have HCT := Lib.hid h
  clear h hm hm1
  have HG := Lib.hid (fun x W hb => hgf x W (HCT.out.below hb))
  clear hgf
  have h00 : bothF g fieldR (ct.fs.drop 0) 0 = bothF g fieldR ct.fs 0 := rfl
  generalize bothF g fieldR ct.fs 0 = R at *
  have hsf := fun (w : World) (a : Addr) (m : Mode) (b : Nat) => run_store Tryz.prog w a (.float .f64 b) m rfl
  have c1 := HC.out.2 1 _ rfl
  go_enter Tryz.func35, Tryz.ntmps35
  go_upto_region 1 with fail
  generalize hw0 : w.alloc (bxC ct.name FA ct.fs.length fc SA ct.ss.length sc MA ct.ms.length mc) = w0 at *
  clear hw0
  by_cases h6 : 6 < ct.fs.length
  · have hi : (6 : Int) < (ct.fs.length : Int) := by omega
    go_wp2
    go_ret
    exact ⟨ret_bool (by simp; omega), HB0.out⟩
  have hi : ¬ (6 : Int) < (ct.fs.length : Int) := by omega
  have hd6 : decide ((ct.fs.length : Int) ≤ 6) = true := decide_eq_true (by omega)
  rw [hd6, Bool.true_and]
  clear hd6 h6
  have H00 := Lib.hid h00
  clear h00
  go_wp2
  go_loopw [3] (fun i wr => ∃ k : Nat, k ≤ ct.fs.length ∧ i = .int .i64 k ∧ bothF g fieldR (ct.fs.drop k) k = R ∧ Below w0.heap.size w0 wr) (fun i _ => ct.fs.length - (intOf i).toNat)
  case atStart => exact ⟨0, Nat.zero_le _, rfl, H00.out, HBR.out⟩
  case round =>
    clear c1
    obtain ⟨k, hk, rfl, hfi, hb⟩ := hrel
    have HB := Lib.hid hb
    clear hb
    have c0 := (HC.out.below HB.out).2 0 _ rfl
    have c1 := (HC.out.below HB.out).2 1 _ rfl
    have c2 := (HC.out.below HB.out).2 2 _ rfl
    have c3 := (HC.out.below HB.out).2 3 _ rfl
    by_cases hlt : k < ct.fs.length
    · have hltI : (k : Int) < (ct.fs.length : Int) := by omega
      obtain ⟨ad, rfl, hbl, hpart⟩ := HX.out k hlt
      have hpart2 := hpart.below (bel2 HB0.out HB.out) (by rw [block_add]; exact hbl)
      rw [List.drop_eq_getElem_cons hlt, bothF] at hfi
      have HGX := Lib.hid (HG.out ct.fs[k])
      generalize ct.fs[k] = x at *
      obtain ⟨A, c, hq, hdeep⟩ := hpart2
      have q0 : wr.cell? (ad.add (k * 8)) = some (.string x.f.name) := hq.1
      have q1 : wr.cell? ⟨(ad.add (k * 8)).block, (ad.add (k * 8)).off + 1, none⟩ = some (.int .i64 x.f.kind) := hq.2.1
      have q2 : wr.cell? ⟨(ad.add (k * 8)).block, (ad.add (k * 8)).off + 2, none⟩ = some (.slice A x.en.length c) := hq.2.2.1
      have q3 : wr.cell? ⟨(ad.add (k * 8)).block, (ad.add (k * 8)).off + 3, none⟩ = some (.int .i64 x.y.k) := hq.2.2.2.1
      have q4 : wr.cell? ⟨(ad.add (k * 8)).block, (ad.add (k * 8)).off + 4, none⟩ = some (.int .i64 x.y.i) := hq.2.2.2.2.1
      have q5 : wr.cell? ⟨(ad.add (k * 8)).block, (ad.add (k * 8)).off + 5, none⟩ = some (.bool x.y.b) := hq.2.2.2.2.2.1
      have q6 : wr.cell? ⟨(ad.add (k * 8)).block, (ad.add (k * 8)).off + 6, none⟩ = some (.string x.y.s) := hq.2.2.2.2.2.2.1
      have q7 : wr.cell? ⟨(ad.add (k * 8)).block, (ad.add (k * 8)).off + 7, none⟩ = some (.float .f64 x.y.n) := hq.2.2.2.2.2.2.2
      have HBX := Lib.hid (fun W (hb : Below (wr.alloc (bxFl x A c)).heap.size (wr.alloc (bxFl x A c)) W) => (Fdp_new wr x A c).below hb (al_lt wr _))
      have HB1 := Lib.hid (bel2 (bel2 HB0.out HB.out) (alloc1 wr (bxFl x A c)))
      have HBA := Lib.hid (bel2 HB.out (alloc1 wr (bxFl x A c)))
      have HDP := Lib.hid (Ss.below hdeep (alloc1 wr (bxFl x A c)) (Nat.le_refl _))
      have HN := Lib.hid (fun W => rName_any x.f.name W)
      have HFK := Lib.hid (fun (h : fieldR x = true) => field_kind h)
      have hP : fieldR x = (nameB x.f.name && enumR x && (fitsV x.y x.f.kind x.en == 0)) := rfl
      have he : ∀ W, Below (wr.alloc (bxFl x A c)).heap.size (wr.alloc (bxFl x A c)) W → _ := fun W hb => renum_any x A c W (Ss.below HDP.out hb (Nat.le_refl _))
      have hft : ∀ W, Below (wr.alloc (bxFl x A c)).heap.size (wr.alloc (bxFl x A c)) W → _ := fun W hb => rFits_val x.y x.f.name x.f.kind (.slice A x.en.length c) x.y x.en W (Ss.below HDP.out hb (Nat.le_refl _))
      have c1b := (HC.out.below HBA.out).2 1 _ rfl
      have c0b := (HC.out.below HBA.out).2 0 _ rfl
      have c2b := (HC.out.below HBA.out).2 2 _ rfl
      have c3b := (HC.out.below HBA.out).2 3 _ rfl
      obtain ⟨b0, b1, b2, b3, b4, b5, b6, b7⟩ := HBX.out _ (Below.refl _ _)
      have hne : (g x != (k : Int)) = !(g x == (k : Int)) := rfl
      generalize fieldR x = P at *
      generalize nameB x.f.name = n1 at *
      generalize enumR x = n3 at *
      generalize fitsV x.y x.f.kind x.en = z at *
      have HE := Lib.hid he
      have HF := Lib.hid hft
      clear he hft hpart hq hdeep
      go_upto_region 7 with fail
      have HW1 := Lib.hid (alloc1 wr (bxFl x A c))
      generalize hw1 : wr.alloc (bxFl x A c) = w1 at *
      clear hw1 c0 c1 c2 c3
      rcases n1 with _ | _
      · have hPf : P = false := by rw [hP]; rfl
        rw [hPf, Bool.and_false, Bool.false_and] at hfi
        have HFI := Lib.hid hfi
        clear hfi
        go_wp2_with (first | fail | (go_at_call 34; refine (HN.out _).mono ?_; rintro e w2 ⟨rfl, rfl⟩))
        go_ret
        exact ⟨ret_bool (by have h := HFI.out; exact h), bel2 HB0.out HBA.out⟩
      rcases hgk : (g x == (k : Int)) with _ | _
      · rw [hgk, Bool.false_and, Bool.false_and] at hfi
        rw [hgk] at hne
        simp only [Bool.not_false] at hne
        clear hgk
        have HFI := Lib.hid hfi
        clear hfi
        go_wp2_with (first | fail | (go_at_call 34; refine (HN.out _).mono ?_; rintro e w2 ⟨rfl, rfl⟩) | (go_at_call 14; refine (HGX.out _ HB1.out).mono ?_; rintro e w2 ⟨rfl, hb2⟩; clear b0 b1 b2 b3 b4 b5 b6 b7; obtain ⟨b0, b1, b2, b3, b4, b5, b6, b7⟩ := HBX.out _ hb2))
        go_ret
        exact ⟨ret_bool (by have h := HFI.out; exact h), bel2 HB0.out (bel2 HBA.out hb2)⟩
      rw [hgk, Bool.true_and] at hfi
      rw [hgk] at hne
      simp only [Bool.not_true] at hne
      clear hgk
      by_cases hk1 : x.f.kind < 1
      · have hPf : P = false := by cases hPv : P; rfl; exact absurd (HFK.out hPv).1 (by omega)
        rw [hPf, Bool.false_and] at hfi
        have HFI := Lib.hid hfi
        clear hfi
        go_wp2_with (first | fail | (go_at_call 34; refine (HN.out _).mono ?_; rintro e w2 ⟨rfl, rfl⟩) | (go_at_call 14; refine (HGX.out _ HB1.out).mono ?_; rintro e w2 ⟨rfl, hb2⟩; clear b0 b1 b2 b3 b4 b5 b6 b7; obtain ⟨b0, b1, b2, b3, b4, b5, b6, b7⟩ := HBX.out _ hb2))
        go_ret
        exact ⟨ret_bool (by have h := HFI.out; exact h), bel2 HB0.out (bel2 HBA.out hb2)⟩
      by_cases hk4 : 4 < x.f.kind
      · have hPf : P = false := by cases hPv : P; rfl; exact absurd (HFK.out hPv).2 (by omega)
        rw [hPf, Bool.false_and] at hfi
        have HFI := Lib.hid hfi
        clear hfi
        go_wp2_with (first | fail | (go_at_call 34; refine (HN.out _).mono ?_; rintro e w2 ⟨rfl, rfl⟩) | (go_at_call 14; refine (HGX.out _ HB1.out).mono ?_; rintro e w2 ⟨rfl, hb2⟩; clear b0 b1 b2 b3 b4 b5 b6 b7; obtain ⟨b0, b1, b2, b3, b4, b5, b6, b7⟩ := HBX.out _ hb2))
        go_ret
        exact ⟨ret_bool (by have h := HFI.out; exact h), bel2 HB0.out (bel2 HBA.out hb2)⟩
      rcases n3 with _ | _
      · have hPf : P = false := by rw [hP]; simp
        rw [hPf, Bool.false_and] at hfi
        have HFI := Lib.hid hfi
        clear hfi
        go_wp2_with (first | fail | (go_at_call 34; refine (HN.out _).mono ?_; rintro e w2 ⟨rfl, rfl⟩) | (go_at_call 14; refine (HGX.out _ HB1.out).mono ?_; rintro e w2 ⟨rfl, hb2⟩; clear b0 b1 b2 b3 b4 b5 b6 b7; obtain ⟨b0, b1, b2, b3, b4, b5, b6, b7⟩ := HBX.out _ hb2) | (go_at_call 81; refine (HE.out _ hb2).mono ?_; rintro e w3 ⟨rfl, hb3⟩; clear b0 b1 b2 b3 b4 b5 b6 b7; obtain ⟨b0, b1, b2, b3, b4, b5, b6, b7⟩ := HBX.out _ (bel2 hb2 hb3)))
        go_ret
        exact ⟨ret_bool (by have h := HFI.out; exact h), bel2 HB0.out (bel2 HBA.out (bel2 hb2 hb3))⟩
      by_cases hz : ¬ z = 0
      · have hPf : P = false := by rw [hP]; simp [hz]
        have hzb : (z != 0) = true := by simpa using hz
        rw [hPf, Bool.false_and] at hfi
        clear hz
        have HFI := Lib.hid hfi
        clear hfi
        go_wp2_with (first | fail | (go_at_call 34; refine (HN.out _).mono ?_; rintro e w2 ⟨rfl, rfl⟩) | (go_at_call 14; refine (HGX.out _ HB1.out).mono ?_; rintro e w2 ⟨rfl, hb2⟩; clear b0 b1 b2 b3 b4 b5 b6 b7; obtain ⟨b0, b1, b2, b3, b4, b5, b6, b7⟩ := HBX.out _ hb2) | (go_at_call 81; refine (HE.out _ hb2).mono ?_; rintro e w3 ⟨rfl, hb3⟩; clear b0 b1 b2 b3 b4 b5 b6 b7; obtain ⟨b0, b1, b2, b3, b4, b5, b6, b7⟩ := HBX.out _ (bel2 hb2 hb3)) | (go_at_call 82; refine (HF.out _ (bel2 hb2 hb3)).mono ?_; rintro e w4 ⟨rfl, hb4⟩))
        go_ret
        exact ⟨ret_bool (by have h := HFI.out; exact h), bel2 HB0.out (bel2 HBA.out (bel2 (bel2 hb2 hb3) hb4))⟩
      replace hz := Decidable.not_not.1 hz
      subst hz
      have hPt : P = true := by rw [hP]; rfl
      rw [hPt, Bool.true_and] at hfi
      have HFI := Lib.hid hfi
      clear hfi
      go_wp2_with (first | fail | (go_at_call 34; refine (HN.out _).mono ?_; rintro e w2 ⟨rfl, rfl⟩) | (go_at_call 14; refine (HGX.out _ HB1.out).mono ?_; rintro e w2 ⟨rfl, hb2⟩; clear b0 b1 b2 b3 b4 b5 b6 b7; obtain ⟨b0, b1, b2, b3, b4, b5, b6, b7⟩ := HBX.out _ hb2) | (go_at_call 81; refine (HE.out _ hb2).mono ?_; rintro e w3 ⟨rfl, hb3⟩; clear b0 b1 b2 b3 b4 b5 b6 b7; obtain ⟨b0, b1, b2, b3, b4, b5, b6, b7⟩ := HBX.out _ (bel2 hb2 hb3)) | (go_at_call 82; refine (HF.out _ (bel2 hb2 hb3)).mono ?_; rintro e w4 ⟨rfl, hb4⟩))
      go_roundw
      case rel => exact ⟨k + 1, by omega, by go_num, HFI.out, bel2 HBA.out (bel2 (bel2 hb2 hb3) hb4)⟩
      case measure => simp [intOf]; omega
    · obtain rfl : k = ct.fs.length := by omega
      have hltI : ¬ (ct.fs.length : Int) < (ct.fs.length : Int) := by omega
      rw [List.drop_length, bothF] at hfi
      have HF := Lib.hid hfi
      clear hfi
      go_wp2
      go_ret
      exact ⟨ret_bool HF.out, bel2 HB0.out HB.out⟩
end Go.Proofs.YthgdnpcfdgimlabGreat

/- Layer 6: all stages, by the document. (Made by gen/gencref.py.) -/
namespace Go.Proofs.YthgdnpcfdgimlabGreat
open Go.RowKit
set_option linter.unusedVariables false
set_option linter.unusedSimpArgs false
set_option maxRecDepth 20000

abbrev csSt (x : Stg) (A : Option Addr) (c : Nat) : List Value := [.string x.name, .int .i64 x.need, .slice A x.orgs.length c]
set_option maxHeartbeats 8000000 in
theorem rstages_any (ct : Ctr) (FA : Option Addr) (fc : Nat) (SA : Option Addr) (sc : Nat) (MA : Option Addr) (mc : Nat) (w : World) (h : CtK w ct FA fc SA sc MA mc) :
    Calls Tryz.prog 36 #[agC ct.name FA ct.fs.length fc SA ct.ss.length sc MA ct.ms.length mc] w (VMk (.bool (stagesR ct)) w) := by
  rw [stages_both]
  have hgf : ∀ (x : Stg) W, CtK W ct FA fc SA sc MA mc → Calls Tryz.prog 16 #[agC ct.name FA ct.fs.length fc SA ct.ss.length sc MA ct.ms.length mc, .string x.name] W (VMk (.int .i64 ((fun x : Stg => placeN x.name (ct.ss.map fun x => x.name) 0) x)) W) := fun x W h => rStage_any ct FA fc SA sc MA mc x.name W h
  generalize (fun x : Stg => placeN x.name (ct.ss.map fun x => x.name) 0) = g at *
  have hm := h.s.2.1
  have hm1 := h.s.1
  unfold maxLen at hm
  have hlen : ct.ss.length ≤ 9223372036854775807 := by omega
  have HX := Lib.hid h.s.2.2.2
  have HB0 := Lib.hid (alloc1 w (bxC ct.name FA ct.fs.length fc SA ct.ss.length sc MA ct.ms.length mc))
  have HBR := Lib.hid (Below.refl (w.alloc (bxC ct.name FA ct.fs.length fc SA ct.ss.length sc MA ct.ms.length mc)).heap.size (w.alloc (bxC ct.name FA ct.fs.length fc SA ct.ss.length sc MA ct.ms.length mc)))
  have HC := Lib.hid (BxA.new w (csC ct.name FA ct.fs.length fc SA ct.ss.length sc MA ct.ms.length mc) 26)
  have HCT := Lib.hid h
  clear h hm hm1
  have HG := Lib.hid (fun x W hb => hgf x W (HCT.out.below hb))
  clear hgf
  have h00 : bothF g stageR (ct.ss.drop 0) 0 = bothF g stageR ct.ss 0 := rfl
  generalize bothF g stageR ct.ss 0 = R at *
  have hsf := fun (w : World) (a : Addr) (m : Mode) (b : Nat) => run_store Tryz.prog w a (.float .f64 b) m rfl
  have c2 := HC.out.2 2 _ rfl
  go_enter Tryz.func36, Tryz.ntmps36
  go_upto_region 1 with fail
  generalize hw0 : w.alloc (bxC ct.name FA ct.fs.length fc SA ct.ss.length sc MA ct.ms.length mc) = w0 at *
  clear hw0
  by_cases h1 : ct.ss.length < 1
  · have hi : (ct.ss.length : Int) < 1 := by omega
    go_wp2
    go_ret
    exact ⟨ret_bool (by simp; omega), HB0.out⟩
  have hi1 : ¬ (ct.ss.length : Int) < 1 := by omega
  by_cases h6 : 6 < ct.ss.length
  · have hi : (6 : Int) < (ct.ss.length : Int) := by omega
    go_wp2
    go_ret
    exact ⟨ret_bool (by simp; omega), HB0.out⟩
  have hi : ¬ (6 : Int) < (ct.ss.length : Int) := by omega
  have hd6 : (decide (1 ≤ (ct.ss.length : Int)) && decide ((ct.ss.length : Int) ≤ 6)) = true := by simp; omega
  rw [hd6, Bool.true_and]
  clear hd6 h6 h1
  have H00 := Lib.hid h00
  clear h00
  go_wp2
  go_loopw [3] (fun i wr => ∃ k : Nat, k ≤ ct.ss.length ∧ i = .int .i64 k ∧ bothF g stageR (ct.ss.drop k) k = R ∧ Below w0.heap.size w0 wr) (fun i _ => ct.ss.length - (intOf i).toNat)
  case atStart => exact ⟨0, Nat.zero_le _, rfl, H00.out, HBR.out⟩
  case round =>
    clear c2
    obtain ⟨k, hk, rfl, hfi, hb⟩ := hrel
    have HB := Lib.hid hb
    clear hb
    have c0 := (HC.out.below HB.out).2 0 _ rfl
    have c1 := (HC.out.below HB.out).2 1 _ rfl
    have c2 := (HC.out.below HB.out).2 2 _ rfl
    have c3 := (HC.out.below HB.out).2 3 _ rfl
    by_cases hlt : k < ct.ss.length
    · have hltI : (k : Int) < (ct.ss.length : Int) := by omega
      obtain ⟨ad, rfl, hbl, hpart⟩ := HX.out k hlt
      have hpart2 := hpart.below (bel2 HB0.out HB.out) (by rw [block_add]; exact hbl)
      rw [List.drop_eq_getElem_cons hlt, bothF] at hfi
      have HGX := Lib.hid (HG.out ct.ss[k])
      generalize ct.ss[k] = x at *
      obtain ⟨A, c, h0, h1, h2, hdeep⟩ := hpart2
      have q0 : wr.cell? (ad.add (k * 3)) = some (.string x.name) := h0
      have q1 : wr.cell? ⟨(ad.add (k * 3)).block, (ad.add (k * 3)).off + 1, none⟩ = some (.int .i64 x.need) := h1
      have q2 : wr.cell? ⟨(ad.add (k * 3)).block, (ad.add (k * 3)).off + 2, none⟩ = some (.slice A x.orgs.length c) := h2
      have hol := hdeep.open
      obtain ⟨-, hom, hox⟩ := hol
      unfold maxLen at hom
      have HBX := Lib.hid (fun W (hb : Below (wr.alloc (.cells (csSt x A c).toArray 69)).heap.size (wr.alloc (.cells (csSt x A c).toArray 69)) W) => (BxA.new wr (csSt x A c) 69).below hb)
      have HB1 := Lib.hid (bel2 (bel2 HB0.out HB.out) (alloc1 wr (.cells (csSt x A c).toArray 69)))
      have HBA := Lib.hid (bel2 HB.out (alloc1 wr (.cells (csSt x A c).toArray 69)))
      have HOX := Lib.hid (fun W (hb : Below (wr.alloc (.cells (csSt x A c).toArray 69)).heap.size (wr.alloc (.cells (csSt x A c).toArray 69)) W) j (hj : j < x.orgs.length) => (by
        obtain ⟨ad2, e1, e2, e3⟩ := hox j hj
        exact (⟨ad2, e1, ((bel2 (alloc1 wr _) hb).cell (p := ad2.add j) (by rw [block_add]; exact e2)).trans e3⟩ : ∃ ad2, A = some ad2 ∧ W.cell? (ad2.add j) = some (.int .i64 x.orgs[j]))))
      have HN := Lib.hid (fun W => rName_any x.name W)
      have hP : stageR x = (nameB x.name && orgsR (-1) x.orgs && (decide (0 ≤ x.need) && decide (x.need ≤ (x.orgs.length : Int)))) := rfl
      have hol4 : orgsR (-1) x.orgs = true → (x.orgs.length : Int) + (-1) ≤ 3 := fun h => orgs_len x.orgs (-1) (by omega) h (by omega)
      have c1b := (HC.out.below HBA.out).2 1 _ rfl
      have c0b := (HC.out.below HBA.out).2 0 _ rfl
      have c2b := (HC.out.below HBA.out).2 2 _ rfl
      have c3b := (HC.out.below HBA.out).2 3 _ rfl
      have b0 := (HBX.out _ (Below.refl _ _)).2 0 _ rfl
      have b1 := (HBX.out _ (Below.refl _ _)).2 1 _ rfl
      have b2 := (HBX.out _ (Below.refl _ _)).2 2 _ rfl
      have hne : (g x != (k : Int)) = !(g x == (k : Int)) := rfl
      generalize stageR x = P at *
      generalize nameB x.name = n1 at *
      have hq0 : orgsR (-1) (x.orgs.drop 0) = orgsR (-1) x.orgs := rfl
      generalize orgsR (-1) x.orgs = Q at *
      clear hpart hdeep hox h0 h1 h2
      go_upto_region 7 with fail
      have HW1 := Lib.hid (alloc1 wr (.cells (csSt x A c).toArray 69))
      generalize hw1 : wr.alloc (.cells (csSt x A c).toArray 69) = w1 at *
      clear hw1 c0 c1 c2 c3
      rcases n1 with _ | _
      · have hPf : P = false := by rw [hP]; rfl
        rw [hPf, Bool.and_false, Bool.false_and] at hfi
        clear hq0
        have HFI := Lib.hid hfi
        clear hfi
        go_wp2_with (first | fail | (go_at_call 34; refine (HN.out _).mono ?_; rintro e w2 ⟨rfl, rfl⟩))
        go_ret
        exact ⟨ret_bool (by have h := HFI.out; exact h), bel2 HB0.out HBA.out⟩
      rcases hgk : (g x == (k : Int)) with _ | _
      · rw [hgk, Bool.false_and, Bool.false_and] at hfi
        rw [hgk] at hne
        simp only [Bool.not_false] at hne
        clear hgk hq0
        have HFI := Lib.hid hfi
        clear hfi
        go_wp2_with (first | fail | (go_at_call 34; refine (HN.out _).mono ?_; rintro e w2 ⟨rfl, rfl⟩) | (go_at_call 16; refine (HGX.out _ HB1.out).mono ?_; rintro e w2 ⟨rfl, hb2⟩; clear b0 b1 b2; have b0 := (HBX.out _ hb2).2 0 _ rfl; have b1 := (HBX.out _ hb2).2 1 _ rfl; have b2 := (HBX.out _ hb2).2 2 _ rfl))
        go_ret
        exact ⟨ret_bool (by have h := HFI.out; exact h), bel2 HB0.out (bel2 HBA.out hb2)⟩
      rw [hgk, Bool.true_and] at hfi
      rw [hgk] at hne
      simp only [Bool.not_true] at hne
      clear hgk
      by_cases hb0 : 4 < x.orgs.length
      · have hbI : (4 : Int) < (x.orgs.length : Int) := by omega
        have hPf : P = false := by cases Q with | false => rw [hP]; rfl | true => exact absurd (hol4 rfl) (by omega)
        rw [hPf, Bool.false_and] at hfi
        clear hq0
        have HFI := Lib.hid hfi
        clear hfi
        go_wp2_with (first | fail | (go_at_call 34; refine (HN.out _).mono ?_; rintro e w2 ⟨rfl, rfl⟩) | (go_at_call 16; refine (HGX.out _ HB1.out).mono ?_; rintro e w2 ⟨rfl, hb2⟩; clear b0 b1 b2; have b0 := (HBX.out _ hb2).2 0 _ rfl; have b1 := (HBX.out _ hb2).2 1 _ rfl; have b2 := (HBX.out _ hb2).2 2 _ rfl))
        go_ret
        exact ⟨ret_bool (by have h := HFI.out; exact h), bel2 HB0.out (bel2 HBA.out hb2)⟩
      have hbI0 : ¬ (4 : Int) < (x.orgs.length : Int) := by omega
      by_cases hb1 : x.need < 0
      · have hbI : x.need < 0 := by omega
        have hPf : P = false := by rw [hP]; have hd : decide (0 ≤ x.need) = false := decide_eq_false (by omega); rw [hd]; simp
        rw [hPf, Bool.false_and] at hfi
        clear hq0
        have HFI := Lib.hid hfi
        clear hfi
        go_wp2_with (first | fail | (go_at_call 34; refine (HN.out _).mono ?_; rintro e w2 ⟨rfl, rfl⟩) | (go_at_call 16; refine (HGX.out _ HB1.out).mono ?_; rintro e w2 ⟨rfl, hb2⟩; clear b0 b1 b2; have b0 := (HBX.out _ hb2).2 0 _ rfl; have b1 := (HBX.out _ hb2).2 1 _ rfl; have b2 := (HBX.out _ hb2).2 2 _ rfl))
        go_ret
        exact ⟨ret_bool (by have h := HFI.out; exact h), bel2 HB0.out (bel2 HBA.out hb2)⟩
      have hbI1 : ¬ x.need < 0 := by omega
      by_cases hb2 : (x.orgs.length : Int) < x.need
      · have hbI : (x.orgs.length : Int) < x.need := by omega
        have hPf : P = false := by rw [hP]; have hd : decide (x.need ≤ (x.orgs.length : Int)) = false := decide_eq_false (by omega); rw [hd]; simp
        rw [hPf, Bool.false_and] at hfi
        clear hq0
        have HFI := Lib.hid hfi
        clear hfi
        go_wp2_with (first | fail | (go_at_call 34; refine (HN.out _).mono ?_; rintro e w2 ⟨rfl, rfl⟩) | (go_at_call 16; refine (HGX.out _ HB1.out).mono ?_; rintro e w2 ⟨rfl, hb2⟩; clear b0 b1 b2; have b0 := (HBX.out _ hb2).2 0 _ rfl; have b1 := (HBX.out _ hb2).2 1 _ rfl; have b2 := (HBX.out _ hb2).2 2 _ rfl))
        go_ret
        exact ⟨ret_bool (by have h := HFI.out; exact h), bel2 HB0.out (bel2 HBA.out hb2)⟩
      have hbI2 : ¬ (x.orgs.length : Int) < x.need := by omega
      have hPt : P = Q := by
        rw [hP]
        have hd : (decide (0 ≤ x.need) && decide (x.need ≤ (x.orgs.length : Int))) = true := by simp; omega
        rw [hd]; simp
      rw [hPt] at hfi
      have HFI := Lib.hid hfi
      have HQ0 := Lib.hid hq0
      clear hfi hq0 hP hPt hol4 hb0 hb1 hb2
      go_wp2_with (first | fail | (go_at_call 34; refine (HN.out _).mono ?_; rintro e w2 ⟨rfl, rfl⟩) | (go_at_call 16; refine (HGX.out _ HB1.out).mono ?_; rintro e w2 ⟨rfl, hb2⟩; clear b0 b1 b2; have b0 := (HBX.out _ hb2).2 0 _ rfl; have b1 := (HBX.out _ hb2).2 1 _ rfl; have b2 := (HBX.out _ hb2).2 2 _ rfl))
      have HB2 := Lib.hid hb2
      go_loopw [5] (fun i wr2 => ∃ (m : Nat) (z : Int), m ≤ x.orgs.length ∧ i = .int .i64 m ∧ ((m = 0 ∧ z = -1) ∨ (0 < m ∧ 0 ≤ z ∧ x.orgs[m - 1]? = some z)) ∧ orgsR z (x.orgs.drop m) = Q ∧ Below w1.heap.size w1 wr2) (fun i _ => x.orgs.length - (intOf i).toNat)
      case atStart => exact ⟨0, -1, Nat.zero_le _, rfl, .inl ⟨rfl, rfl⟩, HQ0.out, HB2.out⟩
      case round =>
        clear b0 b1 b2 c0b c1b c2b c3b
        obtain ⟨m, z, hm, rfl, hz, hq, hb3⟩ := hrel
        have HB3 := Lib.hid hb3
        have b2 := (HBX.out _ hb3).2 2 _ rfl
        clear hb3
        by_cases hml : m < x.orgs.length
        · have hmI : (m : Int) < (x.orgs.length : Int) := by omega
          obtain ⟨od, rfl, hco⟩ := HOX.out _ HB3.out m hml
          have hprev : 0 < m → wr.cell? (od.add (m - 1)) = some (.int .i64 z) := fun h0 => by
            rcases hz with ⟨hz, -⟩ | ⟨-, -, hz⟩
            · omega
            · obtain ⟨od2, e1, e2⟩ := HOX.out _ HB3.out (m - 1) (by omega)
              injection e1 with e1
              subst e1
              rw [List.getElem?_eq_getElem (by omega)] at hz
              injection hz with hz
              rw [← hz]; exact e2
          rw [List.drop_eq_getElem_cons hml, orgsR] at hq
          have hnx : x.orgs[m + 1 - 1]? = some x.orgs[m] := by rw [Nat.add_sub_cancel]; exact List.getElem?_eq_getElem hml
          have HNX := Lib.hid hnx
          have HZ := Lib.hid hz
          have HPV := Lib.hid hprev
          clear hnx hz hprev
          generalize x.orgs[m] = o at *
          by_cases ho0 : o < 0
          · have hd : decide (o < 0) = true := decide_eq_true ho0
            have hqf : Q = false := by
              rw [← hq]
              have hz := HZ.out
              have hd : decide (z + 1 ≤ o) = false := decide_eq_false (by omega)
              rw [hd]; rfl
            rw [hqf, Bool.false_and] at HFI
            clear hq
            go_wp2
            go_quiet (fail)
            go_wp2
            go_ret
            exact ⟨ret_bool HFI.out, bel2 HB0.out (bel2 HBA.out (below_drewN HB3.out _))⟩
          have hd0 : decide (o < 0) = false := decide_eq_false ho0
          by_cases ho4 : 4 ≤ o
          · have hd : decide (4 ≤ o) = true := decide_eq_true ho4
            have hqf : Q = false := by
              rw [← hq]
              have hd : decide (o ≤ 3) = false := decide_eq_false (by omega)
              rw [hd]; simp
            rw [hqf, Bool.false_and] at HFI
            clear hq
            go_wp2
            go_quiet (fail)
            go_wp2
            go_ret
            exact ⟨ret_bool HFI.out, bel2 HB0.out (bel2 HBA.out (below_drewN HB3.out _))⟩
          have hd4 : decide (4 ≤ o) = false := decide_eq_false ho4
          by_cases hm0 : m = 0
          · subst hm0
            have hzz : z = -1 := by have hz := HZ.out; omega
            have hqt : orgsR o (x.orgs.drop (0 + 1)) = Q := by
              rw [← hq]
              have hd1 : decide (z + 1 ≤ o) = true := decide_eq_true (by omega)
              have hd2 : decide (o ≤ 3) = true := decide_eq_true (by omega)
              rw [hd1, hd2]; simp
            have HQT := Lib.hid hqt
            have hd9 : decide ((0 : Int) < 0) = false := rfl
            have hco0 := hco
            rw [Addr.add_zero'] at hco0
            clear hq hqt hzz
            go_wp2
            go_quiet (fail)
            go_wp2
            go_roundw
            case rel => exact ⟨0 + 1, o, by omega, by go_num, .inr ⟨by omega, by omega, HNX.out⟩, HQT.out, below_drewN HB3.out _⟩
            case measure => simp [intOf]; omega
          have hmp : (0 : Int) < (m : Int) := by omega
          have hmd : decide ((0 : Int) < (m : Int)) = true := decide_eq_true hmp
          have hmdN : decide (0 < m) = true := decide_eq_true (by omega)
          have hmpN : 0 < m := by omega
          have hpc := HPV.out (by omega)
          have hwm : IntKind.i64.wrap ((m : Int) - 1) = ((m - 1 : Nat) : Int) := by rw [IntKind.wrap_i64]; omega
          have him : (0 : Int) ≤ ((m - 1 : Nat) : Int) ∧ ((m - 1 : Nat) : Int) < (x.orgs.length : Int) := by omega
          have hzz : 0 ≤ z := by have hz := HZ.out; omega
          by_cases hoz : o ≤ z
          · have hd : decide (o ≤ z) = true := decide_eq_true hoz
            have hqf : Q = false := by
              rw [← hq]
              have hd : decide (z + 1 ≤ o) = false := decide_eq_false (by omega)
              rw [hd]; rfl
            rw [hqf, Bool.false_and] at HFI
            clear hq
            go_wp2
            go_quiet (fail)
            go_wp2
            go_ret
            exact ⟨ret_bool HFI.out, bel2 HB0.out (bel2 HBA.out (below_drewN HB3.out _))⟩
          · have hd : decide (o ≤ z) = false := decide_eq_false hoz
            have hqt : orgsR o (x.orgs.drop (m + 1)) = Q := by
              rw [← hq]
              have hd1 : decide (z + 1 ≤ o) = true := decide_eq_true (by omega)
              have hd2 : decide (o ≤ 3) = true := decide_eq_true (by omega)
              rw [hd1, hd2]; simp
            have HQT := Lib.hid hqt
            clear hq hqt
            go_wp2
            go_quiet (fail)
            go_wp2
            go_roundw
            case rel => exact ⟨m + 1, o, by omega, by go_num, .inr ⟨by omega, by omega, HNX.out⟩, HQT.out, below_drewN HB3.out _⟩
            case measure => simp [intOf]; omega
        · obtain rfl : m = x.orgs.length := by omega
          have hmI : ¬ (x.orgs.length : Int) < (x.orgs.length : Int) := by omega
          rw [List.drop_length, orgsR] at hq
          subst hq
          rw [Bool.true_and] at HFI
          go_wp2
          go_roundw
          case rel => exact ⟨k + 1, by omega, by go_num, HFI.out, bel2 HBA.out HB3.out⟩
          case measure => simp [intOf]; omega
    · obtain rfl : k = ct.ss.length := by omega
      have hltI : ¬ (ct.ss.length : Int) < (ct.ss.length : Int) := by omega
      rw [List.drop_length, bothF] at hfi
      have HF := Lib.hid hfi
      clear hfi
      go_wp2
      go_ret
      exact ⟨ret_bool HF.out, bel2 HB0.out HB.out⟩
end Go.Proofs.YthgdnpcfdgimlabGreat

/- Layer 5: Check, by the document. (Made by gen/generchk.py.) -/
namespace Go.Proofs.YthgdnpcfdgimlabGreat
open Go.RowKit
set_option linter.unusedVariables false
set_option linter.unusedSimpArgs false
set_option maxRecDepth 20000

set_option maxHeartbeats 2000000 in
theorem rkids_any (op : Int) (w : World) : Calls Tryz.prog 213 #[.int .i64 op] w (VGv (.int .i64 (kidsN op)) w) := by
  have key : ∀ r : Int, kidsN op = r → Calls Tryz.prog 213 #[.int .i64 op] w (VGv (.int .i64 r) w) → Calls Tryz.prog 213 #[.int .i64 op] w (VGv (.int .i64 (kidsN op)) w) := fun r h hc => by rw [h]; exact hc
  rcases Bool.eq_false_or_eq_true (op == 1) with h1 | h1
  · obtain rfl : op = 1 := by simpa using h1
    refine key _ rfl ?_
    clear key
    go_enter Tryz.func213, Tryz.ntmps213
    go_wp2
    go_ret
    exact ⟨rfl, rfl⟩
  rcases Bool.eq_false_or_eq_true (op == 2) with h2 | h2
  · obtain rfl : op = 2 := by simpa using h2
    refine key _ rfl ?_
    clear key
    go_enter Tryz.func213, Tryz.ntmps213
    go_wp2
    go_ret
    exact ⟨rfl, rfl⟩
  rcases Bool.eq_false_or_eq_true (op == 3) with h3 | h3
  · obtain rfl : op = 3 := by simpa using h3
    refine key _ rfl ?_
    clear key
    go_enter Tryz.func213, Tryz.ntmps213
    go_wp2
    go_ret
    exact ⟨rfl, rfl⟩
  rcases Bool.eq_false_or_eq_true (op == 12) with h12 | h12
  · obtain rfl : op = 12 := by simpa using h12
    refine key _ rfl ?_
    clear key
    go_enter Tryz.func213, Tryz.ntmps213
    go_wp2
    go_ret
    exact ⟨rfl, rfl⟩
  rcases Bool.eq_false_or_eq_true (op == 16) with h16 | h16
  · obtain rfl : op = 16 := by simpa using h16
    refine key _ rfl ?_
    clear key
    go_enter Tryz.func213, Tryz.ntmps213
    go_wp2
    go_ret
    exact ⟨rfl, rfl⟩
  rcases Bool.eq_false_or_eq_true (op == 4) with h4 | h4
  · obtain rfl : op = 4 := by simpa using h4
    refine key _ rfl ?_
    clear key
    go_enter Tryz.func213, Tryz.ntmps213
    go_wp2
    go_ret
    exact ⟨rfl, rfl⟩
  rcases Bool.eq_false_or_eq_true (op == 5) with h5 | h5
  · obtain rfl : op = 5 := by simpa using h5
    refine key _ rfl ?_
    clear key
    go_enter Tryz.func213, Tryz.ntmps213
    go_wp2
    go_ret
    exact ⟨rfl, rfl⟩
  rcases Bool.eq_false_or_eq_true (op == 6) with h6 | h6
  · obtain rfl : op = 6 := by simpa using h6
    refine key _ rfl ?_
    clear key
    go_enter Tryz.func213, Tryz.ntmps213
    go_wp2
    go_ret
    exact ⟨rfl, rfl⟩
  rcases Bool.eq_false_or_eq_true (op == 7) with h7 | h7
  · obtain rfl : op = 7 := by simpa using h7
    refine key _ rfl ?_
    clear key
    go_enter Tryz.func213, Tryz.ntmps213
    go_wp2
    go_ret
    exact ⟨rfl, rfl⟩
  rcases Bool.eq_false_or_eq_true (op == 14) with h14 | h14
  · obtain rfl : op = 14 := by simpa using h14
    refine key _ rfl ?_
    clear key
    go_enter Tryz.func213, Tryz.ntmps213
    go_wp2
    go_ret
    exact ⟨rfl, rfl⟩
  rcases Bool.eq_false_or_eq_true (op == 15) with h15 | h15
  · obtain rfl : op = 15 := by simpa using h15
    refine key _ rfl ?_
    clear key
    go_enter Tryz.func213, Tryz.ntmps213
    go_wp2
    go_ret
    exact ⟨rfl, rfl⟩
  rcases Bool.eq_false_or_eq_true (op == 8) with h8 | h8
  · obtain rfl : op = 8 := by simpa using h8
    refine key _ rfl ?_
    clear key
    go_enter Tryz.func213, Tryz.ntmps213
    go_wp2
    go_ret
    exact ⟨rfl, rfl⟩
  rcases Bool.eq_false_or_eq_true (op == 9) with h9 | h9
  · obtain rfl : op = 9 := by simpa using h9
    refine key _ rfl ?_
    clear key
    go_enter Tryz.func213, Tryz.ntmps213
    go_wp2
    go_ret
    exact ⟨rfl, rfl⟩
  rcases Bool.eq_false_or_eq_true (op == 10) with h10 | h10
  · obtain rfl : op = 10 := by simpa using h10
    refine key _ rfl ?_
    clear key
    go_enter Tryz.func213, Tryz.ntmps213
    go_wp2
    go_ret
    exact ⟨rfl, rfl⟩
  rcases Bool.eq_false_or_eq_true (op == 11) with h11 | h11
  · obtain rfl : op = 11 := by simpa using h11
    refine key _ rfl ?_
    clear key
    go_enter Tryz.func213, Tryz.ntmps213
    go_wp2
    go_ret
    exact ⟨rfl, rfl⟩
  rcases Bool.eq_false_or_eq_true (op == 13) with h13 | h13
  · obtain rfl : op = 13 := by simpa using h13
    refine key _ rfl ?_
    clear key
    go_enter Tryz.func213, Tryz.ntmps213
    go_wp2
    go_ret
    exact ⟨rfl, rfl⟩
  refine key (-1) (by unfold kidsN; simp only [beq_eq_false_iff_ne] at *; simp [*]) ?_
  go_enter Tryz.func213, Tryz.ntmps213
  go_wp2
  go_ret
  exact ⟨rfl, rfl⟩
set_option maxHeartbeats 1000000 in
theorem rfield_any (nm : ByteArray) (A : Option Addr) (c : Nat) (fs : List Fd) (w : World) (hf : FdK w A c fs) : Calls Tryz.prog 215 #[.string nm, .slice A fs.length c] w (VGv (.int .i64 (findX nm fs 0)) w) := by
  obtain ⟨h1, h2, h3, h4⟩ := hf
  unfold maxLen at h2
  have hlen : fs.length ≤ 9223372036854775807 := by omega
  have H4 := Lib.hid h4
  clear h4 h1 h2 h3
  go_enter Tryz.func215, Tryz.ntmps215
  go_wp2
  go_loop [5] (fun i => ∃ k : Nat, k ≤ fs.length ∧ i = .int .i64 k ∧ findX nm (fs.drop k) k = findX nm fs 0) (fun i => fs.length - (intOf i).toNat)
  case atStart => exact ⟨0, Nat.zero_le _, rfl, rfl⟩
  case round =>
    obtain ⟨k, hk, rfl, hfi⟩ := hrel
    by_cases hlt : k < fs.length
    · have hltI : (k : Int) < (fs.length : Int) := by omega
      obtain ⟨ad, A', n', c', y, rfl, hbl, hq⟩ := H4.out k hlt
      have q0 := hq.1
      rw [List.drop_eq_getElem_cons hlt, findX] at hfi
      clear hq
      generalize fs[k] = x at *
      rcases hd : (x.name.toList == nm.toList) with _ | _
      all_goals
        rw [hd] at hfi
        have HF := Lib.hid hfi
        clear hfi
        go_wp2
      · go_round
        case rel => exact ⟨k + 1, by omega, by go_num, by have h := HF.out; rwa [if_neg (by decide)] at h⟩
        case measure => simp [intOf]; omega
      · go_ret
        exact ⟨ret_int (by have h := HF.out; simpa using h), rfl⟩
    · obtain rfl : k = fs.length := by omega
      have hltI : ¬ (fs.length : Int) < (fs.length : Int) := by omega
      rw [List.drop_length, findX] at hfi
      have HF := Lib.hid hfi
      clear hfi
      go_wp2
      go_ret
      exact ⟨ret_int HF.out, rfl⟩
/-- kids' kinds in a row -/
def RdI (w : World) (KA : Option Addr) (kc : Nat) (l : List Int) : Prop := Rd w (.slice KA l.length kc) (l.map (Value.int .i64))
theorem RdI.at {w W : World} {KA : Option Addr} {kc : Nat} {l : List Int} (h : RdI w KA kc l) (hb : Below w.heap.size w W) (j : Nat) (hj : j < l.length) : ∃ ad, KA = some ad ∧ W.cell? (ad.add j) = some (.int .i64 l[j]) := by
  obtain ⟨A', c', hv, -, -, -, hx⟩ := h
  injection hv with e1 e2 e3
  subst e1
  obtain ⟨ad, ha, hl, hr⟩ := hx (by intro e; have h0 := congrArg List.length e; simp at h0; subst h0; simp at hj)
  exact ⟨ad, ha, (hb.cell (p := ad.add j) (by rw [block_add]; exact hl)).trans (hr j _ ((List.getElem?_map ..).trans (by simp [hj])))⟩
theorem len1 {α : Type} (l : List α) (h : l.length = 1) : ∃ a, l = [a] := by
  match l, h with
  | [a], _ => exact ⟨a, rfl⟩
theorem len2 {α : Type} (l : List α) (h : l.length = 2) : ∃ a b, l = [a, b] := by
  match l, h with
  | [a, b], _ => exact ⟨a, b, rfl⟩
theorem len3 {α : Type} (l : List α) (h : l.length = 3) : ∃ a b c, l = [a, b, c] := by
  match l, h with
  | [a, b, c], _ => exact ⟨a, b, c, rfl⟩
theorem rkids_same (op : Int) (W : World) : Calls Tryz.prog 213 #[.int .i64 op] W fun e w' => e = .returned (.int .i64 (kidsN op)) ∧ w' = W := (rkids_any op W).mono fun e w' h => ⟨h.1, h.2.symm⟩
set_option maxHeartbeats 16000000 in
theorem rkind_any (e : Ex) (A : Option Addr) (c : Nat) (KA : Option Addr) (kc : Nat) (l : List Int) (FA : Option Addr) (FC : Nat) (fs : List Fd) (w : World) (hk : RdI w KA kc l) (hl : l.length = e.kids.length) (hf : FdK w FA FC fs) :
    Calls Tryz.prog 178 #[agX e.op A e.kids.length c e.name e.val, .slice KA e.kids.length kc, .slice FA fs.length FC] w (VMk (pairII (kindX e l fs)) w) := by
  have hsp0 := kindX_bad e l fs
  have hsp1 := kindX_const e l fs
  have hsp2 := kindX_field e l fs
  have hsp3 := fun h h1 h2 => kindX_op e l fs h h1 h2 hl
  have hfk := formB_kids e
  have hfd : formB e = ((kidsN e.op == (e.kids.length : Int)) && ((e.op == 2 || (e.name.toList == [])) && (e.op == 1 || sameV e.val vZero))) := rfl
  rw [hfd] at hsp0 hsp1 hsp2 hsp3 hfk
  clear hfd
  have hkid := rkids_same e.op
  have hs : ∀ W, Calls Tryz.prog 214 #[agV e.val, agV vZero] W (VMk (.bool (sameV e.val vZero)) W) := fun W => rSame_val e.val vZero W
  have hgd := rGood_val e.val
  have hcx : constX e.val = if goodV e.val then (e.val.k, 0) else (0, 40) := rfl
  have HFK := Lib.hid hf
  have HFLD := Lib.hid (fun W (hb : Below w.heap.size w W) => rfield_any e.name FA FC fs W (hf.below hb (Nat.le_refl _)))
  have HKW := Lib.hid (fun W (hb : Below w.heap.size w W) j (hj : j < l.length) => hk.at hb j hj)
  rw [hcx] at hsp1
  clear hcx hk hf
  generalize kindX e l fs = RES at *
  generalize e.kids.length = n at *
  generalize e.op = op at *
  generalize e.name = nm at *
  generalize e.val = v at *
  generalize goodV v = gv at *
  have HLN := Lib.hid hl
  have HG := Lib.hid hgd
  have HK := Lib.hid hkid
  have HS := Lib.hid hs
  have HSP := Lib.hid (And.intro hsp0 (And.intro hsp1 (And.intro hsp2 (And.intro hsp3 hfk))))
  have HN := Lib.hid (Kid_new w op A n c nm v)
  have HKP := Lib.hid (fun (W W' : World) (h : Below w.heap.size w W ∧ CellsX W w.heap.size op A n c nm v) (hb : Below W.heap.size W W') => (CellsX_keep w W W' op A n c nm v h hb))
  simp only [CellsX] at HKP
  have hen : (nm.toList == (⟨#[]⟩ : ByteArray).toList) = (nm.toList == []) := by rw [empty_list]
  clear hl hgd hkid hs hsp0 hsp1 hsp2 hsp3 hfk
  generalize sameV v vZero = sv at *
  have HB0 := Lib.hid (alloc1 w (bxX op A n c nm v))
  rcases h1 : (kidsN op == (n : Int)) with _ | _
  · have hform : ((kidsN op == (n : Int)) && ((op == 2 || (nm.toList == [])) && (op == 1 || sv))) = false := by rw [h1]; rfl
    have h1n : (kidsN op != (n : Int)) = true := by rw [bne, h1]; rfl
    go_enter Tryz.func178, Tryz.ntmps178
    go_wp2
    go_quiet ((go_at_call 213; exact Calls.quiet_of_same (HK.out _)))
    go_wp2
    have HFIN := Lib.hid (HSP.out.1 hform)
    exact bodyPost_ret (v := pairII (0, 1)) (by simp [results, Tryz.results178, go_sem]) rfl ⟨by rw [HFIN.out], below_drewN HB0.out _⟩
  have h1n : (kidsN op != (n : Int)) = false := by rw [bne, h1]; rfl
  by_cases o2 : op = 2
  · subst o2
    have h2 : ((2 : Int) == 2) = true := rfl
    rcases sv with _ | _
    · have hform : ((kidsN 2 == (n : Int)) && (((2 : Int) == 2 || (nm.toList == [])) && ((2 : Int) == 1 || false))) = false := by simp
      go_enter Tryz.func178, Tryz.ntmps178
      go_wp2
      refine wp_region_held_drew (S := (fun W => Below w.heap.size w W ∧ W.cell? ⟨w.heap.size, 0, none⟩ = some (.int .i64 2) ∧ W.cell? ⟨w.heap.size, 1, none⟩ = some (.slice A n c) ∧ W.cell? ⟨w.heap.size, 2, none⟩ = some (.string nm) ∧ W.cell? ⟨w.heap.size, 3, none⟩ = some (.int .i64 v.k) ∧ W.cell? ⟨w.heap.size, 4, none⟩ = some (.int .i64 v.i) ∧ W.cell? ⟨w.heap.size, 5, none⟩ = some (.bool v.b) ∧ W.cell? ⟨w.heap.size, 6, none⟩ = some (.string v.s) ∧ W.cell? ⟨w.heap.size, 7, none⟩ = some (.float .f64 v.n))) (by kernel_rfl) (⟨((Below.refl _ _).alloc (Nat.le_refl _) _).drew, HN.out.1, HN.out.2.1, HN.out.2.2.1, HN.out.2.2.2.1, HN.out.2.2.2.2.1, HN.out.2.2.2.2.2.1, HN.out.2.2.2.2.2.2.1, HN.out.2.2.2.2.2.2.2⟩) (fun hHeld => ?_)
      refine wpAnyH_take (i := 0) (oi := ?oi1) (v := ?v1) ?hi1 (by kernel_rfl) (by kernel_rfl) (by kernel_rfl) ?hQ1 (Or.inl ⟨?hw1, ?hy1⟩) (by assumption) ?rest1
      case hi1 => (simp only [gA, gB, gC]; rfl)
      case hQ1 => exact fun _ _ _ h => h
      case hw1 => rfl
      case hy1 => (intro w hSw; (try dsimp only at hSw); go_simp; try with_reducible rfl)
      (try simp only [Act.put, sA, sB, sC])
      refine wpAnyH_take (i := 1) (oi := ?oi2) (v := ?v2) ?hi2 (by kernel_rfl) (by kernel_rfl) (by kernel_rfl) ?hQ2 (Or.inl ⟨?hw2, ?hy2⟩) (by assumption) ?rest2
      case hi2 => (simp only [gA, gB, gC]; rfl)
      case hQ2 => exact fun _ _ _ h => h
      case hw2 => rfl
      case hy2 => (intro w hSw; (try dsimp only at hSw); go_simp; try with_reducible rfl)
      (try simp only [Act.put, sA, sB, sC])
      refine wpAnyH_take (i := 3) (oi := ?oi3) (v := ?v3) ?hi3 (by kernel_rfl) (by kernel_rfl) (by kernel_rfl) ?hQ3 (Or.inl ⟨?hw3, ?hy3⟩) (by assumption) ?rest3
      case hi3 => (simp only [gA, gB, gC]; rfl)
      case hQ3 => exact fun _ _ _ h => h
      case hw3 => rfl
      case hy3 => (intro w hSw; (try dsimp only at hSw); go_simp; try with_reducible rfl)
      (try simp only [Act.put, sA, sB, sC])
      refine wpAnyH_take (i := 4) (oi := ?oi4) (v := ?v4) ?hi4 (by kernel_rfl) (by kernel_rfl) (by kernel_rfl) ?hQ4 (Or.inl ⟨?hw4, ?hy4⟩) (by assumption) ?rest4
      case hi4 => (simp only [gA, gB, gC]; rfl)
      case hQ4 => exact fun _ _ _ h => h
      case hw4 => rfl
      case hy4 => (intro w hSw; (try dsimp only at hSw); go_simp; try with_reducible rfl)
      (try simp only [Act.put, sA, sB, sC])
      refine wpAnyH_take (i := 5) (oi := ?oi5) (v := ?v5) ?hi5 (by kernel_rfl) (by kernel_rfl) (by kernel_rfl) ?hQ5 (Or.inl ⟨?hw5, ?hy5⟩) (by assumption) ?rest5
      case hi5 => (simp only [gA, gB, gC]; rfl)
      case hQ5 => exact fun _ _ _ h => h
      case hw5 => rfl
      case hy5 => (intro w hSw; (try dsimp only at hSw); go_simp; try with_reducible rfl)
      (try simp only [Act.put, sA, sB, sC])
      refine wpAnyH_ready (rs := [2]) (by kernel_rfl) (by simp) ?_
      refine AllReadyH.cons (o := ?o6) ?ho6 (fun K hK => ?st6) AllReadyH.nil
      case ho6 => (simp only [gA, gB, gC]; rfl)
      go_simp
      refine (HK.out _).mono ?_; rintro e wK ⟨rfl, rfl⟩
      refine hK.out _ _ ?_ (fun hHeld => ?_)
      · (try dsimp only); (first | assumption | exact HKP.out _ _ (by assumption) hbA)
      clear hK K
      (try simp only [Act.put, sA, sB, sC])
      refine wpAnyH_take (i := 6) (oi := ?oi7) (v := ?v7) ?hi7 (by kernel_rfl) (by kernel_rfl) (by kernel_rfl) ?hQ7 (Or.inl ⟨?hw7, ?hy7⟩) (by assumption) ?rest7
      case hi7 => (simp only [gA, gB, gC]; rfl)
      case hQ7 => exact fun _ _ _ h => h
      case hw7 => rfl
      case hy7 => (intro w hSw; (try dsimp only at hSw); go_simp; try with_reducible rfl)
      (try simp only [Act.put, sA, sB, sC])
      refine wpAnyH_take (i := 7) (oi := ?oi8) (v := ?v8) ?hi8 (by kernel_rfl) (by kernel_rfl) (by kernel_rfl) ?hQ8 (Or.inl ⟨?hw8, ?hy8⟩) (by assumption) ?rest8
      case hi8 => (simp only [gA, gB, gC]; rfl)
      case hQ8 => exact fun _ _ _ h => h
      case hw8 => rfl
      case hy8 => (intro w hSw; (try dsimp only at hSw); go_simp; try with_reducible rfl)
      (try simp only [Act.put, sA, sB, sC])
      refine wpAnyH_take (i := 8) (oi := ?oi9) (v := ?v9) ?hi9 (by kernel_rfl) (by kernel_rfl) (by kernel_rfl) ?hQ9 (Or.inl ⟨?hw9, ?hy9⟩) (by assumption) ?rest9
      case hi9 => (simp only [gA, gB, gC]; rfl)
      case hQ9 => exact fun _ _ _ h => h
      case hw9 => rfl
      case hy9 => (intro w hSw; (try dsimp only at hSw); go_simp; try with_reducible rfl)
      (try simp only [Act.put, sA, sB, sC])
      refine wpAnyH_take (i := 9) (oi := ?oi10) (v := ?v10) ?hi10 (by kernel_rfl) (by kernel_rfl) (by kernel_rfl) ?hQ10 (Or.inl ⟨?hw10, ?hy10⟩) (by assumption) ?rest10
      case hi10 => (simp only [gA, gB, gC]; rfl)
      case hQ10 => exact fun _ _ _ h => h
      case hw10 => rfl
      case hy10 => (intro w hSw; (try dsimp only at hSw); go_simp; try with_reducible rfl)
      (try simp only [Act.put, sA, sB, sC])
      refine wpAnyH_take (i := 10) (oi := ?oi11) (v := ?v11) ?hi11 (by kernel_rfl) (by kernel_rfl) (by kernel_rfl) ?hQ11 (Or.inl ⟨?hw11, ?hy11⟩) (by assumption) ?rest11
      case hi11 => (simp only [gA, gB, gC]; rfl)
      case hQ11 => exact fun _ _ _ h => h
      case hw11 => rfl
      case hy11 => (intro w hSw; (try dsimp only at hSw); go_simp; try with_reducible rfl)
      (try simp only [Act.put, sA, sB, sC])
      refine wpAnyH_take (i := 11) (oi := ?oi12) (v := ?v12) ?hi12 (by kernel_rfl) (by kernel_rfl) (by kernel_rfl) ?hQ12 (Or.inl ⟨?hw12, ?hy12⟩) (by assumption) ?rest12
      case hi12 => (simp only [gA, gB, gC]; rfl)
      case hQ12 => exact fun _ _ _ h => h
      case hw12 => rfl
      case hy12 => (intro w hSw; (try dsimp only at hSw); go_simp; try with_reducible rfl)
      (try simp only [Act.put, sA, sB, sC])
      refine wpAnyH_take (i := 12) (oi := ?oi13) (v := undef) ?hi13 (by kernel_rfl) (by kernel_rfl) (by kernel_rfl) ?hQ13 (Or.inr ⟨?hw13, rfl⟩) (by assumption) ?rest13
      case hi13 => (simp only [gA, gB, gC]; rfl)
      case hQ13 => exact fun _ _ _ h => h
      case hw13 => rfl
      (try simp only [Act.put, sA, sB, sC])
      refine wpAnyH_take (i := 13) (oi := ?oi14) (v := undef) ?hi14 (by kernel_rfl) (by kernel_rfl) (by kernel_rfl) ?hQ14 (Or.inr ⟨?hw14, rfl⟩) (by assumption) ?rest14
      case hi14 => (simp only [gA, gB, gC]; rfl)
      case hQ14 => exact fun _ _ _ h => h
      case hw14 => rfl
      (try simp only [Act.put, sA, sB, sC])
      refine wpAnyH_take (i := 14) (oi := ?oi15) (v := undef) ?hi15 (by kernel_rfl) (by kernel_rfl) (by kernel_rfl) ?hQ15 (Or.inr ⟨?hw15, rfl⟩) (by assumption) ?rest15
      case hi15 => (simp only [gA, gB, gC]; rfl)
      case hQ15 => exact fun _ _ _ h => h
      case hw15 => rfl
      (try simp only [Act.put, sA, sB, sC])
      refine wpAnyH_take (i := 15) (oi := ?oi16) (v := ?v16) ?hi16 (by kernel_rfl) (by kernel_rfl) (by kernel_rfl) ?hQ16 (Or.inl ⟨?hw16, ?hy16⟩) (by assumption) ?rest16
      case hi16 => (simp only [gA, gB, gC]; rfl)
      case hQ16 => exact fun _ _ _ h => h
      case hw16 => rfl
      case hy16 => (intro w hSw; (try dsimp only at hSw); go_simp; try with_reducible rfl)
      (try simp only [Act.put, sA, sB, sC])
      refine wpAnyH_take (i := 16) (oi := ?oi17) (v := ?v17) ?hi17 (by kernel_rfl) (by kernel_rfl) (by kernel_rfl) ?hQ17 (Or.inl ⟨?hw17, ?hy17⟩) (by assumption) ?rest17
      case hi17 => (simp only [gA, gB, gC]; rfl)
      case hQ17 => exact fun _ _ _ h => h
      case hw17 => rfl
      case hy17 => (intro w hSw; (try dsimp only at hSw); go_simp; try with_reducible rfl)
      (try simp only [Act.put, sA, sB, sC])
      refine wpAnyH_take (i := 17) (oi := ?oi18) (v := ?v18) ?hi18 (by kernel_rfl) (by kernel_rfl) (by kernel_rfl) ?hQ18 (Or.inl ⟨?hw18, ?hy18⟩) (by assumption) ?rest18
      case hi18 => (simp only [gA, gB, gC]; rfl)
      case hQ18 => exact fun _ _ _ h => h
      case hw18 => rfl
      case hy18 => (intro w hSw; (try dsimp only at hSw); go_simp; try with_reducible rfl)
      (try simp only [Act.put, sA, sB, sC])
      refine wpAnyH_take (i := 18) (oi := ?oi19) (v := ?v19) ?hi19 (by kernel_rfl) (by kernel_rfl) (by kernel_rfl) ?hQ19 (Or.inl ⟨?hw19, ?hy19⟩) (by assumption) ?rest19
      case hi19 => (simp only [gA, gB, gC]; rfl)
      case hQ19 => exact fun _ _ _ h => h
      case hw19 => rfl
      case hy19 => (intro w hSw; (try dsimp only at hSw); go_simp; try with_reducible rfl)
      (try simp only [Act.put, sA, sB, sC])
      refine wpAnyH_take (i := 19) (oi := ?oi20) (v := ?v20) ?hi20 (by kernel_rfl) (by kernel_rfl) (by kernel_rfl) ?hQ20 (Or.inl ⟨?hw20, ?hy20⟩) (by assumption) ?rest20
      case hi20 => (simp only [gA, gB, gC]; rfl)
      case hQ20 => exact fun _ _ _ h => h
      case hw20 => rfl
      case hy20 => (intro w hSw; (try dsimp only at hSw); go_simp; try with_reducible rfl)
      (try simp only [Act.put, sA, sB, sC])
      refine wpAnyH_take (i := 20) (oi := ?oi21) (v := ?v21) ?hi21 (by kernel_rfl) (by kernel_rfl) (by kernel_rfl) ?hQ21 (Or.inl ⟨?hw21, ?hy21⟩) (by assumption) ?rest21
      case hi21 => (simp only [gA, gB, gC]; rfl)
      case hQ21 => exact fun _ _ _ h => h
      case hw21 => rfl
      case hy21 => (intro w hSw; (try dsimp only at hSw); go_simp; try with_reducible rfl)
      (try simp only [Act.put, sA, sB, sC])
      refine wpAnyH_take (i := 21) (oi := ?oi22) (v := ?v22) ?hi22 (by kernel_rfl) (by kernel_rfl) (by kernel_rfl) ?hQ22 (Or.inl ⟨?hw22, ?hy22⟩) (by assumption) ?rest22
      case hi22 => (simp only [gA, gB, gC]; rfl)
      case hQ22 => exact fun _ _ _ h => h
      case hw22 => rfl
      case hy22 => (intro w hSw; (try dsimp only at hSw); go_simp; try with_reducible rfl)
      (try simp only [Act.put, sA, sB, sC])
      refine wpAnyH_take (i := 22) (oi := ?oi23) (v := ?v23) ?hi23 (by kernel_rfl) (by kernel_rfl) (by kernel_rfl) ?hQ23 (Or.inl ⟨?hw23, ?hy23⟩) (by assumption) ?rest23
      case hi23 => (simp only [gA, gB, gC]; rfl)
      case hQ23 => exact fun _ _ _ h => h
      case hw23 => rfl
      case hy23 => (intro w hSw; (try dsimp only at hSw); go_simp; try with_reducible rfl)
      (try simp only [Act.put, sA, sB, sC])
      refine wpAnyH_take (i := 23) (oi := ?oi24) (v := ?v24) ?hi24 (by kernel_rfl) (by kernel_rfl) (by kernel_rfl) ?hQ24 (Or.inl ⟨?hw24, ?hy24⟩) (by assumption) ?rest24
      case hi24 => (simp only [gA, gB, gC]; rfl)
      case hQ24 => exact fun _ _ _ h => h
      case hw24 => rfl
      case hy24 => (intro w hSw; (try dsimp only at hSw); go_simp; try with_reducible rfl)
      (try simp only [Act.put, sA, sB, sC])
      refine wpAnyH_take (i := 24) (oi := ?oi25) (v := ?v25) ?hi25 (by kernel_rfl) (by kernel_rfl) (by kernel_rfl) ?hQ25 (Or.inl ⟨?hw25, ?hy25⟩) (by assumption) ?rest25
      case hi25 => (simp only [gA, gB, gC]; rfl)
      case hQ25 => exact fun _ _ _ h => h
      case hw25 => rfl
      case hy25 => (intro w hSw; (try dsimp only at hSw); go_simp; try with_reducible rfl)
      (try simp only [Act.put, sA, sB, sC])
      refine wpAnyH_ready (rs := [25]) (by kernel_rfl) (by simp) ?_
      refine AllReadyH.cons (o := ?o26) ?ho26 (fun K hK => ?st26) AllReadyH.nil
      case ho26 => (simp only [gA, gB, gC]; rfl)
      go_simp
      refine (HS.out _).mono ?_; rintro e wA ⟨rfl, hbA⟩
      refine hK.out _ _ ?_ (fun hHeld => ?_)
      · (try dsimp only); (first | assumption | exact HKP.out _ _ (by assumption) hbA)
      clear hK K
      (try simp only [Act.put, sA, sB, sC])
      refine wpAnyH_take (i := 26) (oi := ?oi27) (v := ?v27) ?hi27 (by kernel_rfl) (by kernel_rfl) (by kernel_rfl) ?hQ27 (Or.inl ⟨?hw27, ?hy27⟩) (by assumption) ?rest27
      case hi27 => (simp only [gA, gB, gC]; rfl)
      case hQ27 => exact fun _ _ _ h => h
      case hw27 => rfl
      case hy27 => (intro w hSw; (try dsimp only at hSw); go_simp; try with_reducible rfl)
      (try simp only [Act.put, sA, sB, sC])
      refine wpAnyH_take (i := 27) (oi := ?oi28) (v := ?v28) ?hi28 (by kernel_rfl) (by kernel_rfl) (by kernel_rfl) ?hQ28 (Or.inl ⟨?hw28, ?hy28⟩) (by assumption) ?rest28
      case hi28 => (simp only [gA, gB, gC]; rfl)
      case hQ28 => exact fun _ _ _ h => h
      case hw28 => rfl
      case hy28 => (intro w hSw; (try dsimp only at hSw); go_simp; try with_reducible rfl)
      (try simp only [Act.put, sA, sB, sC])
      refine wpAnyH_take (i := 28) (oi := ?oi29) (v := ?v29) ?hi29 (by kernel_rfl) (by kernel_rfl) (by kernel_rfl) ?hQ29 (Or.inl ⟨?hw29, ?hy29⟩) (by assumption) ?rest29
      case hi29 => (simp only [gA, gB, gC]; rfl)
      case hQ29 => exact fun _ _ _ h => h
      case hw29 => rfl
      case hy29 => (intro w hSw; (try dsimp only at hSw); go_simp; try with_reducible rfl)
      (try simp only [Act.put, sA, sB, sC])
      refine wpAnyH_done (by kernel_rfl) ?_ _
      have hB := And.left hHeld
      have hfin := HSP.out.1 hform
      have HFIN := Lib.hid hfin
      clear hfin
      go_wp2
      exact bodyPost_ret (v := pairII (0, 1)) (by simp [results, Tryz.results178, go_sem]) rfl ⟨by rw [HFIN.out], hB⟩
    · have hform : ((kidsN 2 == (n : Int)) && (((2 : Int) == 2 || (nm.toList == [])) && ((2 : Int) == 1 || true))) = true := by rw [h1]; rfl
      go_enter Tryz.func178, Tryz.ntmps178
      go_wp2
      refine wp_region_held_drew (S := (fun W => Below w.heap.size w W ∧ W.cell? ⟨w.heap.size, 0, none⟩ = some (.int .i64 2) ∧ W.cell? ⟨w.heap.size, 1, none⟩ = some (.slice A n c) ∧ W.cell? ⟨w.heap.size, 2, none⟩ = some (.string nm) ∧ W.cell? ⟨w.heap.size, 3, none⟩ = some (.int .i64 v.k) ∧ W.cell? ⟨w.heap.size, 4, none⟩ = some (.int .i64 v.i) ∧ W.cell? ⟨w.heap.size, 5, none⟩ = some (.bool v.b) ∧ W.cell? ⟨w.heap.size, 6, none⟩ = some (.string v.s) ∧ W.cell? ⟨w.heap.size, 7, none⟩ = some (.float .f64 v.n))) (by kernel_rfl) (⟨((Below.refl _ _).alloc (Nat.le_refl _) _).drew, HN.out.1, HN.out.2.1, HN.out.2.2.1, HN.out.2.2.2.1, HN.out.2.2.2.2.1, HN.out.2.2.2.2.2.1, HN.out.2.2.2.2.2.2.1, HN.out.2.2.2.2.2.2.2⟩) (fun hHeld => ?_)
      refine wpAnyH_take (i := 0) (oi := ?oi30) (v := ?v30) ?hi30 (by kernel_rfl) (by kernel_rfl) (by kernel_rfl) ?hQ30 (Or.inl ⟨?hw30, ?hy30⟩) (by assumption) ?rest30
      case hi30 => (simp only [gA, gB, gC]; rfl)
      case hQ30 => exact fun _ _ _ h => h
      case hw30 => rfl
      case hy30 => (intro w hSw; (try dsimp only at hSw); go_simp; try with_reducible rfl)
      (try simp only [Act.put, sA, sB, sC])
      refine wpAnyH_take (i := 1) (oi := ?oi31) (v := ?v31) ?hi31 (by kernel_rfl) (by kernel_rfl) (by kernel_rfl) ?hQ31 (Or.inl ⟨?hw31, ?hy31⟩) (by assumption) ?rest31
      case hi31 => (simp only [gA, gB, gC]; rfl)
      case hQ31 => exact fun _ _ _ h => h
      case hw31 => rfl
      case hy31 => (intro w hSw; (try dsimp only at hSw); go_simp; try with_reducible rfl)
      (try simp only [Act.put, sA, sB, sC])
      refine wpAnyH_take (i := 3) (oi := ?oi32) (v := ?v32) ?hi32 (by kernel_rfl) (by kernel_rfl) (by kernel_rfl) ?hQ32 (Or.inl ⟨?hw32, ?hy32⟩) (by assumption) ?rest32
      case hi32 => (simp only [gA, gB, gC]; rfl)
      case hQ32 => exact fun _ _ _ h => h
      case hw32 => rfl
      case hy32 => (intro w hSw; (try dsimp only at hSw); go_simp; try with_reducible rfl)
      (try simp only [Act.put, sA, sB, sC])
      refine wpAnyH_take (i := 4) (oi := ?oi33) (v := ?v33) ?hi33 (by kernel_rfl) (by kernel_rfl) (by kernel_rfl) ?hQ33 (Or.inl ⟨?hw33, ?hy33⟩) (by assumption) ?rest33
      case hi33 => (simp only [gA, gB, gC]; rfl)
      case hQ33 => exact fun _ _ _ h => h
      case hw33 => rfl
      case hy33 => (intro w hSw; (try dsimp only at hSw); go_simp; try with_reducible rfl)
      (try simp only [Act.put, sA, sB, sC])
      refine wpAnyH_take (i := 5) (oi := ?oi34) (v := ?v34) ?hi34 (by kernel_rfl) (by kernel_rfl) (by kernel_rfl) ?hQ34 (Or.inl ⟨?hw34, ?hy34⟩) (by assumption) ?rest34
      case hi34 => (simp only [gA, gB, gC]; rfl)
      case hQ34 => exact fun _ _ _ h => h
      case hw34 => rfl
      case hy34 => (intro w hSw; (try dsimp only at hSw); go_simp; try with_reducible rfl)
      (try simp only [Act.put, sA, sB, sC])
      refine wpAnyH_ready (rs := [2]) (by kernel_rfl) (by simp) ?_
      refine AllReadyH.cons (o := ?o35) ?ho35 (fun K hK => ?st35) AllReadyH.nil
      case ho35 => (simp only [gA, gB, gC]; rfl)
      go_simp
      refine (HK.out _).mono ?_; rintro e wK ⟨rfl, rfl⟩
      refine hK.out _ _ ?_ (fun hHeld => ?_)
      · (try dsimp only); (first | assumption | exact HKP.out _ _ (by assumption) hbA)
      clear hK K
      (try simp only [Act.put, sA, sB, sC])
      refine wpAnyH_take (i := 6) (oi := ?oi36) (v := ?v36) ?hi36 (by kernel_rfl) (by kernel_rfl) (by kernel_rfl) ?hQ36 (Or.inl ⟨?hw36, ?hy36⟩) (by assumption) ?rest36
      case hi36 => (simp only [gA, gB, gC]; rfl)
      case hQ36 => exact fun _ _ _ h => h
      case hw36 => rfl
      case hy36 => (intro w hSw; (try dsimp only at hSw); go_simp; try with_reducible rfl)
      (try simp only [Act.put, sA, sB, sC])
      refine wpAnyH_take (i := 7) (oi := ?oi37) (v := ?v37) ?hi37 (by kernel_rfl) (by kernel_rfl) (by kernel_rfl) ?hQ37 (Or.inl ⟨?hw37, ?hy37⟩) (by assumption) ?rest37
      case hi37 => (simp only [gA, gB, gC]; rfl)
      case hQ37 => exact fun _ _ _ h => h
      case hw37 => rfl
      case hy37 => (intro w hSw; (try dsimp only at hSw); go_simp; try with_reducible rfl)
      (try simp only [Act.put, sA, sB, sC])
      refine wpAnyH_take (i := 8) (oi := ?oi38) (v := ?v38) ?hi38 (by kernel_rfl) (by kernel_rfl) (by kernel_rfl) ?hQ38 (Or.inl ⟨?hw38, ?hy38⟩) (by assumption) ?rest38
      case hi38 => (simp only [gA, gB, gC]; rfl)
      case hQ38 => exact fun _ _ _ h => h
      case hw38 => rfl
      case hy38 => (intro w hSw; (try dsimp only at hSw); go_simp; try with_reducible rfl)
      (try simp only [Act.put, sA, sB, sC])
      refine wpAnyH_take (i := 9) (oi := ?oi39) (v := ?v39) ?hi39 (by kernel_rfl) (by kernel_rfl) (by kernel_rfl) ?hQ39 (Or.inl ⟨?hw39, ?hy39⟩) (by assumption) ?rest39
      case hi39 => (simp only [gA, gB, gC]; rfl)
      case hQ39 => exact fun _ _ _ h => h
      case hw39 => rfl
      case hy39 => (intro w hSw; (try dsimp only at hSw); go_simp; try with_reducible rfl)
      (try simp only [Act.put, sA, sB, sC])
      refine wpAnyH_take (i := 10) (oi := ?oi40) (v := ?v40) ?hi40 (by kernel_rfl) (by kernel_rfl) (by kernel_rfl) ?hQ40 (Or.inl ⟨?hw40, ?hy40⟩) (by assumption) ?rest40
      case hi40 => (simp only [gA, gB, gC]; rfl)
      case hQ40 => exact fun _ _ _ h => h
      case hw40 => rfl
      case hy40 => (intro w hSw; (try dsimp only at hSw); go_simp; try with_reducible rfl)
      (try simp only [Act.put, sA, sB, sC])
      refine wpAnyH_take (i := 11) (oi := ?oi41) (v := ?v41) ?hi41 (by kernel_rfl) (by kernel_rfl) (by kernel_rfl) ?hQ41 (Or.inl ⟨?hw41, ?hy41⟩) (by assumption) ?rest41
      case hi41 => (simp only [gA, gB, gC]; rfl)
      case hQ41 => exact fun _ _ _ h => h
      case hw41 => rfl
      case hy41 => (intro w hSw; (try dsimp only at hSw); go_simp; try with_reducible rfl)
      (try simp only [Act.put, sA, sB, sC])
      refine wpAnyH_take (i := 12) (oi := ?oi42) (v := undef) ?hi42 (by kernel_rfl) (by kernel_rfl) (by kernel_rfl) ?hQ42 (Or.inr ⟨?hw42, rfl⟩) (by assumption) ?rest42
      case hi42 => (simp only [gA, gB, gC]; rfl)
      case hQ42 => exact fun _ _ _ h => h
      case hw42 => rfl
      (try simp only [Act.put, sA, sB, sC])
      refine wpAnyH_take (i := 13) (oi := ?oi43) (v := undef) ?hi43 (by kernel_rfl) (by kernel_rfl) (by kernel_rfl) ?hQ43 (Or.inr ⟨?hw43, rfl⟩) (by assumption) ?rest43
      case hi43 => (simp only [gA, gB, gC]; rfl)
      case hQ43 => exact fun _ _ _ h => h
      case hw43 => rfl
      (try simp only [Act.put, sA, sB, sC])
      refine wpAnyH_take (i := 14) (oi := ?oi44) (v := undef) ?hi44 (by kernel_rfl) (by kernel_rfl) (by kernel_rfl) ?hQ44 (Or.inr ⟨?hw44, rfl⟩) (by assumption) ?rest44
      case hi44 => (simp only [gA, gB, gC]; rfl)
      case hQ44 => exact fun _ _ _ h => h
      case hw44 => rfl
      (try simp only [Act.put, sA, sB, sC])
      refine wpAnyH_take (i := 15) (oi := ?oi45) (v := ?v45) ?hi45 (by kernel_rfl) (by kernel_rfl) (by kernel_rfl) ?hQ45 (Or.inl ⟨?hw45, ?hy45⟩) (by assumption) ?rest45
      case hi45 => (simp only [gA, gB, gC]; rfl)
      case hQ45 => exact fun _ _ _ h => h
      case hw45 => rfl
      case hy45 => (intro w hSw; (try dsimp only at hSw); go_simp; try with_reducible rfl)
      (try simp only [Act.put, sA, sB, sC])
      refine wpAnyH_take (i := 16) (oi := ?oi46) (v := ?v46) ?hi46 (by kernel_rfl) (by kernel_rfl) (by kernel_rfl) ?hQ46 (Or.inl ⟨?hw46, ?hy46⟩) (by assumption) ?rest46
      case hi46 => (simp only [gA, gB, gC]; rfl)
      case hQ46 => exact fun _ _ _ h => h
      case hw46 => rfl
      case hy46 => (intro w hSw; (try dsimp only at hSw); go_simp; try with_reducible rfl)
      (try simp only [Act.put, sA, sB, sC])
      refine wpAnyH_take (i := 17) (oi := ?oi47) (v := ?v47) ?hi47 (by kernel_rfl) (by kernel_rfl) (by kernel_rfl) ?hQ47 (Or.inl ⟨?hw47, ?hy47⟩) (by assumption) ?rest47
      case hi47 => (simp only [gA, gB, gC]; rfl)
      case hQ47 => exact fun _ _ _ h => h
      case hw47 => rfl
      case hy47 => (intro w hSw; (try dsimp only at hSw); go_simp; try with_reducible rfl)
      (try simp only [Act.put, sA, sB, sC])
      refine wpAnyH_take (i := 18) (oi := ?oi48) (v := ?v48) ?hi48 (by kernel_rfl) (by kernel_rfl) (by kernel_rfl) ?hQ48 (Or.inl ⟨?hw48, ?hy48⟩) (by assumption) ?rest48
      case hi48 => (simp only [gA, gB, gC]; rfl)
      case hQ48 => exact fun _ _ _ h => h
      case hw48 => rfl
      case hy48 => (intro w hSw; (try dsimp only at hSw); go_simp; try with_reducible rfl)
      (try simp only [Act.put, sA, sB, sC])
      refine wpAnyH_take (i := 19) (oi := ?oi49) (v := ?v49) ?hi49 (by kernel_rfl) (by kernel_rfl) (by kernel_rfl) ?hQ49 (Or.inl ⟨?hw49, ?hy49⟩) (by assumption) ?rest49
      case hi49 => (simp only [gA, gB, gC]; rfl)
      case hQ49 => exact fun _ _ _ h => h
      case hw49 => rfl
      case hy49 => (intro w hSw; (try dsimp only at hSw); go_simp; try with_reducible rfl)
      (try simp only [Act.put, sA, sB, sC])
      refine wpAnyH_take (i := 20) (oi := ?oi50) (v := ?v50) ?hi50 (by kernel_rfl) (by kernel_rfl) (by kernel_rfl) ?hQ50 (Or.inl ⟨?hw50, ?hy50⟩) (by assumption) ?rest50
      case hi50 => (simp only [gA, gB, gC]; rfl)
      case hQ50 => exact fun _ _ _ h => h
      case hw50 => rfl
      case hy50 => (intro w hSw; (try dsimp only at hSw); go_simp; try with_reducible rfl)
      (try simp only [Act.put, sA, sB, sC])
      refine wpAnyH_take (i := 21) (oi := ?oi51) (v := ?v51) ?hi51 (by kernel_rfl) (by kernel_rfl) (by kernel_rfl) ?hQ51 (Or.inl ⟨?hw51, ?hy51⟩) (by assumption) ?rest51
      case hi51 => (simp only [gA, gB, gC]; rfl)
      case hQ51 => exact fun _ _ _ h => h
      case hw51 => rfl
      case hy51 => (intro w hSw; (try dsimp only at hSw); go_simp; try with_reducible rfl)
      (try simp only [Act.put, sA, sB, sC])
      refine wpAnyH_take (i := 22) (oi := ?oi52) (v := ?v52) ?hi52 (by kernel_rfl) (by kernel_rfl) (by kernel_rfl) ?hQ52 (Or.inl ⟨?hw52, ?hy52⟩) (by assumption) ?rest52
      case hi52 => (simp only [gA, gB, gC]; rfl)
      case hQ52 => exact fun _ _ _ h => h
      case hw52 => rfl
      case hy52 => (intro w hSw; (try dsimp only at hSw); go_simp; try with_reducible rfl)
      (try simp only [Act.put, sA, sB, sC])
      refine wpAnyH_take (i := 23) (oi := ?oi53) (v := ?v53) ?hi53 (by kernel_rfl) (by kernel_rfl) (by kernel_rfl) ?hQ53 (Or.inl ⟨?hw53, ?hy53⟩) (by assumption) ?rest53
      case hi53 => (simp only [gA, gB, gC]; rfl)
      case hQ53 => exact fun _ _ _ h => h
      case hw53 => rfl
      case hy53 => (intro w hSw; (try dsimp only at hSw); go_simp; try with_reducible rfl)
      (try simp only [Act.put, sA, sB, sC])
      refine wpAnyH_take (i := 24) (oi := ?oi54) (v := ?v54) ?hi54 (by kernel_rfl) (by kernel_rfl) (by kernel_rfl) ?hQ54 (Or.inl ⟨?hw54, ?hy54⟩) (by assumption) ?rest54
      case hi54 => (simp only [gA, gB, gC]; rfl)
      case hQ54 => exact fun _ _ _ h => h
      case hw54 => rfl
      case hy54 => (intro w hSw; (try dsimp only at hSw); go_simp; try with_reducible rfl)
      (try simp only [Act.put, sA, sB, sC])
      refine wpAnyH_ready (rs := [25]) (by kernel_rfl) (by simp) ?_
      refine AllReadyH.cons (o := ?o55) ?ho55 (fun K hK => ?st55) AllReadyH.nil
      case ho55 => (simp only [gA, gB, gC]; rfl)
      go_simp
      refine (HS.out _).mono ?_; rintro e wA ⟨rfl, hbA⟩
      refine hK.out _ _ ?_ (fun hHeld => ?_)
      · (try dsimp only); (first | assumption | exact HKP.out _ _ (by assumption) hbA)
      clear hK K
      (try simp only [Act.put, sA, sB, sC])
      refine wpAnyH_take (i := 26) (oi := ?oi56) (v := ?v56) ?hi56 (by kernel_rfl) (by kernel_rfl) (by kernel_rfl) ?hQ56 (Or.inl ⟨?hw56, ?hy56⟩) (by assumption) ?rest56
      case hi56 => (simp only [gA, gB, gC]; rfl)
      case hQ56 => exact fun _ _ _ h => h
      case hw56 => rfl
      case hy56 => (intro w hSw; (try dsimp only at hSw); go_simp; try with_reducible rfl)
      (try simp only [Act.put, sA, sB, sC])
      refine wpAnyH_take (i := 27) (oi := ?oi57) (v := ?v57) ?hi57 (by kernel_rfl) (by kernel_rfl) (by kernel_rfl) ?hQ57 (Or.inl ⟨?hw57, ?hy57⟩) (by assumption) ?rest57
      case hi57 => (simp only [gA, gB, gC]; rfl)
      case hQ57 => exact fun _ _ _ h => h
      case hw57 => rfl
      case hy57 => (intro w hSw; (try dsimp only at hSw); go_simp; try with_reducible rfl)
      (try simp only [Act.put, sA, sB, sC])
      refine wpAnyH_take (i := 28) (oi := ?oi58) (v := ?v58) ?hi58 (by kernel_rfl) (by kernel_rfl) (by kernel_rfl) ?hQ58 (Or.inl ⟨?hw58, ?hy58⟩) (by assumption) ?rest58
      case hi58 => (simp only [gA, gB, gC]; rfl)
      case hQ58 => exact fun _ _ _ h => h
      case hw58 => rfl
      case hy58 => (intro w hSw; (try dsimp only at hSw); go_simp; try with_reducible rfl)
      (try simp only [Act.put, sA, sB, sC])
      refine wpAnyH_done (by kernel_rfl) ?_ _
      obtain ⟨hB, d0, d1, d2, d3, d4, d5, d6, d7⟩ := hHeld
      have hfin := HSP.out.2.2.1 hform (by first | rfl | trivial)
      have hff := HFLD.out _ hB
      have HFIN := Lib.hid hfin
      have HFW := Lib.hid (HFK.out.below hB (Nat.le_refl _))
      clear hfin
      unfold fieldX at HFIN
      generalize hfi : findX nm fs 0 = i at *
      by_cases hi0 : i < 0
      · have HFF := Lib.hid hff
        have hR := HFIN.out
        rw [if_pos hi0] at hR
        have HR := Lib.hid hR
        clear hR HFIN hff
        go_wp2_with (go_at_call 215; refine HFF.out.mono ?_; rintro e wF ⟨rfl, rfl⟩)
        exact bodyPost_ret (v := pairII (0, 50)) (by simp [results, Tryz.results178, go_sem]) rfl ⟨by rw [HR.out], hB⟩
      · obtain ⟨j, hj1, hj2⟩ := findX_at nm fs 0 (by rw [hfi]; omega)
        rw [hfi, Nat.zero_add] at hj1
        subst hj1
        obtain ⟨fad, A', n', c', y, e0, -, hq⟩ := HFW.out.2.2.2 j hj2
        subst e0
        have q1 := hq.2.1
        have hjI : (j : Int) < (fs.length : Int) := by omega
        have hR := HFIN.out
        rw [if_neg hi0, Int.toNat_natCast, List.getElem?_eq_getElem hj2] at hR
        have HR := Lib.hid (show RES = (fs[j].kind, 0) from hR)
        have HFF := Lib.hid hff
        clear hR HFIN hff hq
        generalize fs[j].kind = fk at *
        go_wp2_with (go_at_call 215; refine HFF.out.mono ?_; rintro e wF ⟨rfl, rfl⟩)
        exact bodyPost_ret (v := pairII (fk, 0)) (by simp [results, Tryz.results178, go_sem]) rfl ⟨by rw [HR.out], hB⟩
  have h2 : (op == 2) = false := beq_eq_false_iff_ne.2 o2
  have h2n : (op != 2) = true := by rw [bne, h2]; rfl
  have hen2 : (nm.toList != (⟨#[]⟩ : ByteArray).toList) = !(nm.toList == []) := by rw [bne, hen]
  rcases h3 : (nm.toList == []) with _ | _
  · rw [h3] at hen hen2
    simp only [Bool.not_false] at hen2
    have hform : ((kidsN op == (n : Int)) && ((op == 2 || (nm.toList == [])) && (op == 1 || sv))) = false := by rw [h2, h3]; simp
    go_enter Tryz.func178, Tryz.ntmps178
    go_wp2
    go_quiet ((go_at_call 213; exact Calls.quiet_of_same (HK.out _)))
    go_wp2
    have HFIN := Lib.hid (HSP.out.1 hform)
    exact bodyPost_ret (v := pairII (0, 1)) (by simp [results, Tryz.results178, go_sem]) rfl ⟨by rw [HFIN.out], below_drewN HB0.out _⟩
  rw [h3] at hen hen2
  simp only [Bool.not_true] at hen2
  by_cases o1 : op = 1
  · subst o1
    have hform : ((kidsN 1 == (n : Int)) && (((1 : Int) == 2 || (nm.toList == [])) && ((1 : Int) == 1 || sv))) = true := by rw [h1, h3]; rfl
    go_enter Tryz.func178, Tryz.ntmps178
    go_wp2
    go_quiet ((go_at_call 213; exact Calls.quiet_of_same (HK.out _)))
    have hfin := HSP.out.2.1 hform (by first | rfl | trivial)
    generalize hwd : World.drewN _ _ = wd
    have hB : Below w.heap.size w wd := by rw [← hwd]; exact below_drewN HB0.out _
    have hcx : CellsX wd w.heap.size 1 A n c nm v := by rw [← hwd]; exact HN.out
    have HCX := Lib.hid (fun W (hb : Below wd.heap.size wd W) => hcx.below hb)
    obtain ⟨d0, d1, d2, d3, d4, d5, d6, d7⟩ := hcx
    clear hwd
    rcases gv with _ | _
    · rw [if_neg (by decide)] at hfin
      have HFIN := Lib.hid hfin
      clear hfin
      go_wp2_with (go_at_call 63; refine (HG.out _).mono ?_; rintro e wG ⟨rfl, hbG⟩)
      exact bodyPost_ret (v := pairII (0, 40)) (by simp [results, Tryz.results178, go_sem]) rfl ⟨by rw [HFIN.out], hB.trans (hbG.mono hB.size)⟩
    · rw [if_pos rfl] at hfin
      have HFIN := Lib.hid hfin
      clear hfin
      go_wp2_with (go_at_call 63; refine (HG.out _).mono ?_; rintro e wG ⟨rfl, hbG⟩; clear d0 d1 d2 d3 d4 d5 d6 d7; obtain ⟨d0, d1, d2, d3, d4, d5, d6, d7⟩ := HCX.out _ hbG)
      exact bodyPost_ret (v := pairII (v.k, 0)) (by simp [results, Tryz.results178, go_sem]) rfl ⟨by rw [HFIN.out], hB.trans (hbG.mono hB.size)⟩
  have h4 : (op == 1) = false := beq_eq_false_iff_ne.2 o1
  have h4n : (op != 1) = true := by rw [bne, h4]; rfl
  rcases sv with _ | _
  · have hform : ((kidsN op == (n : Int)) && ((op == 2 || (nm.toList == [])) && (op == 1 || false))) = false := by rw [h4]; simp
    go_enter Tryz.func178, Tryz.ntmps178
    go_wp2
    refine wp_region_held_drew (S := (fun W => Below w.heap.size w W ∧ W.cell? ⟨w.heap.size, 0, none⟩ = some (.int .i64 op) ∧ W.cell? ⟨w.heap.size, 1, none⟩ = some (.slice A n c) ∧ W.cell? ⟨w.heap.size, 2, none⟩ = some (.string nm) ∧ W.cell? ⟨w.heap.size, 3, none⟩ = some (.int .i64 v.k) ∧ W.cell? ⟨w.heap.size, 4, none⟩ = some (.int .i64 v.i) ∧ W.cell? ⟨w.heap.size, 5, none⟩ = some (.bool v.b) ∧ W.cell? ⟨w.heap.size, 6, none⟩ = some (.string v.s) ∧ W.cell? ⟨w.heap.size, 7, none⟩ = some (.float .f64 v.n))) (by kernel_rfl) (⟨((Below.refl _ _).alloc (Nat.le_refl _) _).drew, HN.out.1, HN.out.2.1, HN.out.2.2.1, HN.out.2.2.2.1, HN.out.2.2.2.2.1, HN.out.2.2.2.2.2.1, HN.out.2.2.2.2.2.2.1, HN.out.2.2.2.2.2.2.2⟩) (fun hHeld => ?_)
    refine wpAnyH_take (i := 0) (oi := ?oi59) (v := ?v59) ?hi59 (by kernel_rfl) (by kernel_rfl) (by kernel_rfl) ?hQ59 (Or.inl ⟨?hw59, ?hy59⟩) (by assumption) ?rest59
    case hi59 => (simp only [gA, gB, gC]; rfl)
    case hQ59 => exact fun _ _ _ h => h
    case hw59 => rfl
    case hy59 => (intro w hSw; (try dsimp only at hSw); go_simp; try with_reducible rfl)
    (try simp only [Act.put, sA, sB, sC])
    refine wpAnyH_take (i := 1) (oi := ?oi60) (v := ?v60) ?hi60 (by kernel_rfl) (by kernel_rfl) (by kernel_rfl) ?hQ60 (Or.inl ⟨?hw60, ?hy60⟩) (by assumption) ?rest60
    case hi60 => (simp only [gA, gB, gC]; rfl)
    case hQ60 => exact fun _ _ _ h => h
    case hw60 => rfl
    case hy60 => (intro w hSw; (try dsimp only at hSw); go_simp; try with_reducible rfl)
    (try simp only [Act.put, sA, sB, sC])
    refine wpAnyH_take (i := 3) (oi := ?oi61) (v := ?v61) ?hi61 (by kernel_rfl) (by kernel_rfl) (by kernel_rfl) ?hQ61 (Or.inl ⟨?hw61, ?hy61⟩) (by assumption) ?rest61
    case hi61 => (simp only [gA, gB, gC]; rfl)
    case hQ61 => exact fun _ _ _ h => h
    case hw61 => rfl
    case hy61 => (intro w hSw; (try dsimp only at hSw); go_simp; try with_reducible rfl)
    (try simp only [Act.put, sA, sB, sC])
    refine wpAnyH_take (i := 4) (oi := ?oi62) (v := ?v62) ?hi62 (by kernel_rfl) (by kernel_rfl) (by kernel_rfl) ?hQ62 (Or.inl ⟨?hw62, ?hy62⟩) (by assumption) ?rest62
    case hi62 => (simp only [gA, gB, gC]; rfl)
    case hQ62 => exact fun _ _ _ h => h
    case hw62 => rfl
    case hy62 => (intro w hSw; (try dsimp only at hSw); go_simp; try with_reducible rfl)
    (try simp only [Act.put, sA, sB, sC])
    refine wpAnyH_take (i := 5) (oi := ?oi63) (v := ?v63) ?hi63 (by kernel_rfl) (by kernel_rfl) (by kernel_rfl) ?hQ63 (Or.inl ⟨?hw63, ?hy63⟩) (by assumption) ?rest63
    case hi63 => (simp only [gA, gB, gC]; rfl)
    case hQ63 => exact fun _ _ _ h => h
    case hw63 => rfl
    case hy63 => (intro w hSw; (try dsimp only at hSw); go_simp; try with_reducible rfl)
    (try simp only [Act.put, sA, sB, sC])
    refine wpAnyH_ready (rs := [2]) (by kernel_rfl) (by simp) ?_
    refine AllReadyH.cons (o := ?o64) ?ho64 (fun K hK => ?st64) AllReadyH.nil
    case ho64 => (simp only [gA, gB, gC]; rfl)
    go_simp
    refine (HK.out _).mono ?_; rintro e wK ⟨rfl, rfl⟩
    refine hK.out _ _ ?_ (fun hHeld => ?_)
    · (try dsimp only); (first | assumption | exact HKP.out _ _ (by assumption) hbA)
    clear hK K
    (try simp only [Act.put, sA, sB, sC])
    refine wpAnyH_take (i := 6) (oi := ?oi65) (v := ?v65) ?hi65 (by kernel_rfl) (by kernel_rfl) (by kernel_rfl) ?hQ65 (Or.inl ⟨?hw65, ?hy65⟩) (by assumption) ?rest65
    case hi65 => (simp only [gA, gB, gC]; rfl)
    case hQ65 => exact fun _ _ _ h => h
    case hw65 => rfl
    case hy65 => (intro w hSw; (try dsimp only at hSw); go_simp; try with_reducible rfl)
    (try simp only [Act.put, sA, sB, sC])
    refine wpAnyH_take (i := 7) (oi := ?oi66) (v := ?v66) ?hi66 (by kernel_rfl) (by kernel_rfl) (by kernel_rfl) ?hQ66 (Or.inl ⟨?hw66, ?hy66⟩) (by assumption) ?rest66
    case hi66 => (simp only [gA, gB, gC]; rfl)
    case hQ66 => exact fun _ _ _ h => h
    case hw66 => rfl
    case hy66 => (intro w hSw; (try dsimp only at hSw); go_simp; try with_reducible rfl)
    (try simp only [Act.put, sA, sB, sC])
    refine wpAnyH_take (i := 8) (oi := ?oi67) (v := ?v67) ?hi67 (by kernel_rfl) (by kernel_rfl) (by kernel_rfl) ?hQ67 (Or.inl ⟨?hw67, ?hy67⟩) (by assumption) ?rest67
    case hi67 => (simp only [gA, gB, gC]; rfl)
    case hQ67 => exact fun _ _ _ h => h
    case hw67 => rfl
    case hy67 => (intro w hSw; (try dsimp only at hSw); go_simp; try with_reducible rfl)
    (try simp only [Act.put, sA, sB, sC])
    refine wpAnyH_take (i := 9) (oi := ?oi68) (v := ?v68) ?hi68 (by kernel_rfl) (by kernel_rfl) (by kernel_rfl) ?hQ68 (Or.inl ⟨?hw68, ?hy68⟩) (by assumption) ?rest68
    case hi68 => (simp only [gA, gB, gC]; rfl)
    case hQ68 => exact fun _ _ _ h => h
    case hw68 => rfl
    case hy68 => (intro w hSw; (try dsimp only at hSw); go_simp; try with_reducible rfl)
    (try simp only [Act.put, sA, sB, sC])
    refine wpAnyH_take (i := 10) (oi := ?oi69) (v := ?v69) ?hi69 (by kernel_rfl) (by kernel_rfl) (by kernel_rfl) ?hQ69 (Or.inl ⟨?hw69, ?hy69⟩) (by assumption) ?rest69
    case hi69 => (simp only [gA, gB, gC]; rfl)
    case hQ69 => exact fun _ _ _ h => h
    case hw69 => rfl
    case hy69 => (intro w hSw; (try dsimp only at hSw); go_simp; try with_reducible rfl)
    (try simp only [Act.put, sA, sB, sC])
    refine wpAnyH_take (i := 11) (oi := ?oi70) (v := ?v70) ?hi70 (by kernel_rfl) (by kernel_rfl) (by kernel_rfl) ?hQ70 (Or.inl ⟨?hw70, ?hy70⟩) (by assumption) ?rest70
    case hi70 => (simp only [gA, gB, gC]; rfl)
    case hQ70 => exact fun _ _ _ h => h
    case hw70 => rfl
    case hy70 => (intro w hSw; (try dsimp only at hSw); go_simp; try with_reducible rfl)
    (try simp only [Act.put, sA, sB, sC])
    refine wpAnyH_take (i := 12) (oi := ?oi71) (v := ?v71) ?hi71 (by kernel_rfl) (by kernel_rfl) (by kernel_rfl) ?hQ71 (Or.inl ⟨?hw71, ?hy71⟩) (by assumption) ?rest71
    case hi71 => (simp only [gA, gB, gC]; rfl)
    case hQ71 => exact fun _ _ _ h => h
    case hw71 => rfl
    case hy71 => (intro w hSw; (try dsimp only at hSw); go_simp; try with_reducible rfl)
    (try simp only [Act.put, sA, sB, sC])
    refine wpAnyH_take (i := 13) (oi := ?oi72) (v := ?v72) ?hi72 (by kernel_rfl) (by kernel_rfl) (by kernel_rfl) ?hQ72 (Or.inl ⟨?hw72, ?hy72⟩) (by assumption) ?rest72
    case hi72 => (simp only [gA, gB, gC]; rfl)
    case hQ72 => exact fun _ _ _ h => h
    case hw72 => rfl
    case hy72 => (intro w hSw; (try dsimp only at hSw); go_simp; try with_reducible rfl)
    (try simp only [Act.put, sA, sB, sC])
    refine wpAnyH_take (i := 14) (oi := ?oi73) (v := ?v73) ?hi73 (by kernel_rfl) (by kernel_rfl) (by kernel_rfl) ?hQ73 (Or.inl ⟨?hw73, ?hy73⟩) (by assumption) ?rest73
    case hi73 => (simp only [gA, gB, gC]; rfl)
    case hQ73 => exact fun _ _ _ h => h
    case hw73 => rfl
    case hy73 => (intro w hSw; (try dsimp only at hSw); go_simp; try with_reducible rfl)
    (try simp only [Act.put, sA, sB, sC])
    refine wpAnyH_take (i := 15) (oi := ?oi74) (v := ?v74) ?hi74 (by kernel_rfl) (by kernel_rfl) (by kernel_rfl) ?hQ74 (Or.inl ⟨?hw74, ?hy74⟩) (by assumption) ?rest74
    case hi74 => (simp only [gA, gB, gC]; rfl)
    case hQ74 => exact fun _ _ _ h => h
    case hw74 => rfl
    case hy74 => (intro w hSw; (try dsimp only at hSw); go_simp; try with_reducible rfl)
    (try simp only [Act.put, sA, sB, sC])
    refine wpAnyH_take (i := 16) (oi := ?oi75) (v := ?v75) ?hi75 (by kernel_rfl) (by kernel_rfl) (by kernel_rfl) ?hQ75 (Or.inl ⟨?hw75, ?hy75⟩) (by assumption) ?rest75
    case hi75 => (simp only [gA, gB, gC]; rfl)
    case hQ75 => exact fun _ _ _ h => h
    case hw75 => rfl
    case hy75 => (intro w hSw; (try dsimp only at hSw); go_simp; try with_reducible rfl)
    (try simp only [Act.put, sA, sB, sC])
    refine wpAnyH_take (i := 17) (oi := ?oi76) (v := ?v76) ?hi76 (by kernel_rfl) (by kernel_rfl) (by kernel_rfl) ?hQ76 (Or.inl ⟨?hw76, ?hy76⟩) (by assumption) ?rest76
    case hi76 => (simp only [gA, gB, gC]; rfl)
    case hQ76 => exact fun _ _ _ h => h
    case hw76 => rfl
    case hy76 => (intro w hSw; (try dsimp only at hSw); go_simp; try with_reducible rfl)
    (try simp only [Act.put, sA, sB, sC])
    refine wpAnyH_take (i := 18) (oi := ?oi77) (v := ?v77) ?hi77 (by kernel_rfl) (by kernel_rfl) (by kernel_rfl) ?hQ77 (Or.inl ⟨?hw77, ?hy77⟩) (by assumption) ?rest77
    case hi77 => (simp only [gA, gB, gC]; rfl)
    case hQ77 => exact fun _ _ _ h => h
    case hw77 => rfl
    case hy77 => (intro w hSw; (try dsimp only at hSw); go_simp; try with_reducible rfl)
    (try simp only [Act.put, sA, sB, sC])
    refine wpAnyH_take (i := 19) (oi := ?oi78) (v := ?v78) ?hi78 (by kernel_rfl) (by kernel_rfl) (by kernel_rfl) ?hQ78 (Or.inl ⟨?hw78, ?hy78⟩) (by assumption) ?rest78
    case hi78 => (simp only [gA, gB, gC]; rfl)
    case hQ78 => exact fun _ _ _ h => h
    case hw78 => rfl
    case hy78 => (intro w hSw; (try dsimp only at hSw); go_simp; try with_reducible rfl)
    (try simp only [Act.put, sA, sB, sC])
    refine wpAnyH_take (i := 20) (oi := ?oi79) (v := ?v79) ?hi79 (by kernel_rfl) (by kernel_rfl) (by kernel_rfl) ?hQ79 (Or.inl ⟨?hw79, ?hy79⟩) (by assumption) ?rest79
    case hi79 => (simp only [gA, gB, gC]; rfl)
    case hQ79 => exact fun _ _ _ h => h
    case hw79 => rfl
    case hy79 => (intro w hSw; (try dsimp only at hSw); go_simp; try with_reducible rfl)
    (try simp only [Act.put, sA, sB, sC])
    refine wpAnyH_take (i := 21) (oi := ?oi80) (v := ?v80) ?hi80 (by kernel_rfl) (by kernel_rfl) (by kernel_rfl) ?hQ80 (Or.inl ⟨?hw80, ?hy80⟩) (by assumption) ?rest80
    case hi80 => (simp only [gA, gB, gC]; rfl)
    case hQ80 => exact fun _ _ _ h => h
    case hw80 => rfl
    case hy80 => (intro w hSw; (try dsimp only at hSw); go_simp; try with_reducible rfl)
    (try simp only [Act.put, sA, sB, sC])
    refine wpAnyH_take (i := 22) (oi := ?oi81) (v := ?v81) ?hi81 (by kernel_rfl) (by kernel_rfl) (by kernel_rfl) ?hQ81 (Or.inl ⟨?hw81, ?hy81⟩) (by assumption) ?rest81
    case hi81 => (simp only [gA, gB, gC]; rfl)
    case hQ81 => exact fun _ _ _ h => h
    case hw81 => rfl
    case hy81 => (intro w hSw; (try dsimp only at hSw); go_simp; try with_reducible rfl)
    (try simp only [Act.put, sA, sB, sC])
    refine wpAnyH_take (i := 23) (oi := ?oi82) (v := ?v82) ?hi82 (by kernel_rfl) (by kernel_rfl) (by kernel_rfl) ?hQ82 (Or.inl ⟨?hw82, ?hy82⟩) (by assumption) ?rest82
    case hi82 => (simp only [gA, gB, gC]; rfl)
    case hQ82 => exact fun _ _ _ h => h
    case hw82 => rfl
    case hy82 => (intro w hSw; (try dsimp only at hSw); go_simp; try with_reducible rfl)
    (try simp only [Act.put, sA, sB, sC])
    refine wpAnyH_take (i := 24) (oi := ?oi83) (v := ?v83) ?hi83 (by kernel_rfl) (by kernel_rfl) (by kernel_rfl) ?hQ83 (Or.inl ⟨?hw83, ?hy83⟩) (by assumption) ?rest83
    case hi83 => (simp only [gA, gB, gC]; rfl)
    case hQ83 => exact fun _ _ _ h => h
    case hw83 => rfl
    case hy83 => (intro w hSw; (try dsimp only at hSw); go_simp; try with_reducible rfl)
    (try simp only [Act.put, sA, sB, sC])
    refine wpAnyH_ready (rs := [25]) (by kernel_rfl) (by simp) ?_
    refine AllReadyH.cons (o := ?o84) ?ho84 (fun K hK => ?st84) AllReadyH.nil
    case ho84 => (simp only [gA, gB, gC]; rfl)
    go_simp
    refine (HS.out _).mono ?_; rintro e wA ⟨rfl, hbA⟩
    refine hK.out _ _ ?_ (fun hHeld => ?_)
    · (try dsimp only); (first | assumption | exact HKP.out _ _ (by assumption) hbA)
    clear hK K
    (try simp only [Act.put, sA, sB, sC])
    refine wpAnyH_take (i := 26) (oi := ?oi85) (v := ?v85) ?hi85 (by kernel_rfl) (by kernel_rfl) (by kernel_rfl) ?hQ85 (Or.inl ⟨?hw85, ?hy85⟩) (by assumption) ?rest85
    case hi85 => (simp only [gA, gB, gC]; rfl)
    case hQ85 => exact fun _ _ _ h => h
    case hw85 => rfl
    case hy85 => (intro w hSw; (try dsimp only at hSw); go_simp; try with_reducible rfl)
    (try simp only [Act.put, sA, sB, sC])
    refine wpAnyH_take (i := 27) (oi := ?oi86) (v := ?v86) ?hi86 (by kernel_rfl) (by kernel_rfl) (by kernel_rfl) ?hQ86 (Or.inl ⟨?hw86, ?hy86⟩) (by assumption) ?rest86
    case hi86 => (simp only [gA, gB, gC]; rfl)
    case hQ86 => exact fun _ _ _ h => h
    case hw86 => rfl
    case hy86 => (intro w hSw; (try dsimp only at hSw); go_simp; try with_reducible rfl)
    (try simp only [Act.put, sA, sB, sC])
    refine wpAnyH_take (i := 28) (oi := ?oi87) (v := ?v87) ?hi87 (by kernel_rfl) (by kernel_rfl) (by kernel_rfl) ?hQ87 (Or.inl ⟨?hw87, ?hy87⟩) (by assumption) ?rest87
    case hi87 => (simp only [gA, gB, gC]; rfl)
    case hQ87 => exact fun _ _ _ h => h
    case hw87 => rfl
    case hy87 => (intro w hSw; (try dsimp only at hSw); go_simp; try with_reducible rfl)
    (try simp only [Act.put, sA, sB, sC])
    refine wpAnyH_done (by kernel_rfl) ?_ _
    have hB := And.left hHeld
    have hfin := HSP.out.1 hform
    have HFIN := Lib.hid hfin
    clear hfin
    go_wp2
    exact bodyPost_ret (v := pairII (0, 1)) (by simp [results, Tryz.results178, go_sem]) rfl ⟨by rw [HFIN.out], hB⟩
  · have hform : ((kidsN op == (n : Int)) && ((op == 2 || (nm.toList == [])) && (op == 1 || true))) = true := by rw [h1, h3]; simp
    go_enter Tryz.func178, Tryz.ntmps178
    go_wp2
    refine wp_region_held_drew (S := (fun W => Below w.heap.size w W ∧ W.cell? ⟨w.heap.size, 0, none⟩ = some (.int .i64 op) ∧ W.cell? ⟨w.heap.size, 1, none⟩ = some (.slice A n c) ∧ W.cell? ⟨w.heap.size, 2, none⟩ = some (.string nm) ∧ W.cell? ⟨w.heap.size, 3, none⟩ = some (.int .i64 v.k) ∧ W.cell? ⟨w.heap.size, 4, none⟩ = some (.int .i64 v.i) ∧ W.cell? ⟨w.heap.size, 5, none⟩ = some (.bool v.b) ∧ W.cell? ⟨w.heap.size, 6, none⟩ = some (.string v.s) ∧ W.cell? ⟨w.heap.size, 7, none⟩ = some (.float .f64 v.n))) (by kernel_rfl) (⟨((Below.refl _ _).alloc (Nat.le_refl _) _).drew, HN.out.1, HN.out.2.1, HN.out.2.2.1, HN.out.2.2.2.1, HN.out.2.2.2.2.1, HN.out.2.2.2.2.2.1, HN.out.2.2.2.2.2.2.1, HN.out.2.2.2.2.2.2.2⟩) (fun hHeld => ?_)
    refine wpAnyH_take (i := 0) (oi := ?oi88) (v := ?v88) ?hi88 (by kernel_rfl) (by kernel_rfl) (by kernel_rfl) ?hQ88 (Or.inl ⟨?hw88, ?hy88⟩) (by assumption) ?rest88
    case hi88 => (simp only [gA, gB, gC]; rfl)
    case hQ88 => exact fun _ _ _ h => h
    case hw88 => rfl
    case hy88 => (intro w hSw; (try dsimp only at hSw); go_simp; try with_reducible rfl)
    (try simp only [Act.put, sA, sB, sC])
    refine wpAnyH_take (i := 1) (oi := ?oi89) (v := ?v89) ?hi89 (by kernel_rfl) (by kernel_rfl) (by kernel_rfl) ?hQ89 (Or.inl ⟨?hw89, ?hy89⟩) (by assumption) ?rest89
    case hi89 => (simp only [gA, gB, gC]; rfl)
    case hQ89 => exact fun _ _ _ h => h
    case hw89 => rfl
    case hy89 => (intro w hSw; (try dsimp only at hSw); go_simp; try with_reducible rfl)
    (try simp only [Act.put, sA, sB, sC])
    refine wpAnyH_take (i := 3) (oi := ?oi90) (v := ?v90) ?hi90 (by kernel_rfl) (by kernel_rfl) (by kernel_rfl) ?hQ90 (Or.inl ⟨?hw90, ?hy90⟩) (by assumption) ?rest90
    case hi90 => (simp only [gA, gB, gC]; rfl)
    case hQ90 => exact fun _ _ _ h => h
    case hw90 => rfl
    case hy90 => (intro w hSw; (try dsimp only at hSw); go_simp; try with_reducible rfl)
    (try simp only [Act.put, sA, sB, sC])
    refine wpAnyH_take (i := 4) (oi := ?oi91) (v := ?v91) ?hi91 (by kernel_rfl) (by kernel_rfl) (by kernel_rfl) ?hQ91 (Or.inl ⟨?hw91, ?hy91⟩) (by assumption) ?rest91
    case hi91 => (simp only [gA, gB, gC]; rfl)
    case hQ91 => exact fun _ _ _ h => h
    case hw91 => rfl
    case hy91 => (intro w hSw; (try dsimp only at hSw); go_simp; try with_reducible rfl)
    (try simp only [Act.put, sA, sB, sC])
    refine wpAnyH_take (i := 5) (oi := ?oi92) (v := ?v92) ?hi92 (by kernel_rfl) (by kernel_rfl) (by kernel_rfl) ?hQ92 (Or.inl ⟨?hw92, ?hy92⟩) (by assumption) ?rest92
    case hi92 => (simp only [gA, gB, gC]; rfl)
    case hQ92 => exact fun _ _ _ h => h
    case hw92 => rfl
    case hy92 => (intro w hSw; (try dsimp only at hSw); go_simp; try with_reducible rfl)
    (try simp only [Act.put, sA, sB, sC])
    refine wpAnyH_ready (rs := [2]) (by kernel_rfl) (by simp) ?_
    refine AllReadyH.cons (o := ?o93) ?ho93 (fun K hK => ?st93) AllReadyH.nil
    case ho93 => (simp only [gA, gB, gC]; rfl)
    go_simp
    refine (HK.out _).mono ?_; rintro e wK ⟨rfl, rfl⟩
    refine hK.out _ _ ?_ (fun hHeld => ?_)
    · (try dsimp only); (first | assumption | exact HKP.out _ _ (by assumption) hbA)
    clear hK K
    (try simp only [Act.put, sA, sB, sC])
    refine wpAnyH_take (i := 6) (oi := ?oi94) (v := ?v94) ?hi94 (by kernel_rfl) (by kernel_rfl) (by kernel_rfl) ?hQ94 (Or.inl ⟨?hw94, ?hy94⟩) (by assumption) ?rest94
    case hi94 => (simp only [gA, gB, gC]; rfl)
    case hQ94 => exact fun _ _ _ h => h
    case hw94 => rfl
    case hy94 => (intro w hSw; (try dsimp only at hSw); go_simp; try with_reducible rfl)
    (try simp only [Act.put, sA, sB, sC])
    refine wpAnyH_take (i := 7) (oi := ?oi95) (v := ?v95) ?hi95 (by kernel_rfl) (by kernel_rfl) (by kernel_rfl) ?hQ95 (Or.inl ⟨?hw95, ?hy95⟩) (by assumption) ?rest95
    case hi95 => (simp only [gA, gB, gC]; rfl)
    case hQ95 => exact fun _ _ _ h => h
    case hw95 => rfl
    case hy95 => (intro w hSw; (try dsimp only at hSw); go_simp; try with_reducible rfl)
    (try simp only [Act.put, sA, sB, sC])
    refine wpAnyH_take (i := 8) (oi := ?oi96) (v := ?v96) ?hi96 (by kernel_rfl) (by kernel_rfl) (by kernel_rfl) ?hQ96 (Or.inl ⟨?hw96, ?hy96⟩) (by assumption) ?rest96
    case hi96 => (simp only [gA, gB, gC]; rfl)
    case hQ96 => exact fun _ _ _ h => h
    case hw96 => rfl
    case hy96 => (intro w hSw; (try dsimp only at hSw); go_simp; try with_reducible rfl)
    (try simp only [Act.put, sA, sB, sC])
    refine wpAnyH_take (i := 9) (oi := ?oi97) (v := ?v97) ?hi97 (by kernel_rfl) (by kernel_rfl) (by kernel_rfl) ?hQ97 (Or.inl ⟨?hw97, ?hy97⟩) (by assumption) ?rest97
    case hi97 => (simp only [gA, gB, gC]; rfl)
    case hQ97 => exact fun _ _ _ h => h
    case hw97 => rfl
    case hy97 => (intro w hSw; (try dsimp only at hSw); go_simp; try with_reducible rfl)
    (try simp only [Act.put, sA, sB, sC])
    refine wpAnyH_take (i := 10) (oi := ?oi98) (v := ?v98) ?hi98 (by kernel_rfl) (by kernel_rfl) (by kernel_rfl) ?hQ98 (Or.inl ⟨?hw98, ?hy98⟩) (by assumption) ?rest98
    case hi98 => (simp only [gA, gB, gC]; rfl)
    case hQ98 => exact fun _ _ _ h => h
    case hw98 => rfl
    case hy98 => (intro w hSw; (try dsimp only at hSw); go_simp; try with_reducible rfl)
    (try simp only [Act.put, sA, sB, sC])
    refine wpAnyH_take (i := 11) (oi := ?oi99) (v := ?v99) ?hi99 (by kernel_rfl) (by kernel_rfl) (by kernel_rfl) ?hQ99 (Or.inl ⟨?hw99, ?hy99⟩) (by assumption) ?rest99
    case hi99 => (simp only [gA, gB, gC]; rfl)
    case hQ99 => exact fun _ _ _ h => h
    case hw99 => rfl
    case hy99 => (intro w hSw; (try dsimp only at hSw); go_simp; try with_reducible rfl)
    (try simp only [Act.put, sA, sB, sC])
    refine wpAnyH_take (i := 12) (oi := ?oi100) (v := ?v100) ?hi100 (by kernel_rfl) (by kernel_rfl) (by kernel_rfl) ?hQ100 (Or.inl ⟨?hw100, ?hy100⟩) (by assumption) ?rest100
    case hi100 => (simp only [gA, gB, gC]; rfl)
    case hQ100 => exact fun _ _ _ h => h
    case hw100 => rfl
    case hy100 => (intro w hSw; (try dsimp only at hSw); go_simp; try with_reducible rfl)
    (try simp only [Act.put, sA, sB, sC])
    refine wpAnyH_take (i := 13) (oi := ?oi101) (v := ?v101) ?hi101 (by kernel_rfl) (by kernel_rfl) (by kernel_rfl) ?hQ101 (Or.inl ⟨?hw101, ?hy101⟩) (by assumption) ?rest101
    case hi101 => (simp only [gA, gB, gC]; rfl)
    case hQ101 => exact fun _ _ _ h => h
    case hw101 => rfl
    case hy101 => (intro w hSw; (try dsimp only at hSw); go_simp; try with_reducible rfl)
    (try simp only [Act.put, sA, sB, sC])
    refine wpAnyH_take (i := 14) (oi := ?oi102) (v := ?v102) ?hi102 (by kernel_rfl) (by kernel_rfl) (by kernel_rfl) ?hQ102 (Or.inl ⟨?hw102, ?hy102⟩) (by assumption) ?rest102
    case hi102 => (simp only [gA, gB, gC]; rfl)
    case hQ102 => exact fun _ _ _ h => h
    case hw102 => rfl
    case hy102 => (intro w hSw; (try dsimp only at hSw); go_simp; try with_reducible rfl)
    (try simp only [Act.put, sA, sB, sC])
    refine wpAnyH_take (i := 15) (oi := ?oi103) (v := ?v103) ?hi103 (by kernel_rfl) (by kernel_rfl) (by kernel_rfl) ?hQ103 (Or.inl ⟨?hw103, ?hy103⟩) (by assumption) ?rest103
    case hi103 => (simp only [gA, gB, gC]; rfl)
    case hQ103 => exact fun _ _ _ h => h
    case hw103 => rfl
    case hy103 => (intro w hSw; (try dsimp only at hSw); go_simp; try with_reducible rfl)
    (try simp only [Act.put, sA, sB, sC])
    refine wpAnyH_take (i := 16) (oi := ?oi104) (v := ?v104) ?hi104 (by kernel_rfl) (by kernel_rfl) (by kernel_rfl) ?hQ104 (Or.inl ⟨?hw104, ?hy104⟩) (by assumption) ?rest104
    case hi104 => (simp only [gA, gB, gC]; rfl)
    case hQ104 => exact fun _ _ _ h => h
    case hw104 => rfl
    case hy104 => (intro w hSw; (try dsimp only at hSw); go_simp; try with_reducible rfl)
    (try simp only [Act.put, sA, sB, sC])
    refine wpAnyH_take (i := 17) (oi := ?oi105) (v := ?v105) ?hi105 (by kernel_rfl) (by kernel_rfl) (by kernel_rfl) ?hQ105 (Or.inl ⟨?hw105, ?hy105⟩) (by assumption) ?rest105
    case hi105 => (simp only [gA, gB, gC]; rfl)
    case hQ105 => exact fun _ _ _ h => h
    case hw105 => rfl
    case hy105 => (intro w hSw; (try dsimp only at hSw); go_simp; try with_reducible rfl)
    (try simp only [Act.put, sA, sB, sC])
    refine wpAnyH_take (i := 18) (oi := ?oi106) (v := ?v106) ?hi106 (by kernel_rfl) (by kernel_rfl) (by kernel_rfl) ?hQ106 (Or.inl ⟨?hw106, ?hy106⟩) (by assumption) ?rest106
    case hi106 => (simp only [gA, gB, gC]; rfl)
    case hQ106 => exact fun _ _ _ h => h
    case hw106 => rfl
    case hy106 => (intro w hSw; (try dsimp only at hSw); go_simp; try with_reducible rfl)
    (try simp only [Act.put, sA, sB, sC])
    refine wpAnyH_take (i := 19) (oi := ?oi107) (v := ?v107) ?hi107 (by kernel_rfl) (by kernel_rfl) (by kernel_rfl) ?hQ107 (Or.inl ⟨?hw107, ?hy107⟩) (by assumption) ?rest107
    case hi107 => (simp only [gA, gB, gC]; rfl)
    case hQ107 => exact fun _ _ _ h => h
    case hw107 => rfl
    case hy107 => (intro w hSw; (try dsimp only at hSw); go_simp; try with_reducible rfl)
    (try simp only [Act.put, sA, sB, sC])
    refine wpAnyH_take (i := 20) (oi := ?oi108) (v := ?v108) ?hi108 (by kernel_rfl) (by kernel_rfl) (by kernel_rfl) ?hQ108 (Or.inl ⟨?hw108, ?hy108⟩) (by assumption) ?rest108
    case hi108 => (simp only [gA, gB, gC]; rfl)
    case hQ108 => exact fun _ _ _ h => h
    case hw108 => rfl
    case hy108 => (intro w hSw; (try dsimp only at hSw); go_simp; try with_reducible rfl)
    (try simp only [Act.put, sA, sB, sC])
    refine wpAnyH_take (i := 21) (oi := ?oi109) (v := ?v109) ?hi109 (by kernel_rfl) (by kernel_rfl) (by kernel_rfl) ?hQ109 (Or.inl ⟨?hw109, ?hy109⟩) (by assumption) ?rest109
    case hi109 => (simp only [gA, gB, gC]; rfl)
    case hQ109 => exact fun _ _ _ h => h
    case hw109 => rfl
    case hy109 => (intro w hSw; (try dsimp only at hSw); go_simp; try with_reducible rfl)
    (try simp only [Act.put, sA, sB, sC])
    refine wpAnyH_take (i := 22) (oi := ?oi110) (v := ?v110) ?hi110 (by kernel_rfl) (by kernel_rfl) (by kernel_rfl) ?hQ110 (Or.inl ⟨?hw110, ?hy110⟩) (by assumption) ?rest110
    case hi110 => (simp only [gA, gB, gC]; rfl)
    case hQ110 => exact fun _ _ _ h => h
    case hw110 => rfl
    case hy110 => (intro w hSw; (try dsimp only at hSw); go_simp; try with_reducible rfl)
    (try simp only [Act.put, sA, sB, sC])
    refine wpAnyH_take (i := 23) (oi := ?oi111) (v := ?v111) ?hi111 (by kernel_rfl) (by kernel_rfl) (by kernel_rfl) ?hQ111 (Or.inl ⟨?hw111, ?hy111⟩) (by assumption) ?rest111
    case hi111 => (simp only [gA, gB, gC]; rfl)
    case hQ111 => exact fun _ _ _ h => h
    case hw111 => rfl
    case hy111 => (intro w hSw; (try dsimp only at hSw); go_simp; try with_reducible rfl)
    (try simp only [Act.put, sA, sB, sC])
    refine wpAnyH_take (i := 24) (oi := ?oi112) (v := ?v112) ?hi112 (by kernel_rfl) (by kernel_rfl) (by kernel_rfl) ?hQ112 (Or.inl ⟨?hw112, ?hy112⟩) (by assumption) ?rest112
    case hi112 => (simp only [gA, gB, gC]; rfl)
    case hQ112 => exact fun _ _ _ h => h
    case hw112 => rfl
    case hy112 => (intro w hSw; (try dsimp only at hSw); go_simp; try with_reducible rfl)
    (try simp only [Act.put, sA, sB, sC])
    refine wpAnyH_ready (rs := [25]) (by kernel_rfl) (by simp) ?_
    refine AllReadyH.cons (o := ?o113) ?ho113 (fun K hK => ?st113) AllReadyH.nil
    case ho113 => (simp only [gA, gB, gC]; rfl)
    go_simp
    refine (HS.out _).mono ?_; rintro e wA ⟨rfl, hbA⟩
    refine hK.out _ _ ?_ (fun hHeld => ?_)
    · (try dsimp only); (first | assumption | exact HKP.out _ _ (by assumption) hbA)
    clear hK K
    (try simp only [Act.put, sA, sB, sC])
    refine wpAnyH_take (i := 26) (oi := ?oi114) (v := ?v114) ?hi114 (by kernel_rfl) (by kernel_rfl) (by kernel_rfl) ?hQ114 (Or.inl ⟨?hw114, ?hy114⟩) (by assumption) ?rest114
    case hi114 => (simp only [gA, gB, gC]; rfl)
    case hQ114 => exact fun _ _ _ h => h
    case hw114 => rfl
    case hy114 => (intro w hSw; (try dsimp only at hSw); go_simp; try with_reducible rfl)
    (try simp only [Act.put, sA, sB, sC])
    refine wpAnyH_take (i := 27) (oi := ?oi115) (v := ?v115) ?hi115 (by kernel_rfl) (by kernel_rfl) (by kernel_rfl) ?hQ115 (Or.inl ⟨?hw115, ?hy115⟩) (by assumption) ?rest115
    case hi115 => (simp only [gA, gB, gC]; rfl)
    case hQ115 => exact fun _ _ _ h => h
    case hw115 => rfl
    case hy115 => (intro w hSw; (try dsimp only at hSw); go_simp; try with_reducible rfl)
    (try simp only [Act.put, sA, sB, sC])
    refine wpAnyH_take (i := 28) (oi := ?oi116) (v := ?v116) ?hi116 (by kernel_rfl) (by kernel_rfl) (by kernel_rfl) ?hQ116 (Or.inl ⟨?hw116, ?hy116⟩) (by assumption) ?rest116
    case hi116 => (simp only [gA, gB, gC]; rfl)
    case hQ116 => exact fun _ _ _ h => h
    case hw116 => rfl
    case hy116 => (intro w hSw; (try dsimp only at hSw); go_simp; try with_reducible rfl)
    (try simp only [Act.put, sA, sB, sC])
    refine wpAnyH_done (by kernel_rfl) ?_ _
    obtain ⟨hB, d0, d1, d2, d3, d4, d5, d6, d7⟩ := hHeld
    have hfin := HSP.out.2.2.2.1 hform o1 o2
    have hkn := HSP.out.2.2.2.2 hform
    have hln := HLN.out
    by_cases o3 : op = 3
    · subst o3
      have hnk : n = 1 := by have : kidsN 3 = 1 := rfl; omega
      obtain ⟨a, rfl⟩ := len1 l (by omega)
      obtain ⟨ad, e0, k0⟩ := HKW.out _ hB 0 (by simp)
      subst e0
      simp only [Addr.add_zero', Addr.add_succ', List.getElem_cons_zero, List.getElem_cons_succ, Nat.zero_add] at k0
      have hn1 : (0 : Int) < (n : Int) := by omega
      rcases h0 : (a == 1) with _ | _
      · rcases h1 : (a == 4) with _ | _
        · have hR : RES = (0, 40) := by rw [hfin]; simp [kindL, kindT, h0, h1]
          have HR := Lib.hid hR
          clear hR hfin
          go_wp2
          exact bodyPost_ret (v := pairII (0, 40)) (by simp [results, Tryz.results178, go_sem]) rfl ⟨by rw [HR.out], hB⟩
        · have hR : RES = (a, 0) := by rw [hfin]; simp [kindL, kindT, h0, h1]
          have HR := Lib.hid hR
          clear hR hfin
          go_wp2
          exact bodyPost_ret (v := pairII (a, 0)) (by simp [results, Tryz.results178, go_sem]) rfl ⟨by rw [HR.out], hB⟩
      · have hR : RES = (a, 0) := by rw [hfin]; simp [kindL, kindT, h0]
        have HR := Lib.hid hR
        clear hR hfin
        go_wp2
        exact bodyPost_ret (v := pairII (a, 0)) (by simp [results, Tryz.results178, go_sem]) rfl ⟨by rw [HR.out], hB⟩
    by_cases o16 : op = 16
    · subst o16
      have hnk : n = 1 := by have : kidsN 16 = 1 := rfl; omega
      obtain ⟨a, rfl⟩ := len1 l (by omega)
      obtain ⟨ad, e0, k0⟩ := HKW.out _ hB 0 (by simp)
      subst e0
      simp only [Addr.add_zero', Addr.add_succ', List.getElem_cons_zero, List.getElem_cons_succ, Nat.zero_add] at k0
      have hn1 : (0 : Int) < (n : Int) := by omega
      rcases h0 : (a == 1) with _ | _
      · have hR : RES = (0, 40) := by rw [hfin]; simp [kindL, kindT, h0]
        have HR := Lib.hid hR
        clear hR hfin
        go_wp2
        exact bodyPost_ret (v := pairII (0, 40)) (by simp [results, Tryz.results178, go_sem]) rfl ⟨by rw [HR.out], hB⟩
      · have hR : RES = (4, 0) := by rw [hfin]; simp [kindL, kindT, h0]
        have HR := Lib.hid hR
        clear hR hfin
        go_wp2
        exact bodyPost_ret (v := pairII (4, 0)) (by simp [results, Tryz.results178, go_sem]) rfl ⟨by rw [HR.out], hB⟩
    by_cases o12 : op = 12
    · subst o12
      have hnk : n = 1 := by have : kidsN 12 = 1 := rfl; omega
      obtain ⟨a, rfl⟩ := len1 l (by omega)
      obtain ⟨ad, e0, k0⟩ := HKW.out _ hB 0 (by simp)
      subst e0
      simp only [Addr.add_zero', Addr.add_succ', List.getElem_cons_zero, List.getElem_cons_succ, Nat.zero_add] at k0
      have hn1 : (0 : Int) < (n : Int) := by omega
      rcases h0 : (a == 2) with _ | _
      · have hR : RES = (0, 40) := by rw [hfin]; simp [kindL, kindT, h0]
        have HR := Lib.hid hR
        clear hR hfin
        go_wp2
        exact bodyPost_ret (v := pairII (0, 40)) (by simp [results, Tryz.results178, go_sem]) rfl ⟨by rw [HR.out], hB⟩
      · have hR : RES = (2, 0) := by rw [hfin]; simp [kindL, kindT, h0]
        have HR := Lib.hid hR
        clear hR hfin
        go_wp2
        exact bodyPost_ret (v := pairII (2, 0)) (by simp [results, Tryz.results178, go_sem]) rfl ⟨by rw [HR.out], hB⟩
    by_cases o10 : op = 10
    · subst o10
      have hnk : n = 2 := by have : kidsN 10 = 2 := rfl; omega
      obtain ⟨a, z, rfl⟩ := len2 l (by omega)
      obtain ⟨ad, e0, k0⟩ := HKW.out _ hB 0 (by simp)
      subst e0
      obtain ⟨ad2, e1, k1⟩ := HKW.out _ hB 1 (by simp)
      injection e1 with e1
      subst e1
      simp only [Addr.add_zero', Addr.add_succ', List.getElem_cons_zero, List.getElem_cons_succ, Nat.zero_add] at k0 k1
      have hn1 : (0 : Int) < (n : Int) := by omega
      have hn2 : (1 : Int) < (n : Int) := by omega
      rcases h0 : (a == 2) with _ | _
      · have hR : RES = (0, 40) := by rw [hfin]; simp [kindL, kindT, h0]
        have HR := Lib.hid hR
        clear hR hfin
        go_wp2
        exact bodyPost_ret (v := pairII (0, 40)) (by simp [results, Tryz.results178, go_sem]) rfl ⟨by rw [HR.out], hB⟩
      · rcases h1 : (z == 2) with _ | _
        · have hR : RES = (0, 40) := by rw [hfin]; simp [kindL, kindT, h0, h1]
          have HR := Lib.hid hR
          clear hR hfin
          go_wp2
          exact bodyPost_ret (v := pairII (0, 40)) (by simp [results, Tryz.results178, go_sem]) rfl ⟨by rw [HR.out], hB⟩
        · have hR : RES = (2, 0) := by rw [hfin]; simp [kindL, kindT, h0, h1]
          have HR := Lib.hid hR
          clear hR hfin
          go_wp2
          exact bodyPost_ret (v := pairII (2, 0)) (by simp [results, Tryz.results178, go_sem]) rfl ⟨by rw [HR.out], hB⟩
    by_cases o11 : op = 11
    · subst o11
      have hnk : n = 2 := by have : kidsN 11 = 2 := rfl; omega
      obtain ⟨a, z, rfl⟩ := len2 l (by omega)
      obtain ⟨ad, e0, k0⟩ := HKW.out _ hB 0 (by simp)
      subst e0
      obtain ⟨ad2, e1, k1⟩ := HKW.out _ hB 1 (by simp)
      injection e1 with e1
      subst e1
      simp only [Addr.add_zero', Addr.add_succ', List.getElem_cons_zero, List.getElem_cons_succ, Nat.zero_add] at k0 k1
      have hn1 : (0 : Int) < (n : Int) := by omega
      have hn2 : (1 : Int) < (n : Int) := by omega
      rcases h0 : (a == 2) with _ | _
      · have hR : RES = (0, 40) := by rw [hfin]; simp [kindL, kindT, h0]
        have HR := Lib.hid hR
        clear hR hfin
        go_wp2
        exact bodyPost_ret (v := pairII (0, 40)) (by simp [results, Tryz.results178, go_sem]) rfl ⟨by rw [HR.out], hB⟩
      · rcases h1 : (z == 2) with _ | _
        · have hR : RES = (0, 40) := by rw [hfin]; simp [kindL, kindT, h0, h1]
          have HR := Lib.hid hR
          clear hR hfin
          go_wp2
          exact bodyPost_ret (v := pairII (0, 40)) (by simp [results, Tryz.results178, go_sem]) rfl ⟨by rw [HR.out], hB⟩
        · have hR : RES = (2, 0) := by rw [hfin]; simp [kindL, kindT, h0, h1]
          have HR := Lib.hid hR
          clear hR hfin
          go_wp2
          exact bodyPost_ret (v := pairII (2, 0)) (by simp [results, Tryz.results178, go_sem]) rfl ⟨by rw [HR.out], hB⟩
    by_cases o8 : op = 8
    · subst o8
      have hnk : n = 2 := by have : kidsN 8 = 2 := rfl; omega
      obtain ⟨a, z, rfl⟩ := len2 l (by omega)
      obtain ⟨ad, e0, k0⟩ := HKW.out _ hB 0 (by simp)
      subst e0
      obtain ⟨ad2, e1, k1⟩ := HKW.out _ hB 1 (by simp)
      injection e1 with e1
      subst e1
      simp only [Addr.add_zero', Addr.add_succ', List.getElem_cons_zero, List.getElem_cons_succ, Nat.zero_add] at k0 k1
      have hn1 : (0 : Int) < (n : Int) := by omega
      have hn2 : (1 : Int) < (n : Int) := by omega
      rcases h0 : (a == z) with _ | _
      · have hR : RES = (0, 40) := by rw [hfin]; simp [kindL, kindT, h0]
        have HR := Lib.hid hR
        clear hR hfin
        go_wp2
        go_quiet (fail)
        go_wp2
        exact bodyPost_ret (v := pairII (0, 40)) (by simp [results, Tryz.results178, go_sem]) rfl ⟨by rw [HR.out], below_drewN hB _⟩
      · have hR : RES = (2, 0) := by rw [hfin]; simp [kindL, kindT, h0]
        have HR := Lib.hid hR
        clear hR hfin
        go_wp2
        go_quiet (fail)
        go_wp2
        exact bodyPost_ret (v := pairII (2, 0)) (by simp [results, Tryz.results178, go_sem]) rfl ⟨by rw [HR.out], below_drewN hB _⟩
    by_cases o9 : op = 9
    · subst o9
      have hnk : n = 2 := by have : kidsN 9 = 2 := rfl; omega
      obtain ⟨a, z, rfl⟩ := len2 l (by omega)
      obtain ⟨ad, e0, k0⟩ := HKW.out _ hB 0 (by simp)
      subst e0
      obtain ⟨ad2, e1, k1⟩ := HKW.out _ hB 1 (by simp)
      injection e1 with e1
      subst e1
      simp only [Addr.add_zero', Addr.add_succ', List.getElem_cons_zero, List.getElem_cons_succ, Nat.zero_add] at k0 k1
      have hn1 : (0 : Int) < (n : Int) := by omega
      have hn2 : (1 : Int) < (n : Int) := by omega
      rcases h0 : (a == z) with _ | _
      · have hR : RES = (0, 40) := by rw [hfin]; simp [kindL, kindT, h0]
        have HR := Lib.hid hR
        clear hR hfin
        go_wp2
        go_quiet (fail)
        go_wp2
        exact bodyPost_ret (v := pairII (0, 40)) (by simp [results, Tryz.results178, go_sem]) rfl ⟨by rw [HR.out], below_drewN hB _⟩
      · rcases h1 : (a == 1) with _ | _
        · rcases h2 : (a == 3) with _ | _
          · rcases h3 : (a == 4) with _ | _
            · have hR : RES = (0, 40) := by rw [hfin]; simp [kindL, kindT, h0, h1, h2, h3]
              have HR := Lib.hid hR
              clear hR hfin
              go_wp2
              go_quiet (fail)
              go_wp2
              exact bodyPost_ret (v := pairII (0, 40)) (by simp [results, Tryz.results178, go_sem]) rfl ⟨by rw [HR.out], below_drewN hB _⟩
            · have hR : RES = (2, 0) := by rw [hfin]; simp [kindL, kindT, h0, h1, h2, h3]
              have HR := Lib.hid hR
              clear hR hfin
              go_wp2
              go_quiet (fail)
              go_wp2
              exact bodyPost_ret (v := pairII (2, 0)) (by simp [results, Tryz.results178, go_sem]) rfl ⟨by rw [HR.out], below_drewN hB _⟩
          · have hR : RES = (2, 0) := by rw [hfin]; simp [kindL, kindT, h0, h1, h2]
            have HR := Lib.hid hR
            clear hR hfin
            go_wp2
            go_quiet (fail)
            go_wp2
            exact bodyPost_ret (v := pairII (2, 0)) (by simp [results, Tryz.results178, go_sem]) rfl ⟨by rw [HR.out], below_drewN hB _⟩
        · have hR : RES = (2, 0) := by rw [hfin]; simp [kindL, kindT, h0, h1]
          have HR := Lib.hid hR
          clear hR hfin
          go_wp2
          go_quiet (fail)
          go_wp2
          exact bodyPost_ret (v := pairII (2, 0)) (by simp [results, Tryz.results178, go_sem]) rfl ⟨by rw [HR.out], below_drewN hB _⟩
    by_cases o13 : op = 13
    · subst o13
      have hnk : n = 3 := by have : kidsN 13 = 3 := rfl; omega
      obtain ⟨a, m, z, rfl⟩ := len3 l (by omega)
      obtain ⟨ad, e0, k0⟩ := HKW.out _ hB 0 (by simp)
      subst e0
      obtain ⟨ad2, e1, k1⟩ := HKW.out _ hB 1 (by simp)
      injection e1 with e1
      subst e1
      obtain ⟨ad3, e2, k2⟩ := HKW.out _ hB 2 (by simp)
      injection e2 with e2
      subst e2
      simp only [Addr.add_zero', Addr.add_succ', List.getElem_cons_zero, List.getElem_cons_succ, Nat.zero_add] at k0 k1 k2
      have hn1 : (0 : Int) < (n : Int) := by omega
      have hn2 : (1 : Int) < (n : Int) := by omega
      have hn3 : (2 : Int) < (n : Int) := by omega
      rcases h0 : (a == 2) with _ | _
      · have hR : RES = (0, 40) := by rw [hfin]; simp [kindL, kindT, h0]
        have HR := Lib.hid hR
        clear hR hfin
        go_wp2
        go_quiet (fail)
        go_wp2
        exact bodyPost_ret (v := pairII (0, 40)) (by simp [results, Tryz.results178, go_sem]) rfl ⟨by rw [HR.out], below_drewN hB _⟩
      · rcases h1 : (m == z) with _ | _
        · have hR : RES = (0, 40) := by rw [hfin]; simp [kindL, kindT, h0, h1]
          have HR := Lib.hid hR
          clear hR hfin
          go_wp2
          go_quiet (fail)
          go_wp2
          exact bodyPost_ret (v := pairII (0, 40)) (by simp [results, Tryz.results178, go_sem]) rfl ⟨by rw [HR.out], below_drewN hB _⟩
        · have hR : RES = (m, 0) := by rw [hfin]; simp [kindL, kindT, h0, h1]; try exact (beq_iff_eq.1 h1).symm
          have HR := Lib.hid hR
          clear hR hfin
          go_wp2
          go_quiet (fail)
          go_wp2
          exact bodyPost_ret (v := pairII (m, 0)) (by simp [results, Tryz.results178, go_sem]) rfl ⟨by rw [HR.out], below_drewN hB _⟩
    have hop : op = 4 ∨ op = 5 ∨ op = 6 ∨ op = 7 ∨ op = 14 ∨ op = 15 := by
      unfold kidsN at hkn
      simp only [o1, o2, o3, o16, o12, o10, o11, o8, o9, o13, false_or, or_false, if_false] at hkn
      split at hkn
      · assumption
      · omega
    have hnk : n = 2 := by have h2 : kidsN op = 2 := (by rcases hop with rfl | rfl | rfl | rfl | rfl | rfl <;> rfl); omega
    obtain ⟨a, z, rfl⟩ := len2 l (by omega)
    obtain ⟨ad, e0, k0⟩ := HKW.out _ hB 0 (by simp)
    subst e0
    obtain ⟨ad2, e1, k1⟩ := HKW.out _ hB 1 (by simp)
    injection e1 with e1
    subst e1
    simp only [Addr.add_zero', Addr.add_succ', List.getElem_cons_zero, List.getElem_cons_succ, Nat.zero_add] at k0 k1
    have hn1 : (0 : Int) < (n : Int) := by omega
    have hn2 : (1 : Int) < (n : Int) := by omega
    have p1 : (op == 1) = false := beq_eq_false_iff_ne.2 o1
    have p2 : (op == 2) = false := beq_eq_false_iff_ne.2 o2
    have p3 : (op == 3) = false := beq_eq_false_iff_ne.2 o3
    have p16 : (op == 16) = false := beq_eq_false_iff_ne.2 o16
    have p12 : (op == 12) = false := beq_eq_false_iff_ne.2 o12
    have p10 : (op == 10) = false := beq_eq_false_iff_ne.2 o10
    have p11 : (op == 11) = false := beq_eq_false_iff_ne.2 o11
    have p8 : (op == 8) = false := beq_eq_false_iff_ne.2 o8
    have p9 : (op == 9) = false := beq_eq_false_iff_ne.2 o9
    have p13 : (op == 13) = false := beq_eq_false_iff_ne.2 o13
    replace hfin : RES = if (a == z && (a == 1 || a == 4)) = true then (a, 0) else (0, 40) := by rw [hfin]; rcases hop with rfl | rfl | rfl | rfl | rfl | rfl <;> simp [kindL, kindT]
    clear hop hkn
    rcases h0 : (a == z) with _ | _
    · have hR : RES = (0, 40) := by rw [hfin]; simp [kindL, kindT, h0]
      have HR := Lib.hid hR
      clear hR hfin
      go_wp2
      go_quiet (fail)
      go_wp2
      exact bodyPost_ret (v := pairII (0, 40)) (by simp [results, Tryz.results178, go_sem]) rfl ⟨by rw [HR.out], below_drewN hB _⟩
    · rcases h1 : (a == 1) with _ | _
      · rcases h2 : (a == 4) with _ | _
        · have hR : RES = (0, 40) := by rw [hfin]; simp [kindL, kindT, h0, h1, h2]
          have HR := Lib.hid hR
          clear hR hfin
          go_wp2
          go_quiet (fail)
          go_wp2
          exact bodyPost_ret (v := pairII (0, 40)) (by simp [results, Tryz.results178, go_sem]) rfl ⟨by rw [HR.out], below_drewN hB _⟩
        · have hR : RES = (a, 0) := by rw [hfin]; simp [kindL, kindT, h0, h1, h2]
          have HR := Lib.hid hR
          clear hR hfin
          go_wp2
          go_quiet (fail)
          go_wp2
          exact bodyPost_ret (v := pairII (a, 0)) (by simp [results, Tryz.results178, go_sem]) rfl ⟨by rw [HR.out], below_drewN hB _⟩
      · have hR : RES = (a, 0) := by rw [hfin]; simp [kindL, kindT, h0, h1]
        have HR := Lib.hid hR
        clear hR hfin
        go_wp2
        go_quiet (fail)
        go_wp2
        exact bodyPost_ret (v := pairII (a, 0)) (by simp [results, Tryz.results178, go_sem]) rfl ⟨by rw [HR.out], below_drewN hB _⟩
end Go.Proofs.YthgdnpcfdgimlabGreat

/- Layer 5: Check, by the document: the walk. -/
namespace Go.Proofs.YthgdnpcfdgimlabGreat
open Go.RowKit
set_option linter.unusedVariables false
set_option linter.unusedSimpArgs false
set_option maxRecDepth 20000

theorem kids_own {w : World} {B : Nat} {v : Value} {n k : Nat} {l : List Int} (h : w.ownsRow B 3 1 v n (l.map (Value.int .i64))) (hk : l.length = k) : ∃ KA kc, v = .slice KA k kc ∧ RdI w KA kc l := by
  have h2 : Rd w v (l.map (Value.int .i64)) := Rd.of_own h
  have h3 := h2
  obtain ⟨KA, kc, e, -⟩ := h3
  rw [List.length_map] at e
  subst e
  refine ⟨KA, kc, by rw [hk], h2⟩
set_option maxHeartbeats 4000000 in
theorem rcheck_any (FA : Option Addr) (FC : Nat) (fs : List Fd) : ∀ (D d : Nat) (e : Ex) (A : Option Addr) (c : Nat) (w : World), ExK w D A c e → FdK w FA FC fs → deepX d e → sizeX d e ≤ 24 →
    Calls Tryz.prog 129 #[agX e.op A e.kids.length c e.name e.val, .slice FA fs.length FC] w (VMk (pairII (chkX d e fs)) w)
  | 0, _, _, _, _, _, h, _, _, _ => False.elim h
  | D + 1, d, e, A, c, w, hx, hf, hdeep, hsize => by
    obtain ⟨d, rfl, h23, hkids⟩ := deepX_kid hdeep hsize
    have ih := rcheck_any FA FC fs D
    obtain ⟨h2, h3, h4, h5⟩ := hx
    obtain ⟨i0, hi, hz0, hz1, hz2⟩ := info_parts eintinfo
    obtain ⟨G, hG⟩ : ∃ G : Ex → Int × Int, G = fun k => chkX d k fs := ⟨_, rfl⟩
    have hchk : chkX (d + 1) e fs = if (chkL G e.kids).2 ≠ 0 then (0, (chkL G e.kids).2) else kindX e (chkL G e.kids).1 fs := by rw [hG]; rfl
    have hgood := chkL_good G e.kids
    have hbad := chkL_bad G e.kids
    have hcall : ∀ (j : Nat) (hj : j < e.kids.length) A' c' W, ExK w D A' c' e.kids[j] → Below w.heap.size w W → Calls Tryz.prog 129 #[agX e.kids[j].op A' e.kids[j].kids.length c' e.kids[j].name e.kids[j].val, .slice FA fs.length FC] W (VMk (pairII (G e.kids[j])) W) :=
      fun j hj A' c' W hx hB => by rw [hG]; exact ih d e.kids[j] A' c' W (hx.below hB (Nat.le_refl _)) (hf.below hB (Nat.le_refl _)) (hkids j hj).1 (hkids j hj).2
    have hkind : ∀ KA kc W, RdI W KA kc (e.kids.map fun k => (G k).1) → Below w.heap.size w W → Calls Tryz.prog 178 #[agX e.op A e.kids.length c e.name e.val, .slice KA e.kids.length kc, .slice FA fs.length FC] W (VMk (pairII (kindX e (e.kids.map fun k => (G k).1) fs)) W) :=
      fun KA kc W h hB => rkind_any e A c KA kc _ FA FC fs W h (by simp) (hf.below hB (Nat.le_refl _))
    generalize chkX (d + 1) e fs = RES at hchk ⊢
    generalize hKX : kindX e (e.kids.map fun k => (G k).1) fs = KX at hkind
    have hres0 : (∀ (j : Nat) (hj : j < e.kids.length), (G e.kids[j]).2 = 0) → RES = KX := fun h => by
      rw [hchk, hgood h, if_neg (fun h => h rfl), hKX]
    have hres1 : ∀ (k : Nat) (hk : k < e.kids.length), (∀ (j : Nat) (hj : j < k), (G (e.kids[j]'(Nat.lt_trans hj hk))).2 = 0) → (G e.kids[k]).2 ≠ 0 → RES = (0, (G e.kids[k]).2) := fun k hk h hne => by
      have := hbad k hk h hne
      rw [hchk, if_pos (by rw [this]; exact hne), this]
    clear ih hkids hsize hdeep hG hgood hbad hchk hKX
    generalize e.kids = ks at *
    generalize e.op = eop at *
    generalize e.name = enm at *
    generalize e.val = ev at *
    have hsf := fun (w : World) (a : Addr) (m : Mode) (b : Nat) => run_store Tryz.prog w a (.float .f64 b) m rfl
    have HCALL := Lib.hid hcall
    have HKIND := Lib.hid hkind
    have HRES0 := Lib.hid hres0
    have HRES1 := Lib.hid hres1
    have H5 := Lib.hid h5
    have H23 := Lib.hid h23
    have HB0 := Lib.hid (alloc1 w (bxX eop A ks.length c enm ev))
    have HK0 := Lib.hid (Kid_new w eop A ks.length c enm ev)
    clear hcall hkind hres0 hres1 h5 h23 hf h2 h3 h4
    go_enter Tryz.func129, Tryz.ntmps129
    go_upto_region 1 with fail
    generalize hw1 : w.alloc (bxX eop A ks.length c enm ev) = w1 at *
    have HBR := Lib.hid (Below.refl w1.heap.size w1)
    clear hw1
    go_wp2
    go_loopw [6, 7] (fun sv i wr => ∃ k : Nat, k ≤ ks.length ∧ i = .int .i64 k ∧ (∀ (j : Nat) (hj : j < ks.length), j < k → (G ks[j]).2 = 0) ∧ wr.ownsRow w1.heap.size 3 1 sv k (((ks.take k).map fun q => (G q).1).map (Value.int .i64)) ∧ Below w1.heap.size w1 wr) (fun _ i _ => ks.length - (intOf i).toNat)
    case atStart => exact ⟨0, Nat.zero_le _, rfl, fun j hj h => absurd h (Nat.not_lt_zero _), World.ownsRow_nil _ _ _ _, HBR.out⟩
    case round =>
      obtain ⟨k, hk, rfl, hall, hown, hb⟩ := hrel
      have HB := Lib.hid hb
      have HALL := Lib.hid hall
      obtain ⟨d0, d1, d2, d3, d4, d5, d6, d7⟩ := HK0.out.below hb
      clear hb hall
      by_cases hlt : k < ks.length
      · obtain ⟨ad, A', c', rfl, hbl, hkid, hsub⟩ := H5.out k hlt
        obtain ⟨q0, q1, q2, q3, q4, q5, q6, q7⟩ := hkid.below (bel2 HB0.out HB.out) (by rw [block_add]; exact hbl)
        have hltI : (k : Int) < (ks.length : Int) := by omega
        have hcall := HCALL.out k hlt A' c' wr hsub (bel2 HB0.out HB.out)
        have HT := Lib.hid (show ((ks.take (k + 1)).map fun q => (G q).1) = ((ks.take k).map fun q => (G q).1) ++ [(G ks[k]).1] by rw [List.take_succ_eq_append_getElem hlt, List.map_append]; rfl)
        have HN := Lib.hid (show (G ks[k]).2 = 0 → ∀ (j : Nat) (hj : j < ks.length), j < k + 1 → (G ks[j]).2 = 0 from fun h0 j hj hjk => by
          by_cases hjk2 : j < k
          · exact HALL.out j hj hjk2
          · obtain rfl : j = k := by omega
            exact h0)
        have HR := Lib.hid (show (G ks[k]).2 ≠ 0 → RES = (0, (G ks[k]).2) from fun hne => HRES1.out k hlt (fun j hj => HALL.out j (by omega) hj) hne)
        clear hkid hsub
        generalize G ks[k] = r at *
        generalize ks[k].op = xop at *
        generalize ks[k].kids.length = xn at *
        generalize ks[k].name = xnm at *
        generalize ks[k].val = xv at *
        obtain ⟨rk, re⟩ := r
        obtain ⟨As, cs, e, -⟩ := kids_own (k := k) hown (by rw [List.length_map, List.length_take]; omega)
        subst e
        have HC := Lib.hid hcall
        have HO := Lib.hid hown
        clear hcall hown
        by_cases he : re = 0
        · subst he
          have hne0 : ((0 : Int) != 0) = false := rfl
          go_wp2_with (first
            | (go_at_call 129; refine HC.out.mono ?_; rintro e w2 ⟨rfl, hb2⟩; have HB2 := Lib.hid (bel2 HB.out hb2); have HO2 := Lib.hid (own_belowX (own_belowX HO.out hb2) (alloc1 w2 (.cells #[.int .i64 rk] 3))); have HB3 := Lib.hid (bel2 HB2.out (alloc1 w2 (.cells #[.int .i64 rk] 3))); have hk23 := H23.out; clear hb2)
            | (at_builtin; refine wpList_append_rd _ rfl (.tmp 30) (.tmp 32) 67 rfl w1.heap.size 3 i0 (.int .i64 0) 8 Tryz.underlying67 hi hz0 hz1 hz2 rfl _ _ _ rfl HO2.out _ _ rfl (Rd.one _ _ _) (by intro u hu; simp at hu; subst hu; rfl) (by simp; unfold maxLen; omega) (by simp; omega) HB3.out.size ?_; intro v3 w3 hown3 hg3))
          have HB4 := Lib.hid (HB3.out.grown hg3 HB3.out.size (fun g hg => (HO2.out.lt g hg).1))
          have hown4 : w3.ownsRow w1.heap.size 3 1 v3 (k + 1) (((ks.take (k + 1)).map fun q => (G q).1).map (Value.int .i64)) := by
            rw [HT.out, List.map_append]
            simpa using hown3
          clear hg3 hown3
          go_roundw
          case rel => exact ⟨k + 1, by omega, by go_num, HN.out (by first | rfl | trivial), hown4, HB4.out⟩
          case measure => simp [intOf]; omega
        · have hne0 : (re != 0) = true := by simpa using he
          have HE := Lib.hid (HR.out he)
          clear he
          go_wp2_with (first
            | fail
            | (go_at_call 129; refine HC.out.mono ?_; rintro e w2 ⟨rfl, hb2⟩))
          exact bodyPost_ret (v := pairII (0, re)) (by simp [results, Tryz.results129, go_sem]) rfl ⟨by rw [HE.out], bel2 (bel2 HB0.out HB.out) hb2⟩
      · obtain rfl : k = ks.length := by omega
        have hltI : ¬ (ks.length : Int) < (ks.length : Int) := by omega
        rw [List.take_length] at hown
        obtain ⟨KA, kc, e, hrd⟩ := kids_own (k := ks.length) hown (by simp)
        subst e
        have HKD := Lib.hid (HKIND.out KA kc wr hrd (bel2 HB0.out HB.out))
        have HE := Lib.hid (HRES0.out (fun j hj => HALL.out j hj hj))
        clear hown hrd
        obtain ⟨kx1, kx2⟩ := KX
        go_wp2_with (go_at_call 178; refine HKD.out.mono ?_; rintro e w2 ⟨rfl, hb2⟩)
        exact bodyPost_ret (v := pairII (kx1, kx2)) (by simp [results, Tryz.results129, go_sem]) rfl ⟨by rw [HE.out], bel2 (bel2 HB0.out HB.out) hb2⟩

/-- Check by the document -/
theorem reCheck_any (FA : Option Addr) (FC : Nat) (fs : List Fd) (D : Nat) (e : Ex) (A : Option Addr) (c : Nat) (w : World) (hx : ExK w D A c e) (hf : FdK w FA FC fs) :
    Calls Tryz.prog 83 #[agX e.op A e.kids.length c e.name e.val, .slice FA fs.length FC] w (VMk (pairII (checkX e fs)) w) := by
  have hs := fun W (hb : Below w.heap.size w W) => rSmall_any D e A c W (hx.below hb (Nat.le_refl _))
  have hc : smallX e = true → ∀ W, Below w.heap.size w W → Calls Tryz.prog 129 #[agX e.op A e.kids.length c e.name e.val, .slice FA fs.length FC] W (VMk (pairII (chkX 6 e fs)) W) := fun h W hb => by
    obtain ⟨h1, h2⟩ := (smallX_iff e).1 h
    exact rcheck_any FA FC fs D 6 e A c W (hx.below hb (Nat.le_refl _)) (hf.below hb (Nat.le_refl _)) h1 h2
  have hr : checkX e fs = if smallX e then chkX 6 e fs else (0, 51) := rfl
  rw [hr]
  generalize chkX 6 e fs = r at hc ⊢
  generalize smallX e = b at hs hc ⊢
  generalize e.kids.length = n at *
  generalize e.op = eop at *
  generalize e.name = enm at *
  generalize e.val = ev at *
  have hb0 : ∀ o, Below w.heap.size w (w.alloc o) := fun o => (Below.refl _ _).alloc (Nat.le_refl _) _
  have HS := Lib.hid hs
  clear hs hr hx hf
  have hsf := fun (w : World) (a : Addr) (m : Mode) (b : Nat) => run_store Tryz.prog w a (.float .f64 b) m rfl
  rcases b with _ | _
  · clear hc
    rw [if_neg (by decide)]
    go_enter Tryz.func83, Tryz.ntmps83
    go_wp2_with (go_at_call 98; refine (HS.out _ (hb0 _)).mono ?_; rintro e w1 ⟨rfl, hb1⟩)
    exact bodyPost_ret (v := pairII (0, 51)) (by simp [results, Tryz.results83, go_sem]) rfl ⟨rfl, bel2 (hb0 _) hb1⟩
  · have hc := hc rfl
    have HC := Lib.hid hc
    clear hc
    rw [if_pos rfl]
    obtain ⟨r1, r2⟩ := r
    go_enter Tryz.func83, Tryz.ntmps83
    go_wp2_with (first
      | (go_at_call 98; refine (HS.out _ (hb0 _)).mono ?_; rintro e w1 ⟨rfl, hb1⟩; obtain ⟨d0, d1, d2, d3, d4, d5, d6, d7⟩ := (Kid_new w eop A n c enm ev).below hb1)
      | (go_at_call 129; refine (HC.out _ (bel2 (hb0 _) hb1)).mono ?_; rintro e w2 ⟨rfl, hb2⟩))
    exact bodyPost_ret (v := pairII (r1, r2)) (by simp [results, Tryz.results83, go_sem]) rfl ⟨rfl, bel2 (bel2 (hb0 _) hb1) hb2⟩
end Go.Proofs.YthgdnpcfdgimlabGreat
