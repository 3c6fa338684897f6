/- Layer 2: Open, by the program and by the document. -/
import Derived.Test.YteancgimgffkpaaTOpen
namespace Go.Proofs.Yteancgimgffkpaa
open Go.RowKit
set_option linter.unusedVariables false

/-- what Open answers -/
def Opens (d : List UInt8) (w : World) (e : Ending) (w' : World) : Prop :=
  (openS d = none ∧ e = .returned (.tuple #[.int .u8 0, .slice none 0 0, .bool false]) ∧ Below w.heap.size w w') ∨
  (∃ t ls v, openS d = some (t, ls) ∧ e = .returned (.tuple #[.int .u8 ((t : UInt8).toNat : Int), v, .bool true]) ∧ Bss w' v ls ∧ Below w.heap.size w w')

theorem strB_extract (t : UInt8) (r : List UInt8) : (strB (t :: r)).extract 1 (r.length + 1) = strB r := by
  apply ByteArray.ext
  simp [strB]

theorem bytesWorld_bsN (w : World) (l : List UInt8) (hl : l.length ≤ maxLen) (n c : Nat) (hn : n = l.length) (hc : c = grownCap w l.length 0 5) :
    Bs (Lib.bytesWorld w 5 (strB l)) (.slice (some ⟨w.heap.size, 0, none⟩) n c) l := by
  subst hn
  have h := bytesWorld_bs w l hl c (by rw [hc, strB_size])
  rw [strB_size] at h
  exact h

theorem conv_digest (w : World) (s : ByteArray) : (convert 25 31 (.string s)).run Try.prog w = .ok (.slice (some ⟨w.heap.size, 0, none⟩) s.size (grownCap w s.size 0 5)) (Lib.bytesWorld w 5 s) :=
  Lib.run_convert_string_bytes (P := Try.prog) w _ _ _ s Try.underlying25 Try.underlying31 Try.underlying5

set_option maxHeartbeats 1000000 in
theorem Open_any (d : List UInt8) (w : World) (hl : d.length ≤ 1000000) : Calls Try.prog 19 #[.string (strB d)] w (Opens d w) := by
  cases d with
  | nil =>
    have he : (strB []).toList.isEmpty = true := by rw [strB_list]; rfl
    go_enter Try.func19, Try.ntmps19
    go_wp2
    go_ret3
    exact .inl ⟨rfl, rfl, Below.refl _ _⟩
  | cons t r =>
    have he : (strB (t :: r)).toList.isEmpty = false := by rw [strB_list]; rfl
    have hcv := conv_digest
    have hsz := strB_size (t :: r)
    have hex := strB_extract t r
    have hlr : r.length ≤ 999999 := by simp at hl; omega
    clear hl
    go_enter Try.func19, Try.ntmps19
    go_wp2_with (first
      | (go_at_call 26; refine (New_any _ r _ (bytesWorld_bsN w r (by unfold maxLen; omega) _ _ rfl rfl) (by omega)).mono ?_; rintro e w1 ⟨g, rfl, hg, hr1, hb1⟩)
      | (go_at_call 27; refine (readParts_any g r _ hr1 (by omega)).mono ?_; rintro e w2 ⟨v2, ys, rest, err, rfl, hgr, hr2, ho2, hbody⟩)
      | (go_at_call 28; refine (End_any g rest err _ hr2).mono ?_; rintro e w3 ⟨rfl, hr3, ho3⟩)
      | (go_at_call 29; refine (Err_any g rest _ _ hr3).mono ?_; rintro e w' ⟨rfl, rfl⟩))
    all_goals have hbw := bytesWorld_below w 5 (strB r)
    all_goals have hB : Below w.heap.size w w3 := (hbw.trans (hb1.mono hbw.size)).trans (Only.to_below (ho2.trans ho3) (by have := hbw.size; have := hb1.size; omega) (by have := hbw.size; omega))
    · have hc : (endE rest err != 0) = true := by assumption
      have ho := (hbody.open (t := t)).2 (by simpa using hc)
      go_ret3
      exact .inl ⟨ho, rfl, hB⟩
    · have hc : (endE rest err != 0) = false := by assumption
      have ho := (hbody.open (t := t)).1 (by simpa using hc)
      have hbs := (hgr.onlyR hr1.lt hr2 ho3).bss
      go_ret3
      exact .inr ⟨t, ys, v2, ho, rfl, hbs, hB⟩

/-- what the reference's loop knows -/
theorem rfEnd_any (h : Nat) (rest : List UInt8) (e : Int) (w : World) (hr : RfS w h rest e) :
    Calls Try.prog 32 #[.pointer (some ⟨h, 0, none⟩)] w (DidR h (.tuple #[]) rest (endE rest e) w) := by
  obtain ⟨bs, i, hr, rfl⟩ := hr
  obtain ⟨A, c, -, -, -, hi, h99, hc0, hc1, hc2, hf, hlt, -⟩ := hr.open
  by_cases he : e = 0
  · subst he
    have hz : ((0 : Int) == 0) = true := rfl
    by_cases hl : i < bs.length
    · have hE : endE (bs.drop i) 0 = 13 := by unfold endE; rw [if_pos ⟨rfl, by intro h; have := congrArg List.length h; simp at this; omega⟩]
      have hli : (i : Int) < bs.length := by omega
      have HE := Lib.hid hE
      clear hE
      go_enter Try.func32, Try.ntmps32
      refine wp_seq ?_
      go_quiet (fail)
      go_wp2
      go_end0
      exact ⟨rfl, by rw [HE.out]; exact ⟨bs, i, (hr.drewN _).setErr 13, rfl⟩, ((Only.refl _ w).below (below_drewN (Below.refl _ _) _)).set _ _⟩
    · have hE : endE (bs.drop i) 0 = 0 := by unfold endE; rw [if_neg (by rintro ⟨-, h⟩; exact h (List.drop_of_length_le (by omega)))]
      have hli : ¬(i : Int) < bs.length := by omega
      have HE := Lib.hid hE
      clear hE
      go_enter Try.func32, Try.ntmps32
      refine wp_seq ?_
      go_quiet (fail)
      go_wp2
      go_end0
      exact ⟨rfl, by rw [HE.out]; exact ⟨bs, i, hr.drewN _, rfl⟩, (Only.refl _ w).below (below_drewN (Below.refl _ _) _)⟩
  · have hz : (e == 0) = false := by simpa using he
    have hE : endE (bs.drop i) e = e := by unfold endE; rw [if_neg (by rintro ⟨h, -⟩; exact he h)]
    have HE := Lib.hid hE
    clear hE he
    go_enter Try.func32, Try.ntmps32
    refine wp_seq ?_
    go_quiet (fail)
    go_wp2
    go_end0
    exact ⟨rfl, by rw [HE.out]; exact ⟨bs, i, hr.drewN _, rfl⟩, (Only.refl _ w).below (below_drewN (Below.refl _ _) _)⟩
end Go.Proofs.Yteancgimgffkpaa
