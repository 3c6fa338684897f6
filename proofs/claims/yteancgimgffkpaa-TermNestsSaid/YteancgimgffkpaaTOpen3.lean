/- Layer 2: Open, by the document. -/
import Derived.Test.YteancgimgffkpaaTOpen2
namespace Go.Proofs.Yteancgimgffkpaa
open Go.RowKit
set_option linter.unusedVariables false

theorem bytesWorld_bt (w : World) (l : List UInt8) (hl : l.length ≤ maxLen) (n c : Nat) (hn : n = l.length) (hc : c = grownCap w l.length 0 5) :
    Bt (Lib.bytesWorld w 5 (strB l)) (.slice (some ⟨w.heap.size, 0, none⟩) n c) l := by
  refine ⟨bytesWorld_bsN w l hl n c hn hc, fun _ k hk => ?_⟩
  simp [Value.ownBlock] at hk
  subst hk
  exact ⟨_, _, Lib.bytesWorld_at_new w 5 (strB l)⟩

theorem digest_rest (w : World) (t : UInt8) (r : List UInt8) (hl : r.length ≤ 999999) (hC : grownCap w (r.length + 1) 0 5 = 1) :
    Bt (Lib.bytesWorld w 5 (strB (t :: r))) (.slice (some ⟨w.heap.size, 0, none⟩) r.length 0) r := by
  have h := bytesWorld_bt w (t :: r) (by simp; unfold maxLen; omega) (r.length + 1) 1 (by simp) (by simp [hC])
  have h2 := h.drop (k := 1) (by simp)
  rw [if_pos rfl] at h2
  simpa using h2
theorem digest_rest' (w : World) (t : UInt8) (r : List UInt8) (hl : r.length ≤ 999999) (hC : ¬grownCap w (r.length + 1) 0 5 = 1) :
    Bt (Lib.bytesWorld w 5 (strB (t :: r))) (.slice (some ⟨w.heap.size, 1, none⟩) r.length (grownCap w (r.length + 1) 0 5 - 1)) r := by
  have h := bytesWorld_bt w (t :: r) (by simp; unfold maxLen; omega) (r.length + 1) _ (by simp) rfl
  have h2 := h.drop (k := 1) (by simp)
  simp only [List.length_cons] at h2
  rw [if_neg hC] at h2
  simpa [Addr.add_lit] using h2
theorem run_cut1 (ad : Addr) (L c : Nat) (w : World) : (Instr.slice 31 (.slice (some ad) (L + 1) c) (some (.int .i64 1)) none none).run Try.prog w = .ok (.slice (some (if c = 1 then ad else ad.add 1)) L (c - 1)) w := by
  have hz : (sizeOf (Try.prog.elem 31)).run Try.prog w = .ok 1 w := by rfl
  rw [run_slice_l (P := Try.prog) w 31 (some ad) (L + 1) c Try.underlying31 .i64 1 (by omega) (by omega), hz]
  simp only [Result.andThen, sliced]
  by_cases hc : c = 1
  · subst hc; rfl
  · rw [if_neg hc]
    have : ¬c = (1 : Int).toNat := hc
    rw [if_neg this]
    rfl
/-- a digest's bytes but for the first, as they are cut -/
theorem digest_cut (w : World) (t : UInt8) (r : List UInt8) (hl : r.length ≤ 999999) : ∃ AD CD, Bt (Lib.bytesWorld w 5 (strB (t :: r))) (.slice (some AD) r.length CD) r ∧
    ∀ w', (Instr.slice 31 (.slice (some ⟨w.heap.size, 0, none⟩) (r.length + 1) (grownCap w (r.length + 1) 0 5)) (some (.int .i64 1)) none none).run Try.prog w' = .ok (.slice (some AD) r.length CD) w' := by
  refine ⟨_, _, ?_, fun w' => run_cut1 _ _ _ w'⟩
  have h := bytesWorld_bt w (t :: r) (by simp; unfold maxLen; omega) (r.length + 1) _ (by simp) rfl
  have h2 := h.drop (k := 1) (by simp)
  simpa using h2
theorem RfS.mk (W : World) (v : Value) (r : List UInt8) (hb : Bt W v r) (hl : r.length ≤ 1000000000000) (g : Nat) (hg : g = W.heap.size) : RfS (W.alloc (.cells #[v, .int .i64 0, .int .i64 0] 53)) g r 0 := by
  subst hg
  exact ⟨r, 0, ⟨v, heap_alloc_new _ _, hb.below ((Below.refl _ _).alloc (Nat.le_refl _) _) (Nat.le_refl _), Nat.zero_le _, hl⟩, rfl⟩

set_option maxHeartbeats 1000000 in
theorem rOpen_any (d : List UInt8) (w : World) (hl : d.length ≤ 1000000) : Calls Try.prog 20 #[.string (strB d)] w (Opens d w) := by
  obtain ⟨i1, hj, hy0, hy1, hy2⟩ := info_parts rowinfo
  cases d with
  | nil =>
    have he : (((strB []).size : Int) == 0) = true := by rw [strB_size]; rfl
    go_enter Try.func20, Try.ntmps20
    go_wp2
    go_ret3
    exact .inl ⟨rfl, rfl, Below.refl _ _⟩
  | cons t r =>
    have hcv := conv_digest
    have hsz := strB_size (t :: r)
    have hlr : r.length ≤ 999999 := by simp at hl; omega
    clear hl
    obtain ⟨AD, CD, hD, hsl⟩ := digest_cut w t r hlr
    have hbz : (Lib.bytesWorld w 5 (strB (t :: r))).heap.size = w.heap.size + 1 := Lib.bytesWorld_size w _ _
    have hB0 : Below w.heap.size w ((Lib.bytesWorld w 5 (strB (t :: r))).alloc (.cells #[.slice (some AD) r.length CD, .int .i64 0, .int .i64 0] 53)) := (bytesWorld_below w _ _).alloc (bytesWorld_below w _ _).size _
    have hS0 := RfS.mk _ _ r hD (by omega) (w.heap.size + 1) hbz.symm
    have HD := Lib.hid hD
    have HS0 := Lib.hid hS0
    have HB0 := Lib.hid hB0
    have hcn := count_lt 1099511627776 r 0
    have hst := count_at 1099511627776 r (.inr (by omega))
    have hcount := fun w hr => rfCount_any (w.heap.size + 1) r 0 1099511627776 (by omega) (by omega) w hr
    have hcount := fun h w hr => rfCount_any h r 0 1099511627776 (by omega) (by omega) w hr
    generalize stepF 4 (alCount 1099511627776) r 0 = s at *
    obtain ⟨n, r1, e1⟩ := s
    simp only at hcn hcount hst
    have HC := Lib.hid hcount
    clear hcount hD hS0 hB0
    rcases hst with ⟨he, hat, hbody⟩ | ⟨he, hn, hbody⟩
    · subst he
      have HB := Lib.hid hbody
      have HAT := Lib.hid hat
      clear hbody hat
      go_enter Try.func20, Try.ntmps20
      go_wp2_with (first
        | (go_at_call 30; refine (HC.out _ _ HS0.out).mono ?_; rintro e w1 ⟨rfl, hr1, ho1⟩; have hB1 := HB0.out.trans (Only.to_below ho1 HB0.out.size (by omega)); have hgl := hr1.lt; clear ho1))
      go_loopw [7, 8] (fun v i wr => ∃ (k : Nat) (ys : List (List UInt8)) (rest : List UInt8) (err : Int), k ≤ n ∧ i = .int .i64 k ∧ At n (r.drop 4) k ys rest err ∧ ys.length = k ∧ Grows w1.heap.size wr v ys ∧ RfS wr (w.heap.size + 1) rest err ∧ Only (w.heap.size + 1) w1 wr) (fun _ i _ => n - (intOf i).toNat)
      case atStart => exact ⟨0, [], r1, 0, Nat.zero_le _, rfl, HAT.out, rfl, Grows.start _ _, hr1, Only.refl _ _⟩
      case round =>
        obtain ⟨k, ys, rest, err, hk, rfl, hat, hyl, hgr, hrr, hor⟩ := hrel
        have hce := hrr.err
        have HA := Lib.hid hat
        clear hat hr1
        by_cases hlt : k < n
        · by_cases he : err = 0
          · subst he
            have hb0 : ((0 : Int) == 0) = true := rfl
            have hnext := HA.out.step hlt 1099511627776 (.inr (by omega))
            have hbytes := fun w hr => rfBytes_any (w.heap.size + 1) rest 0 1099511627776 (by omega) (by omega) w hr
            have hbytes := fun h w hr => rfBytes_any h rest 0 1099511627776 (by omega) (by omega) w hr
            generalize bytesF 1099511627776 rest 0 = s at *
            obtain ⟨l, rest2, err2⟩ := s
            simp only at hnext hbytes
            have HBY := Lib.hid hbytes
            have HNX := Lib.hid hnext
            clear hbytes hnext
            go_wp2_with (first
              | (go_at_call 31; refine (HBY.out _ _ hrr).mono ?_; rintro e w2 ⟨v2, rfl, hbs2, hr2, ho2, hnw2⟩; obtain ⟨xs, hown, hin⟩ := hgr.onlyG hgl hrr ho2; obtain ⟨A2, c2, rfl, -⟩ := hbs2.open; have hxl : xs.length = ys.length := by have := hown.1; simpa using this)
              | (at_builtin; refine wpList_append_rdo _ rfl (.tmp 31) (.tmp 34) 22 rfl w1.heap.size 31 i1 (.slice none 0 0) 24 Try.underlying22 hj hy0 hy1 hy2 rfl _ _ _ rfl (hown.alloc _) _ _ rfl (Rd.one _ _ _) (by intro u hu; simp at hu; subst hu; rfl) (by simp; unfold maxLen; omega) (by simp; omega) (by have := hor.size; have := ho2.size; simp; omega) ?_; intro v3 w3 hown3 hg3 ho3))
            have hG := Grows.push (l := l) (B := w1.heap.size) (ls := ys) (fun j y m hy hm => ⟨(hin j y m hy hm).1.below ((Below.refl w2.heap.size w2).alloc (Nat.le_refl _) _) (Nat.le_refl _), (hin j y m hy hm).2⟩) hxl (Rd.below hbs2 ((Below.refl w2.heap.size w2).alloc (Nat.le_refl _) _) (Nat.le_refl _)) (fun _ g hg => own_off' hgr hnw2 g hg) hown3 hg3 ho3
            have hR3 := RfS.grownRow (hr2.below ((Below.refl w2.heap.size w2).alloc (Nat.le_refl _) _)) (hown.alloc _) hgl hg3
            have hO3 := Only.grown (Only.below (hor.trans ho2) ((Below.refl w2.heap.size w2).alloc (Nat.le_refl _) _)) hg3 (fun k hk => (hown.lt k hk).1)
            go_roundw
            case rel => exact ⟨k + 1, ys ++ [l], rest2, err2, by omega, by go_num, HNX.out, by simp [hyl], hG, hR3, hO3⟩
            case measure => simp [intOf]; omega
          · have hb0 : (err == 0) = false := by simpa using he
            have hbd : Body r ys rest err := ⟨fun h => absurd h he, fun _ => by rw [HB.out]; exact HA.out.2.2 he⟩
            have HBD := Lib.hid hbd
            clear hbd he
            go_wp2_with (first
              | (go_at_call 32; refine (rfEnd_any _ rest err _ hrr).mono ?_; rintro e w4 ⟨rfl, hr4, ho4⟩; have hce4 := hr4.err))
            all_goals have hB4 : Below w.heap.size w w4 := hB1.trans (Only.to_below (hor.trans ho4) hB1.size (by omega))
            · have hc : (endE rest err != 0) = true := by assumption
              have ho := (HBD.out.open (t := t)).2 (by simpa using hc)
              go_ret3
              exact .inl ⟨ho, rfl, hB4⟩
            · have hc : (endE rest err != 0) = false := by assumption
              have ho := (HBD.out.open (t := t)).1 (by simpa using hc)
              have hbs := (hgr.onlyG hgl hrr ho4).bss
              go_ret3
              exact .inr ⟨t, ys, _, ho, rfl, hbs, hB4⟩
        · have hbd : Body r ys rest err := by
            refine ⟨fun h => ?_, fun h => by rw [HB.out]; exact HA.out.2.2 h⟩
            subst h
            rw [HB.out]
            exact HA.out.all hlt
          have HBD := Lib.hid hbd
          clear hbd
          go_wp2_with (first
            | (go_at_call 32; refine (rfEnd_any _ rest err _ hrr).mono ?_; rintro e w4 ⟨rfl, hr4, ho4⟩; have hce4 := hr4.err))
          all_goals have hB4 : Below w.heap.size w w4 := hB1.trans (Only.to_below (hor.trans ho4) hB1.size (by omega))
          · have hc : (endE rest err != 0) = true := by assumption
            have ho := (HBD.out.open (t := t)).2 (by simpa using hc)
            go_ret3
            exact .inl ⟨ho, rfl, hB4⟩
          · have hc : (endE rest err != 0) = false := by assumption
            have ho := (HBD.out.open (t := t)).1 (by simpa using hc)
            have hbs := (hgr.onlyG hgl hrr ho4).bss
            go_ret3
            exact .inr ⟨t, ys, _, ho, rfl, hbs, hB4⟩
    · subst hn
      have hbd : Body r [] r1 e1 := ⟨fun h => absurd h he, fun _ => hbody⟩
      have HBD := Lib.hid hbd
      clear hbd he hbody
      go_enter Try.func20, Try.ntmps20
      go_wp2_with (first
        | (go_at_call 30; refine (HC.out _ _ HS0.out).mono ?_; rintro e w1 ⟨rfl, hr1, ho1⟩; have hB1 := HB0.out.trans (Only.to_below ho1 HB0.out.size (by omega)); have hgl := hr1.lt; have hce := hr1.err; clear ho1))
      go_loopw [7, 8] (fun v i wr => v = .slice none 0 0 ∧ i = .int .i64 0 ∧ wr = w1) (fun _ i _ => 0)
      case atStart => exact ⟨rfl, rfl, rfl⟩
      case round =>
        obtain ⟨rfl, rfl, rfl⟩ := hrel
        go_wp2_with (first
          | (go_at_call 32; refine (rfEnd_any _ r1 e1 _ hr1).mono ?_; rintro e w4 ⟨rfl, hr4, ho4⟩; have hce4 := hr4.err))
        all_goals have hB4 := hB1.trans (Only.to_below ho4 hB1.size (by omega))
        · have hc : (endE r1 e1 != 0) = true := by assumption
          have ho := (HBD.out.open (t := t)).2 (by simpa using hc)
          go_ret3
          exact .inl ⟨ho, rfl, hB4⟩
        · have hc : (endE r1 e1 != 0) = false := by assumption
          have ho := (HBD.out.open (t := t)).1 (by simpa using hc)
          go_ret3
          exact .inr ⟨t, [], _, ho, rfl, Bss.nil _, hB4⟩
end Go.Proofs.Yteancgimgffkpaa
