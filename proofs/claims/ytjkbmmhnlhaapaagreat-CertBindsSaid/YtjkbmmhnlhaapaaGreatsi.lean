/- si: HMadP HMny ADisR Awake3 ALaw1 ADeed ALaw2 ALaw7 APlay HTwo HSaid HBeg HSign HHeld HMade0 HMade1 HMade HAwP HAw HLaw1 AArgs HArgs HLaw2 (made by shake.py). -/
import Derived.Lib.SlBytesConst
import Derived.Deep.CutRange
import Derived.Test.YtjkbmmhnlhaapaaGreatsh
namespace Go.Proofs.YtjkbmmhnlhaapaaGreat
open Go.RowKit
set_option linter.unusedVariables false
set_option linter.unusedSimpArgs false
set_option maxRecDepth 20000

def mdReq : Msg := ⟨1, 0, 0, 1000, 1, [], [], (0, 0), [], [], []⟩
def mdL1 : List UInt8 := encD mdReq
def mdD : List UInt8 := batB [(1000, mdL1)]
def mdPre (v s : Int) : Msg := ⟨2, v, s, 0, 0, mdD, [], (0, 0), [(1000, mdL1)], [], []⟩
def mdOther : List UInt8 := [97, 110, 111, 116, 104, 101, 114, 32, 111, 110, 101]
def mdVote (v s : Int) (x : Vt) : Msg := ⟨x.k, if x.k = 5 then 0 else v + x.v.tmod 3, s + x.q.tmod 3, 0, 0, if x.o = true then mdOther else mdD, [], (0, 0), [], [], []⟩
def mdP (f p v : Int) : Int := if p < 0 then primE f v else p
def mdV (v s : Int) (x : Vt) : Int × List UInt8 := (x.s, encD (mdVote v s x))
def mdS (f c v s : Int) (L : List (Int × List UInt8)) (x : Vt) : List (Int × List UInt8) := if (!x.u) = true then signT f c x.s (encD (mdVote v s x)) L else L
def mdL0 (f c v s p : Int) (L : List (Int × List UInt8)) : List (Int × List UInt8) := signT f c (mdP f p v) (encD (mdPre v s)) (signT f c 1000 mdL1 L)
def mdL (f c v s p : Int) (L : List (Int × List UInt8)) (vs : List Vt) : List (Int × List UInt8) := vs.foldl (mdS f c v s) (mdL0 f c v s p L)
theorem mdL_take (f c v s p : Int) (L : List (Int × List UInt8)) (vs : List Vt) (k : Nat) (h : k < vs.length) : mdL f c v s p L (vs.take (k + 1)) = mdS f c v s (mdL f c v s p L (vs.take k)) vs[k] := by
  unfold mdL
  rw [List.take_succ_eq_append_getElem h, List.foldl_append]
  rfl
theorem mdE1 : mdL1.length = 28 ∧ mdD.length ≤ 100 := by decide +kernel
theorem mdM1 : SmD mdReq := ⟨by decide, by decide, ⟨by decide, fun e he => by cases he⟩, ⟨by decide, fun e he => by cases he⟩, rfl⟩
theorem mdM2 (v s : Int) : SmD (mdPre v s) := ⟨Nat.le_trans mdE1.2 (by decide), by show (0 : Nat) ≤ _; omega, ⟨by show (1 : Nat) ≤ _; omega, fun e he => by
  have he : e ∈ [((1000 : Int), mdL1)] := he
  rw [List.mem_singleton.1 he]
  show mdL1.length ≤ _
  rw [mdE1.1]
  decide⟩, ⟨by show (0 : Nat) ≤ _; omega, fun e he => by cases he⟩, rfl⟩
theorem mdM3 (v s : Int) (x : Vt) : SmD (mdVote v s x) := ⟨by
  show (if x.o = true then mdOther else mdD).length ≤ _
  split
  · decide
  · exact Nat.le_trans mdE1.2 (by decide), by show (0 : Nat) ≤ _; omega, ⟨by show (0 : Nat) ≤ _; omega, fun e he => by cases he⟩, ⟨by show (0 : Nat) ≤ _; omega, fun e he => by cases he⟩, rfl⟩
theorem encD_le {m : Msg} : (encD m).length ≤ (putM m).length := by
  unfold encD
  split
  · exact Nat.le_refl _
  · exact Nat.zero_le _

section
variable {K : Kn}
theorem open_yes {e : Int × List UInt8} {kind : Int} (h : (openA K e kind).2 = 0) : chkA K e = 0 ∧ (decM e.2).2 = 0 ∧ (decM e.2).1.k = kind ∧ openA K e kind = ((decM e.2).1, 0) := by
  by_cases h1 : chkA K e = 0
  · by_cases h2 : (decM e.2).2 = 0
    · by_cases h3 : (decM e.2).1.k = kind
      · refine ⟨h1, h2, h3, ?_⟩
        unfold openA openX
        rw [if_pos h1, if_pos h2, if_pos h3]
      · unfold openA openX at h
        rw [if_pos h1, if_pos h2, if_neg h3] at h
        exact absurd h (by decide)
    · unfold openA openX at h
      rw [if_pos h1, if_neg h2] at h
      exact absurd h (by decide)
  · exact absurd h (openA_no h1)
theorem vote_yes {e : Int × List UInt8} {kind : Int} (h : (voteA K kind e).2 = 0) : chkA K e = 0 ∧ (decM e.2).2 = 0 ∧ (decM e.2).1.k = kind ∧ (voteA K kind e).1 = (decM e.2).1 ∧ repB K.f e.1 = true ∧ isvB kind = true := by
  have h0 : (openA K e kind).2 = 0 := by
    by_cases h0 : (openA K e kind).2 = 0
    · exact h0
    · unfold voteA voteX at h
      rw [if_neg h0] at h
      exact absurd h h0
  obtain ⟨h1, h2, h3, h4⟩ := open_yes h0
  unfold voteA at h ⊢
  rw [h4] at h ⊢
  unfold voteX at h ⊢
  rw [if_pos rfl] at h ⊢
  by_cases h5 : isvB kind = true
  · rw [if_pos h5] at h ⊢
    by_cases h6 : repB K.f e.1 = true
    · rw [if_pos h6]
      exact ⟨h1, h2, h3, rfl, h6, h5⟩
    · rw [if_neg h6] at h
      exact absurd h (by decide)
  · rw [if_neg h5] at h
    exact absurd h (by decide)
theorem pre_yes {e : Int × List UInt8} (h : (preA K e).2 = 0) : chkA K e = 0 ∧ (decM e.2).2 = 0 ∧ (decM e.2).1.k = 2 ∧ (preA K e).1 = (decM e.2).1 ∧ e.1 = primE K.f (decM e.2).1.v ∧ (decM e.2).1.d = batB (decM e.2).1.b ∧ batA K (decM e.2).1.b = 0 := by
  have h0 : (openA K e 2).2 = 0 := by
    by_cases h0 : (openA K e 2).2 = 0
    · exact h0
    · unfold preA preX at h
      rw [if_neg h0] at h
      exact absurd h h0
  obtain ⟨h1, h2, h3, h4⟩ := open_yes h0
  unfold preA at h ⊢
  rw [h4] at h ⊢
  unfold preX at h ⊢
  rw [if_pos rfl] at h ⊢
  by_cases h5 : e.1 = primE K.f (decM e.2).1.v
  · rw [if_pos h5] at h ⊢
    by_cases h6 : (decM e.2).1.d = batB (decM e.2).1.b
    · rw [if_pos h6] at h ⊢
      by_cases h7 : batA K (decM e.2).1.b = 0
      · rw [if_pos h7]
        exact ⟨h1, h2, h3, rfl, h5, h6, h7⟩
      · rw [if_neg h7] at h
        exact absurd h h7
    · rw [if_neg h6] at h
      exact absurd h (by decide)
  · rw [if_neg h5] at h
    exact absurd h (by decide)
theorem prepX_yes {p : Msg × Int} {t : Int} (h : (prepX p t).2 = 0) : p.2 = 0 ∧ t = 0 ∧ prepX p t = (p.1, 0) := by
  unfold prepX at h ⊢
  by_cases h1 : p.2 = 0
  · rw [if_pos h1] at h ⊢
    by_cases h2 : t = 0
    · rw [if_pos h2]
      exact ⟨h1, h2, rfl⟩
    · rw [if_neg h2] at h
      exact absurd h h2
  · rw [if_neg h1] at h
    exact absurd h h1
theorem rnd_yes {vo : Nat → Msg × Int} {mu ds : Nat → Int} {k : Nat} (h : rndX vo mu ds k = 0) : (vo k).2 = 0 ∧ mu k = 0 ∧ ds (k + 1) = 0 := by
  by_cases h1 : (vo k).2 = 0
  · by_cases h2 : mu k = 0
    · rw [rnd_3 h1 h2] at h
      exact ⟨h1, h2, h⟩
    · rw [rnd_2 h1 h2] at h
      exact absurd h h2
  · rw [rnd_1 h1] at h
    exact absurd h h1
theorem tal_yes {n : Nat} {enough : Int} {vo : Nat → Msg × Int} {mu ds : Nat → Int} (h : talX n enough vo mu ds = 0) : (∀ j, j < n → (vo j).2 = 0 ∧ mu j = 0 ∧ ds (j + 1) = 0) ∧ enough ≤ n := by
  obtain ⟨h1, h2⟩ := findX_zero h
  refine ⟨fun j hj => rnd_yes (h1 j hj), ?_⟩
  by_cases h3 : (n : Int) < enough
  · rw [if_pos h3] at h2
    exact absurd h2 (by decide)
  · omega
theorem votes_yes {p m : Msg} (h : votesC p m = 0) : m.v = p.v ∧ m.s = p.s ∧ m.d = p.d := by
  unfold votesC at h
  by_cases h1 : m.v = p.v
  · rw [if_pos h1] at h
    by_cases h2 : m.s = p.s
    · rw [if_pos h2] at h
      by_cases h3 : m.d = p.d
      · exact ⟨h1, h2, h3⟩
      · rw [if_neg h3] at h
        exact absurd h (by decide)
    · rw [if_neg h2] at h
      exact absurd h (by decide)
  · rw [if_neg h1] at h
    exact absurd h (by decide)
theorem dis_all {l : List (Int × List UInt8)} (hf : 0 ≤ K.f) (h : ∀ j, j < l.length → disA K l (j + 1) = 0) : cntP K.f (l.map (·.1)) = l.length := by
  rcases Nat.eq_zero_or_pos l.length with h0 | h0
  · rw [List.eq_nil_of_length_eq_zero h0]
    exact cnt_nil _
  · have h1 := h (l.length - 1) (by omega)
    unfold disA at h1
    rw [show l.length - 1 + 1 = l.length by omega, List.take_length] at h1
    rw [disE_cnt hf h1, List.length_map]
theorem just_v {m : Msg} (h : checkM m = true) (hk : m.k = 3 ∨ m.k = 4) : m = ⟨m.k, m.v, m.s, 0, 0, m.d, [], (0, 0), [], [], []⟩ := by
  obtain ⟨k, v, s, c, t, d, x, r, b, p, q⟩ := m
  have hf := check_fit h
  have nil : ∀ {α : Type} {l : List α}, allowB (0, 0) ((l.length : Nat) : Int) = true → l = [] := fun {α l} h => by
    unfold allowB at h
    simp only [Bool.and_eq_true, decide_eq_true_eq] at h
    exact List.eq_nil_of_length_eq_zero (by omega)
  have nought : ∀ {n : Int}, allowB (0, 0) n = true → n = 0 := fun {n} h => by
    unfold allowB at h
    simp only [Bool.and_eq_true, decide_eq_true_eq] at h
    omega
  have key : c = 0 ∧ t = 0 ∧ x = [] ∧ r = (0, 0) ∧ b = [] ∧ p = [] ∧ q = [] := by
    rcases hk with hk | hk
    · simp only at hk
      subst hk
      exact ⟨nought hf.c, nought hf.t, nil hf.x, hf.r.elim (fun h => by cases h) id, nil hf.b.1, nil hf.p.1, nil hf.q.1⟩
    · simp only at hk
      subst hk
      exact ⟨nought hf.c, nought hf.t, nil hf.x, hf.r.elim (fun h => by cases h) id, nil hf.b.1, nil hf.p.1, nil hf.q.1⟩
  obtain ⟨rfl, rfl, rfl, rfl, rfl, rfl, rfl⟩ := key
  rfl
theorem enc_same {m : Msg} (h : checkM m = true) : encD m = encM m := by
  unfold encD encM
  rw [if_pos (checkD_of h), if_pos h]
theorem smD_mid {m : Msg} (h : SmD m) : MidM m := ⟨by have := h.d; omega, by have := h.x; omega, ⟨by have := h.b.1; omega, h.b.2⟩, ⟨by have := h.p.1; omega, h.p.2⟩, by rw [h.q]; exact ⟨by decide, fun c hc => by cases hc⟩⟩
theorem putM_len {m : Msg} (h : SmD m) : (putM m).length ≤ 10000000 := by
  have hput : putM m = _ := put_eq (shapeM m.k).1 m
  rw [hput]
  simp only [List.length_append]
  have a1 := numP_le (shapeM m.k).1.v m.v
  have a2 := numP_le (shapeM m.k).1.s m.s
  have a3 := numP_le (shapeM m.k).1.c m.c
  have a4 := numP_le (shapeM m.k).1.t m.t
  have a5 := rowP_le (shapeM m.k).1.d m.d
  have a6 := rowP_le (shapeM m.k).1.x m.x
  have a7 := resP_le (shapeM m.k).1.r m.r
  have a8 := lisP_le envW 100012 30 (shapeM m.k).1.b m.b (fun e he => by have := h.b.2 e he; rw [envW_length]; omega) h.b.1
  have a9 := lisP_le envW 100012 30 (shapeM m.k).1.p m.p (fun e he => by have := h.p.2 e he; rw [envW_length]; omega) h.p.1
  have a10 := lisP_le crtW 0 0 (shapeM m.k).1.q m.q (fun e he => by rw [h.q] at he; cases he) (by rw [h.q]; exact Nat.le_refl _)
  have a11 := i8B_length m.k
  have b1 := h.d
  have b2 := h.x
  simp only [List.length_nil]
  omega
theorem dec_encD {m : Msg} (ho : OkM m) (h : SmD m) (h0 : (decM (encD m)).2 = 0) : (decM (encD m)).1 = m ∧ checkM m = true := by
  by_cases hc : checkD m = true
  · have hd := encD_dec ho (smD_mid h) hc (by have := putM_len h; omega)
    by_cases hc2 : checkM m = true
    · rw [hd, if_pos hc2]
      exact ⟨rfl, hc2⟩
    · rw [hd, if_neg hc2] at h0
      exact absurd h0 (by decide)
  · have he : encD m = [] := if_neg hc
    rw [he, dec_nil] at h0
    exact absurd h0 (by decide)
theorem putM_most {m : Msg} (nb sb np sp : Nat) (hb : m.b.length ≤ nb ∧ ∀ e ∈ m.b, e.2.length ≤ sb) (hp : m.p.length ≤ np ∧ ∀ e ∈ m.p, e.2.length ≤ sp) (hq : m.q = []) : (putM m).length ≤ 200 + m.d.length + m.x.length + (12 + sb) * nb + (12 + sp) * np := by
  have hput : putM m = _ := put_eq (shapeM m.k).1 m
  rw [hput]
  simp only [List.length_append]
  have a1 := numP_le (shapeM m.k).1.v m.v
  have a2 := numP_le (shapeM m.k).1.s m.s
  have a3 := numP_le (shapeM m.k).1.c m.c
  have a4 := numP_le (shapeM m.k).1.t m.t
  have a5 := rowP_le (shapeM m.k).1.d m.d
  have a6 := rowP_le (shapeM m.k).1.x m.x
  have a7 := resP_le (shapeM m.k).1.r m.r
  have a8 := lisP_le envW (12 + sb) nb (shapeM m.k).1.b m.b (fun e he => by have := hb.2 e he; rw [envW_length]; omega) hb.1
  have a9 := lisP_le envW (12 + sp) np (shapeM m.k).1.p m.p (fun e he => by have := hp.2 e he; rw [envW_length]; omega) hp.1
  have a10 := lisP_le crtW 0 0 (shapeM m.k).1.q m.q (fun e he => by rw [hq] at he; cases he) (by rw [hq]; exact Nat.le_refl _)
  have a11 := i8B_length m.k
  simp only [List.length_nil]
  omega
theorem mdPre_len (v s : Int) : (encD (mdPre v s)).length ≤ 1000 := by
  refine Nat.le_trans encD_le ?_
  have h := putM_most (m := mdPre v s) 1 28 0 0 ⟨Nat.le_refl _, fun e he => by
    have he : e ∈ [((1000 : Int), mdL1)] := he
    rw [List.mem_singleton.1 he]
    exact Nat.le_of_eq mdE1.1⟩ ⟨Nat.le_refl _, fun e he => by cases he⟩ rfl
  have h2 : (mdPre v s).d.length ≤ 100 := mdE1.2
  have h3 : (mdPre v s).x.length = 0 := rfl
  omega
theorem mdVote_len (v s : Int) (x : Vt) : (encD (mdVote v s x)).length ≤ 1000 := by
  refine Nat.le_trans encD_le ?_
  have h := putM_most (m := mdVote v s x) 0 0 0 0 ⟨Nat.le_refl _, fun e he => by cases he⟩ ⟨Nat.le_refl _, fun e he => by cases he⟩ rfl
  have h2 : (mdVote v s x).d.length ≤ 100 := by
    show (if x.o = true then mdOther else mdD).length ≤ _
    split
    · decide
    · exact mdE1.2
  have h3 : (mdVote v s x).x.length = 0 := rfl
  omega
theorem md_okes {v s : Int} {vs : List Vt} (h : ∀ x ∈ vs, ok64 x.s) : OkEs (vs.map (mdV v s)) := fun e he => by
  obtain ⟨x, hx, rfl⟩ := List.mem_map.1 he
  exact ⟨h x hx, Nat.le_trans (mdVote_len v s x) (by decide)⟩
theorem okM_pre {v s : Int} (hv : 0 ≤ v ∧ v < 1073741824) (hs : 0 < s ∧ s < 1073741824) {d : List UInt8} {b : List (Int × List UInt8)} (hb : ∀ e ∈ b, in64B e.1) : OkM ⟨2, v, s, 0, 0, d, [], (0, 0), b, [], []⟩ :=
  ⟨(show in64B 2 from ⟨by decide, by decide⟩), (show in64B v by unfold in64B; omega), (show in64B s by unfold in64B; omega), in64_0, in64_0, ⟨in64_0, in64_0⟩, hb, (fun e he => by cases he), (fun e he => by cases he)⟩
theorem mdPre_ok {v s : Int} (hv : 0 ≤ v ∧ v < 1073741824) (hs : 0 < s ∧ s < 1073741824) : OkM (mdPre v s) := okM_pre hv hs fun e he => by
  have he : e ∈ [((1000 : Int), mdL1)] := he
  rw [List.mem_singleton.1 he]
  unfold in64B
  omega
theorem many_yes {c : Crt} (hf : 0 ≤ K.f) (h : (commA K c).2 = 0) : (preA K c.1).2 = 0 ∧ (commA K c).1 = (preA K c.1).1 ∧ 2 * K.f + 1 ≤ c.2.length ∧ cntP K.f (c.2.map (·.1)) = c.2.length ∧
    ∀ e ∈ c.2, chkA K (e.1, encD ⟨4, (commA K c).1.v, (commA K c).1.s, 0, 0, (commA K c).1.d, [], (0, 0), [], [], []⟩) = 0 := by
  obtain ⟨h1, h2, h3⟩ := prepX_yes h
  obtain ⟨h4, h5⟩ := tal_yes h2
  have hc : commA K c = ((preA K c.1).1, 0) := h3
  refine ⟨h1, by rw [hc], h5, dis_all hf fun j hj => (h4 j hj).2.2, fun e he => ?_⟩
  obtain ⟨j, hj, rfl⟩ := List.getElem_of_mem he
  obtain ⟨h6, h7, -⟩ := h4 j hj
  unfold votA at h6
  rw [envAt_eq hj] at h6
  obtain ⟨g1, g2, g3, g4, -⟩ := vote_yes h6
  have h8 := votes_yes (show votesC (preA K c.1).1 (votA K 4 c.2 j).1 = 0 from h7)
  rw [show votA K 4 c.2 j = voteA K 4 c.2[j] from by unfold votA; rw [envAt_eq hj], g4] at h8
  rw [hc]
  obtain ⟨e1, e2, e3⟩ := h8
  have hck := (dec_ok g2).1
  have hj2 := just_v hck (.inr g3)
  rw [g3, e1, e2, e3] at hj2
  have hb : encD (decM c.2[j].2).1 = c.2[j].2 := (enc_same hck).trans (dec_enc g2)
  rw [hj2] at hb
  show chkA K (c.2[j].1, encD ⟨4, (preA K c.1).1.v, (preA K c.1).1.s, 0, 0, (preA K c.1).1.d, [], (0, 0), [], [], []⟩) = 0
  rw [hb]
  exact g1
end



section
variable {w : World} {g bm : Nat}
end

def clF (F : Int) : Int := max 0 (min F 2)
def clC (C : Int) : Int := max 0 (min C 8)

structure Both (w0 W : World) (g bm g2 : Nat) (v : Value) (f c : Int) : Prop where
  au : Au W g bm f c []
  dt : DT W g2 f c v [] (fun k => w0.heap.size ≤ k ∧ k ≠ g ∧ k ≠ bm)
  below : Below w0.heap.size w0 W
  at_g : w0.heap.size ≤ g
  at_bm : w0.heap.size ≤ bm

theorem Both.one {w0 w1 w2 w3 : World} {g bm g2 : Nat} {v : Value} {f c : Int} (h0 : Below w0.heap.size w0 w1) (hg : w1.heap.size ≤ g) (hbm : w1.heap.size ≤ bm) (hA : Au w2 g bm f c []) (h1 : Below w1.heap.size w1 w2)
    (hD : DT w3 g2 f c v [] (fun k => w2.heap.size ≤ k)) (h2 : Below w2.heap.size w2 w3) : Both w0 w3 g bm g2 v f c := by
  have s0 := h0.size
  have s1 := h1.size
  have lg := hA.1.lt
  have lb := hA.2.lt
  exact ⟨hA.below h2 (Nat.le_refl _), hD.mono (fun k _ hk => ⟨by omega, by omega, by omega⟩), (h0.trans (h1.mono s0)).trans (h2.mono (by omega)), by omega, by omega⟩
theorem Both.two {w0 w1 w2 w3 : World} {g bm g2 : Nat} {v : Value} {f c : Int} (h0 : Below w0.heap.size w0 w1) (hD : DT w2 g2 f c v [] (fun k => w1.heap.size ≤ k)) (h1 : Below w1.heap.size w1 w2)
    (hg : w2.heap.size ≤ g) (hbm : w2.heap.size ≤ bm) (hA : Au w3 g bm f c []) (h2 : Below w2.heap.size w2 w3) : Both w0 w3 g bm g2 v f c := by
  have s0 := h0.size
  have s1 := h1.size
  exact ⟨hA, (hD.mono (fun k hk hk' => ⟨by omega, by omega, by omega⟩)).below h2, (h0.trans (h1.mono s0)).trans (h2.mono (by omega)), by omega, by omega⟩

structure Dd where
  s : Int
  l : List UInt8
  ask : Bool

def Ds (w : World) (v : Value) (ds : List Dd) : Prop :=
  ∃ A c, v = .slice A ds.length c ∧ ds.length ≤ c ∧ c ≤ maxLen ∧ (∀ k (hk : k < ds.length), ∃ ad bv, A = some ad ∧ ad.block < w.heap.size ∧ w.cell? (ad.add (k * 3)) = some (.int .i64 ds[k].s) ∧
    w.cell? ⟨(ad.add (k * 3)).block, (ad.add (k * 3)).off + 1, none⟩ = some bv ∧ w.cell? ⟨(ad.add (k * 3)).block, (ad.add (k * 3)).off + 2, none⟩ = some (.bool ds[k].ask) ∧ Bs w bv ds[k].l ∧ ok64 ds[k].s)
theorem Ds.below {w w' : World} {v : Value} {ds : List Dd} {B : Nat} (h : Ds w v ds) (hb : Below B w w') (hB : w.heap.size ≤ B) : Ds w' v ds := by
  obtain ⟨A, c, hv, hc, hm, hx⟩ := h
  refine ⟨A, c, hv, hc, hm, fun k hk => ?_⟩
  obtain ⟨ad, bv, ha, hl, h0, h1, h2, h3, h4⟩ := hx k hk
  have hbl : (ad.add (k * 3)).block < B := by rw [block_add]; omega
  exact ⟨ad, bv, ha, Nat.lt_of_lt_of_le hl hb.size, (hb.cell hbl).trans h0, (hb.cell (p := ⟨_, _, none⟩) hbl).trans h1, (hb.cell (p := ⟨_, _, none⟩) hbl).trans h2, h3.below hb hB, h4⟩

theorem addP_length (L : List (Int × List UInt8)) (s : Int) (l : List UInt8) : (addP L s l).length ≤ L.length + 1 := by
  unfold addP; split <;> simp
theorem signT_length (f c s : Int) (l : List UInt8) (L : List (Int × List UInt8)) : (signT f c s l L).length ≤ L.length + 1 := by
  unfold signT
  split
  · exact addP_length L s l
  · omega
def there (f c : Int) (ds : List Dd) (y : Dd) : Bool := ds.any fun d => (signE f c d.s d.l == 0) && (d.s == y.s) && (d.l == y.l)





theorem Tab.keep {w w' : World} {b : Nat} {L : List (Int × List UInt8)} (h : Tab w b L) (hb : w'.heap[b]? = w.heap[b]?) : Tab w' b L := by
  obtain ⟨D, ⟨es, clock, h1, r⟩, h2, h3⟩ := h
  exact ⟨D, ⟨es, clock, hb.trans h1, r⟩, h2, h3⟩
theorem Au.keep {w w' : World} {g bm : Nat} {f c : Int} {L : List (Int × List UInt8)} (h : Au w g bm f c L) (hg : w'.heap[g]? = w.heap[g]?) (hb : w'.heap[bm]? = w.heap[bm]?) : Au w' g bm f c L :=
  ⟨⟨hg.trans h.1.1, h.1.2⟩, h.2.keep hb⟩
theorem Ev.keep {w w' : World} {h : Nat} {x y : Value} (he : Ev w h x y) (hh : w'.heap[h]? = w.heap[h]?) : Ev w' h x y := hh.trans he

structure PI (w wr : World) (g bm g2 : Nat) (f c : Int) (v : Value) (E : List Tri) : Prop where
  au : Au wr g bm f c (pairsT E)
  dt : DT wr g2 f c v E (fun j => w.heap.size ≤ j ∧ j ≠ g ∧ j ≠ bm)
  below : Below w.heap.size w wr
  at_g : w.heap.size ≤ g
  at_bm : w.heap.size ≤ bm
theorem PI.step {w wr W : World} {g bm g2 : Nat} {f c : Int} {v : Value} {E : List Tri} (h : PI w wr g bm g2 f c v E) (hb : Below wr.heap.size wr W) : PI w W g bm g2 f c v E :=
  ⟨h.au.below hb (Nat.le_refl _), h.dt.below hb, h.below.trans (hb.mono h.below.size), h.at_g, h.at_bm⟩

structure Aft (w wx : World) (g bm g2 : Nat) (f c : Int) (v : Value) (E : List Tri) (bv : Value) (l : List UInt8) (he : Nat) (sS : Value) (ve : Value) (B n : Nat) (xs : List Value) : Prop where
  au : Au wx g bm f c (pairsT E)
  dt : DT wx g2 f c v E (fun j => w.heap.size ≤ j ∧ j ≠ g ∧ j ≠ bm ∧ ve.ownBlock ≠ some j)
  body : Bs wx bv l
  own : wx.ownsRow B 5 1 ve n xs
  ev : Ev wx he sS ve
  below : Below w.heap.size w wx
  at_g : w.heap.size ≤ g
  at_bm : w.heap.size ≤ bm
  g_lt : g < B
  bm_lt : bm < B
  w_le : w.heap.size ≤ B
  body_lt : l ≠ [] → ∀ k, bv.ownBlock = some k → k < B

section
variable {w wx W : World} {g bm g2 : Nat} {f c : Int} {v : Value} {E : List Tri} {bv : Value} {l : List UInt8} {he : Nat} {sS ve : Value} {B n : Nat} {xs : List Value}
theorem Aft.step (h : Aft w wx g bm g2 f c v E bv l he sS ve B n xs) (hb : Below wx.heap.size wx W) : Aft w W g bm g2 f c v E bv l he sS ve B n xs where
  au := h.au.below hb (Nat.le_refl _)
  dt := h.dt.below hb
  body := h.body.below hb (Nat.le_refl _)
  own := own_below h.own hb
  ev := h.ev.below hb
  below := h.below.trans (hb.mono h.below.size)
  at_g := h.at_g
  at_bm := h.at_bm
  g_lt := h.g_lt
  bm_lt := h.bm_lt
  w_le := h.w_le
  body_lt := h.body_lt

end

section
variable {w wr w2 w3 w4 W w5 Wc : World} {g bm g2 : Nat} {f c : Int} {v : Value} {E : List Tri} {L : List (Int × List UInt8)} {bv : Value} {l : List UInt8} {sS ve : Value} {n : Nat} {xs : List Value}
end

theorem pairsT_length (E : List Tri) : (pairsT E).length = E.length := by simp [pairsT]

structure Bth (w : World) (N g bm g2 : Nat) (f c : Int) (L : List (Int × List UInt8)) (T : Nat → Prop) : Prop where
  au : Au w g bm f c L
  dt : ∃ v E, DT w g2 f c v E T ∧ pairsT E = L
  ng : ¬ T g
  nb : ¬ T bm
  lt : ∀ k, T k → k < w.heap.size
  lo : N ≤ bm ∧ ∀ k, T k → N ≤ k
  low : N ≤ w.heap.size
structure Turn (T : Nat → Prop) (bm : Nat) (w w' : World) (T' : Nat → Prop) : Prop where
  off : Off (fun k => T k ∨ k = bm) w w'
  new : ∀ k, k < w.heap.size → T' k → T k
abbrev offT (T : Nat → Prop) (bm : Nat) : Nat → Prop := fun k => ¬ (T k ∨ k = bm)
section
variable {w w' w2 : World} {N g bm g2 : Nat} {f c : Int} {L : List (Int × List UInt8)} {T T' T2 : Nat → Prop}
theorem Turn.refl : Turn T bm w w T := ⟨Off.of_below (Below.refl _ _), fun _ _ h => h⟩
theorem Turn.below (hb : Below w.heap.size w w') : Turn T bm w w' T := ⟨Off.of_below hb, fun _ _ h => h⟩
theorem Turn.trans (h : Turn T bm w w' T') (h2 : Turn T' bm w' w2 T2) : Turn T bm w w2 T2 where
  off := ⟨h2.off.os.trans h.off.os, h2.off.tape.trans h.off.tape, h2.off.output.trans h.off.output, Nat.le_trans h.off.size h2.off.size, fun k hk hn => (h2.off.block k (Nat.lt_of_lt_of_le hk h.off.size) fun h3 => hn (h3.elim (fun h4 => .inl (h.new k hk h4)) .inr)).trans (h.off.block k hk hn)⟩
  new := fun k hk h3 => h.new k hk (h2.new k (Nat.lt_of_lt_of_le hk h.off.size) h3)
theorem Turn.keep (h : Turn T bm w w' T') : KeptC (offT T bm) (offT T' bm) w w' := fun k hk hc => ⟨h.off.block k hk hc, fun h3 => hc (h3.elim (fun h4 => .inl (h.new k hk h4)) .inr)⟩
theorem Turn.lowB (h : Turn T bm w w' T') (hB : Bth w N g bm g2 f c L T) : Below N w w' :=
  ⟨h.off.os, h.off.tape, h.off.output, h.off.size, fun k hk => h.off.block k (Nat.lt_of_lt_of_le hk hB.low) fun h3 => by
    rcases h3 with h4 | h4
    · have := hB.lo.2 k h4; omega
    · have := hB.lo.1; omega⟩
theorem Bth.below (h : Bth w N g bm g2 f c L T) (hb : Below w.heap.size w w') : Bth w' N g bm g2 f c L T := by
  obtain ⟨v, E, hd, he⟩ := h.dt
  exact ⟨h.au.below hb (Nat.le_refl _), ⟨v, E, hd.below hb, he⟩, h.ng, h.nb, fun k hk => Nat.lt_of_lt_of_le (h.lt k hk) hb.size, h.lo, Nat.le_trans h.low hb.size⟩
theorem Bth.mid {L' : List (Int × List UInt8)} (h : Bth w N g bm g2 f c L T) (ha : Au w' g bm f c L') (hg : w.grownBy w' (some bm)) : (∃ v E, DT w' g2 f c v E T ∧ pairsT E = L) ∧ Turn T bm w w' T := by
  obtain ⟨v, E, hd, he⟩ := h.dt
  exact ⟨⟨v, E, hd.grown hg (fun k hk hT => h.nb (by injection hk with hk; subst hk; exact hT)), he⟩, ⟨Off.of_grown hg fun k hk => .inr (by injection hk with hk; exact hk.symm), fun _ _ h => h⟩⟩
theorem Bth.end' {L' : List (Int × List UInt8)} (h : Bth w N g bm g2 f c L T) (ha : Au w' g bm f c L') (hg : w.grownBy w' (some bm)) {w3 : World} (hb : Below w'.heap.size w' w3) {v' : Value} {E' : List Tri} (hd : DT w2 g2 f c v' E' (fun k => T k ∨ w3.heap.size ≤ k)) (hp : pairsT E' = L') (ho : Off (fun k => T k ∨ w3.heap.size ≤ k) w3 w2) :
    Bth w2 N g bm g2 f c L' (fun k => (T k ∨ w3.heap.size ≤ k) ∧ k < w2.heap.size) ∧ Turn T bm w w2 (fun k => (T k ∨ w3.heap.size ≤ k) ∧ k < w2.heap.size) := by
  have hT1 : Turn T bm w w' T := ⟨Off.of_grown hg fun k hk => .inr (by injection hk with hk; exact hk.symm), fun _ _ h => h⟩
  have hT2 := hT1.trans (Turn.below (bm := bm) (T := T) hb)
  have ha3 := ha.below hb (Nat.le_refl _)
  have hgl : g < w3.heap.size := ha3.1.lt
  have hbl : bm < w3.heap.size := ha3.2.lt
  refine ⟨⟨ha3.keep (ho.block g hgl fun h3 => h3.elim h.ng (fun h4 => by omega)) (ho.block bm hbl fun h3 => h3.elim h.nb (fun h4 => by omega)), ⟨v', E', hd.mono fun k hk h3 => ⟨h3, hk⟩, hp⟩, fun h3 => h3.1.elim h.ng (fun h4 => by omega), fun h3 => h3.1.elim h.nb (fun h4 => by omega), fun k hk => hk.2, ⟨h.lo.1, fun k hk => ?_⟩, ?_⟩, hT2.trans ⟨?_, fun k hk h3 => h3.1.elim id (fun h4 => by omega)⟩⟩
  · rcases hk.1 with h4 | h4
    · exact h.lo.2 k h4
    · have := h.low
      have := hg.size
      have := hb.size
      omega
  · have := h.low
    have := hg.size
    have := hb.size
    have := ho.size
    omega
  · exact ⟨ho.os, ho.tape, ho.output, ho.size, fun k hk hn => ho.block k hk fun h3 => h3.elim (fun h4 => hn (.inl h4)) (fun h4 => by omega)⟩
end

abbrev SSd (w0 : World) (b : Nat) (s : Int) (m : Msg) (P : Plc) : World → Prop := fun W => Below w0.heap.size w0 W ∧ W.cell? ⟨b, 0, none⟩ = some (.int .i64 s) ∧ W.cell? ⟨b, 2, none⟩ = some (.int .i64 m.k) ∧ W.cell? ⟨b, 3, none⟩ = some (.int .i64 m.v) ∧ W.cell? ⟨b, 4, none⟩ = some (.int .i64 m.s) ∧ W.cell? ⟨b, 5, none⟩ = some (.int .i64 m.c) ∧ W.cell? ⟨b, 6, none⟩ = some (.int .i64 m.t) ∧ W.cell? ⟨b, 7, none⟩ = some (.string (strB m.d)) ∧ W.cell? ⟨b, 8, none⟩ = some (.slice P.x.1 m.x.length P.x.2) ∧ W.cell? ⟨b, 9, none⟩ = some (.int .i64 m.r.1) ∧ W.cell? ⟨b, 10, none⟩ = some (.int .i64 m.r.2) ∧ W.cell? ⟨b, 11, none⟩ = some (.slice P.b.1 m.b.length P.b.2) ∧ W.cell? ⟨b, 12, none⟩ = some (.slice P.p.1 m.p.length P.p.2) ∧ W.cell? ⟨b, 13, none⟩ = some (.slice P.q.1 m.q.length P.q.2)
structure Fresh (w w' : World) (T' : Nat → Prop) (bm : Nat) (bv : Value) (l : List UInt8) : Prop where
  bs : Bs w' bv l
  new : ∀ k, bv.ownBlock = some k → w.heap.size ≤ k ∧ k < w'.heap.size ∧ offT T' bm k
def SaidP (N g bm g2 : Nat) (f c : Int) (s : Int) (l : List UInt8) (L' : List (Int × List UInt8)) (T : Nat → Prop) (w : World) (e : Ending) (w' : World) : Prop :=
  ∃ bv T', e = .returned (agE s bv) ∧ Fresh w w' T' bm bv l ∧ Bth w' N g bm g2 f c L' T' ∧ Turn T bm w w' T'
structure EnB (w0 wx : World) (b5 : Nat) (s : Int) (bv : Value) (l : List UInt8) : Prop where
  ev : wx.heap[b5]? = some (.cells #[.int .i64 s, bv] 40 (0, 0))
  lo : w0.heap.size ≤ b5
  bs : Bs wx bv l
  new : ∀ k, bv.ownBlock = some k → w0.heap.size ≤ k ∧ k < wx.heap.size
  below : Below w0.heap.size w0 wx
theorem enb_1 {w0 w2 : World} {s : Int} {bv : Value} {l : List UInt8} {B : Nat} (hB : w0.heap.size ≤ B) (ho : w2.ownsRow B 5 1 bv l.length (l.map bc)) (hb : Below w0.heap.size w0 w2) : EnB w0 (w2.alloc (.cells #[.int .i64 s, bv] 40)) w2.heap.size s bv l :=
  ⟨heap_alloc_new _ _, hb.size, (own_bs ho).below (alloc1B _ _) (Nat.le_refl _), fun k hk => ⟨Nat.le_trans hB (ho.lt k hk).1, Nat.lt_of_lt_of_le (ho.lt k hk).2 (alloc1B _ _).size⟩, bel2M hb (alloc1B _ _)⟩
theorem enb_2 {w0 w1 w2 : World} {s : Int} {bv x y : Value} {l : List UInt8} (hb1 : Below w0.heap.size w0 w1) (ho : w2.ownsRow (w1.alloc (.cells #[x, y] 40)).heap.size 5 1 bv l.length (l.map bc)) (hb' : Below (w1.alloc (.cells #[x, y] 40)).drew.heap.size (w1.alloc (.cells #[x, y] 40)).drew w2) :
    EnB w0 ((w2.setCell ⟨w1.heap.size, 0, none⟩ (.int .i64 s)).setCell ⟨w1.heap.size, 1, none⟩ bv) w1.heap.size s bv l := by
  have hb : Below (w1.alloc (.cells #[x, y] 40)).heap.size (w1.alloc (.cells #[x, y] 40)) w2 := (Below.refl _ _).drew.trans hb'
  have hz : (w1.alloc (.cells #[x, y] 40)).heap.size = w1.heap.size + 1 := by simp
  have hev : Ev w2 w1.heap.size x y := heapB (heap_alloc_new w1 _) hb
  have hon : Only w1.heap.size w2 ((w2.setCell ⟨w1.heap.size, 0, none⟩ (.int .i64 s)).setCell ⟨w1.heap.size, 1, none⟩ bv) := Only.set (Only.set (Only.refl _ _) 0 _) 1 _
  refine ⟨hev.set2 _ _, hb1.size, (own_bs ho).grown hon (fun _ k hk e => ?_), fun k hk => ?_, ?_⟩
  · have := (ho.lt k hk).1
    injection e with e
    omega
  · have h1 := ho.lt k hk
    have := hb1.size
    have := hon.size
    exact ⟨by omega, by omega⟩
  · exact onlyBelow (bel2M (bel2M hb1 (alloc1B _ _)) hb) hon hb1.size (Nat.le_refl _)
theorem heapG {w w' : World} {k b : Nat} {o : Obj} (h : w.heap[k]? = some o) (hg : w.grownBy w' (some b)) (hne : k ≠ b) : w'.heap[k]? = some o := (hg.block k (Array.getElem?_eq_some_iff.1 h).1 (by intro e; injection e with e; exact hne e)).trans h
theorem heapO {S : Nat → Prop} {w w' : World} {k : Nat} {o : Obj} (h : w.heap[k]? = some o) (ho : Off S w w') (hn : ¬ S k) : w'.heap[k]? = some o := (ho.block k (Array.getElem?_eq_some_iff.1 h).1 hn).trans h
theorem Bth.only {w w' : World} {N g bm g2 b : Nat} {f c : Int} {L : List (Int × List UInt8)} {T : Nat → Prop} (h : Bth w N g bm g2 f c L T) (ho : Only b w w') (hT : ¬ T b) (hg : b ≠ g) (hb : b ≠ bm) : Bth w' N g bm g2 f c L T := by
  obtain ⟨v, E, hd, he⟩ := h.dt
  have hk : ∀ k, k < w.heap.size → k ≠ b → w'.heap[k]? = w.heap[k]? := fun k h1 h2 => ho.block k h1 (by intro e; injection e with e; exact h2 e)
  exact ⟨h.au.keep (hk g h.au.1.lt (Ne.symm hg)) (hk bm h.au.2.lt (Ne.symm hb)), ⟨v, E, hd.keep ho.size fun k h1 h2 => hk k h1 (by rintro rfl; exact hT h2), he⟩, h.ng, h.nb, fun k hk => Nat.lt_of_lt_of_le (h.lt k hk) ho.size, h.lo, Nat.le_trans h.low ho.size⟩
theorem Turn.only {w w1 w' : World} {T T1 : Nat → Prop} {bm b : Nat} (h : Turn T bm w w1 T1) (ho : Only b w1 w') (hb : w.heap.size ≤ b) : Turn T bm w w' T1 :=
  ⟨⟨ho.os.trans h.off.os, ho.tape.trans h.off.tape, ho.output.trans h.off.output, Nat.le_trans h.off.size ho.size, fun k hk hn => (ho.block k (Nat.lt_of_lt_of_le hk h.off.size) (by intro e; injection e with e; omega)).trans (h.off.block k hk hn)⟩, h.new⟩
theorem said_end {N g bm g2 : Nat} {f c : Int} {s : Int} {l : List UInt8} {L' : List (Int × List UInt8)} {T T1 : Nat → Prop} {w w0 wx w9 : World} {bv : Value} {b K : Nat} (hK : K ≤ wx.heap.size) (h : Bth wx N g bm g2 f c L' T1) (ht : Turn T bm w wx T1) (hs : Bs wx bv l) (hn : ∀ k, bv.ownBlock = some k → w0.heap.size ≤ k ∧ k < K)
    (hoff : ∀ k, bv.ownBlock = some k → ¬ T1 k ∧ k ≠ bm) (hb : w.heap.size ≤ b) (hb0 : b < w0.heap.size) (hT : ¬ T1 b) (hg : b ≠ g) (hbm : b ≠ bm) (ho : Only b wx w9) : SaidP N g bm g2 f c s l L' T w (.returned (agE s bv)) w9 := by
  refine ⟨bv, T1, rfl, ⟨hs.keep ho.size fun hne k hk => ho.block k (Nat.lt_of_lt_of_le (hn k hk).2 hK) (by intro e; injection e with e; have := (hn k hk).1; omega), fun k hk => ?_⟩, h.only ho hT hg hbm, ht.only ho hb⟩
  have h1 := hn k hk
  have h2 := hoff k hk
  exact ⟨by omega, Nat.lt_of_lt_of_le h1.2 (Nat.le_trans hK ho.size), fun h3 => h3.elim h2.1 h2.2⟩
set_option maxHeartbeats 4000000 in
theorem said_any (N g bm g2 : Nat) (f c : Int) (L : List (Int × List UInt8)) (T : Nat → Prop) (s : Int) (sg : Bool) (m : Msg) (P : Plc) (l : List UInt8) (w : World) (h : Bth w N g bm g2 f c L T) (hs : ok64 s) (hl : l.length ≤ 1000000000) (hL : L.length ≤ 1000000000)
    (hE : ∀ W, Below w.heap.size w W → Calls Tryz.prog 31 #[agM m P] W (Puts W l)) :
    Calls Tryz.prog 55 #[.agg #[.pointer (some ⟨g, 0, none⟩), .pointer (some ⟨g2, 0, none⟩)], .agg #[.int .i64 s, .bool sg, .int .i64 m.k, .int .i64 m.v, .int .i64 m.s, .int .i64 m.c, .int .i64 m.t, .string (strB m.d), .slice P.x.1 m.x.length P.x.2, .int .i64 m.r.1, .int .i64 m.r.2, .slice P.b.1 m.b.length P.b.2, .slice P.p.1 m.p.length P.p.2, .slice P.q.1 m.q.length P.q.2]] w (SaidP N g bm g2 f c s l (if sg = true then signT f c s l L else L) T w) := by
  have HEN := Lib.hid hE
  have HBT := Lib.hid h
  obtain ⟨x1, x2, x3⟩ := box2B w #[.pointer (some ⟨g, 0, none⟩), .pointer (some ⟨g2, 0, none⟩)] #[.int .i64 s, .bool sg, .int .i64 m.k, .int .i64 m.v, .int .i64 m.s, .int .i64 m.c, .int .i64 m.t, .string (strB m.d), .slice P.x.1 m.x.length P.x.2, .int .i64 m.r.1, .int .i64 m.r.2, .slice P.b.1 m.b.length P.b.2, .slice P.p.1 m.p.length P.p.2, .slice P.q.1 m.q.length P.q.2] 29 98
  have x4 := heapB x1 (alloc1B _ (.cells #[.int .i64 0, .slice none 0 0] 40))
  have x5 := heapB x2 (alloc1B _ (.cells #[.int .i64 0, .slice none 0 0] 40))
  have x6 := bel2M x3 (alloc1B _ (.cells #[.int .i64 0, .slice none 0 0] 40))
  have x7 := heap_alloc_new ((w.alloc (.cells #[.pointer (some ⟨g, 0, none⟩), .pointer (some ⟨g2, 0, none⟩)] 29)).alloc (.cells #[.int .i64 s, .bool sg, .int .i64 m.k, .int .i64 m.v, .int .i64 m.s, .int .i64 m.c, .int .i64 m.t, .string (strB m.d), .slice P.x.1 m.x.length P.x.2, .int .i64 m.r.1, .int .i64 m.r.2, .slice P.b.1 m.b.length P.b.2, .slice P.p.1 m.p.length P.p.2, .slice P.q.1 m.q.length P.q.2] 98)) (.cells #[.int .i64 0, .slice none 0 0] 40)
  have hz : ((w.alloc (.cells #[.pointer (some ⟨g, 0, none⟩), .pointer (some ⟨g2, 0, none⟩)] 29)).alloc (.cells #[.int .i64 s, .bool sg, .int .i64 m.k, .int .i64 m.v, .int .i64 m.s, .int .i64 m.c, .int .i64 m.t, .string (strB m.d), .slice P.x.1 m.x.length P.x.2, .int .i64 m.r.1, .int .i64 m.r.2, .slice P.b.1 m.b.length P.b.2, .slice P.p.1 m.p.length P.p.2, .slice P.q.1 m.q.length P.q.2] 98)).heap.size = w.heap.size + 2 := by simp
  rw [hz] at x7
  clear hE h x1 x2 x3 hz
  go_enter Tryz.func55, Tryz.ntmps55
  go_upto_region 1 with fail
  generalize hw0 : ((w.alloc _).alloc _).alloc _ = w0 at *
  have HX := Lib.hid x4
  have HY := Lib.hid x5
  have HZ := Lib.hid x7
  have HB := Lib.hid x6
  have HW2 := Lib.hid (Array.getElem?_eq_some_iff.1 x7).1
  clear x4 x5 x6 x7 hw0
  have HK := Lib.hid (show ∀ W, Below w0.heap.size w0 W → SSd w0 (w.heap.size + 1) s m P W from fun W h => ⟨h, cellB (rowCell HY.out 0 _ rfl) h, cellB (rowCell HY.out 2 _ rfl) h, cellB (rowCell HY.out 3 _ rfl) h, cellB (rowCell HY.out 4 _ rfl) h, cellB (rowCell HY.out 5 _ rfl) h, cellB (rowCell HY.out 6 _ rfl) h, cellB (rowCell HY.out 7 _ rfl) h, cellB (rowCell HY.out 8 _ rfl) h, cellB (rowCell HY.out 9 _ rfl) h, cellB (rowCell HY.out 10 _ rfl) h, cellB (rowCell HY.out 11 _ rfl) h, cellB (rowCell HY.out 12 _ rfl) h, cellB (rowCell HY.out 13 _ rfl) h⟩)
  have hkeep : ∀ (W : World) (o : Obj), SSd w0 (w.heap.size + 1) s m P W → SSd w0 (w.heap.size + 1) s m P (W.alloc o) := fun W o h => HK.out (W.alloc o) (h.1.alloc h.1.size o)
  have HS0 := Lib.hid (HK.out w0.drew (Below.refl _ _).drew)
  go_cut [5] from 6 to 11 (fun s5 wx => ∃ b5 bv, s5 = .pointer (some ⟨b5, 0, none⟩) ∧ EnB w0 wx b5 s bv l)
  case first =>
    go_region_held3 (SSd w0 (w.heap.size + 1) s m P) (first | exact HS0.out | exact hkeep _ _ (by assumption) | exact HS2.out | exact HK.out _ (EnB.below (enb_2 (w1 := w0) (s := s) (Below.refl _ _) HO2.out HB2.out))) (first
      | (go_at_call 31; refine (HEN.out (World.drew (World.alloc w0 (.cells #[.int .i64 0, .slice none 0 0] 40))) (bel2M HB.out (And.left (by assumption)))).mono ?_; rintro e w2 ⟨v2, rfl, ho, hb⟩; obtain ⟨A2, c2, rfl⟩ := own_slice ho; obtain ⟨d0, d1, d2, d3, -⟩ := Ev.open (Ev.below (w := World.drew (World.alloc w0 (.cells #[.int .i64 0, .slice none 0 0] 40))) (heap_alloc_new w0 _) hb); have HO2 := Lib.hid ho; have HB2 := Lib.hid hb; have HS2 := Lib.hid (HK.out w2 (bel2M (And.left (by assumption)) hb)); clear ho hb)
      | (go_at_call 31; refine (HEN.out w0.drew (bel2M HB.out (And.left (by assumption)))).mono ?_; rintro e w2 ⟨v2, rfl, ho, hb⟩; obtain ⟨A2, c2, rfl⟩ := own_slice ho; have HO2 := Lib.hid ho; have HB2 := Lib.hid hb; have HS2 := Lib.hid (HK.out w2 (bel2M (And.left (by assumption)) hb)); clear ho hb))
    all_goals go_wp2_with fail
    all_goals go_meet
    all_goals first
      | exact ⟨_, _, rfl, enb_1 (w0 := w0) (Nat.le_refl _) HO2.out HS2.out.1⟩
      | exact ⟨_, _, rfl, enb_2 (w1 := w0) (s := s) (Below.refl _ _) HO2.out HB2.out⟩
  case rest =>
  obtain ⟨b5, bv, rfl, hE⟩ := hcut
  obtain ⟨BA, bn, rfl, -⟩ := hE.bs.open
  have HE := Lib.hid hE
  have HBC := Lib.hid (HBT.out.below (bel2M HB.out hE.below))
  have HWC := Lib.hid (bel2M HB.out hE.below)
  have HXC := Lib.hid (heapB HX.out hE.below)
  have HYC := Lib.hid (heapB HY.out hE.below)
  have HZC := Lib.hid (heapB HZ.out hE.below)
  have HLG := Lib.hid (And.intro HBT.out.au.1.lt HBT.out.au.2.lt)
  have HTL := Lib.hid (show ∀ k, w.heap.size ≤ k → T k → False from fun k hk hT => absurd (HBT.out.lt k hT) (by omega))
  have HB0 := Lib.hid (show w0.heap.size ≤ wc.heap.size from hE.below.size)
  clear hE HS0 hkeep HK HX HY HZ HB HBT HEN
  have c5 := rowCell HYC.out 1 (.bool sg) rfl
  have e0 := rowCell HE.out.ev 0 (.int .i64 s) rfl
  have e1 := rowCell HE.out.ev 1 (.slice BA l.length bn) rfl
  have x0 := rowCell HXC.out 0 (.pointer (some ⟨g, 0, none⟩)) rfl
  cases sg
  · go_wp2_with (first
      | (refine wpList_storeAll rfl 40 _ _ rfl (w.heap.size + 2) _ _ rfl rfl HZC.out rfl (by kernel_rfl) (by kernel_rfl) ?_; intro w9 hz hh ho; have HQ := Lib.hid hh; have HO9 := Lib.hid ho; clear hz hh ho))
    have k0 := rowCell HQ.out 0 (.int .i64 s) rfl
    have k1 := rowCell HQ.out 1 (.slice BA l.length bn) rfl
    refine bodyPost_ret (v := agE s (.slice BA l.length bn)) ?_ rfl ?_
    · simp [results, Tryz.results55, go_sem, k0, k1]
    · exact said_end (w0 := w0) (Nat.le_refl _) HBC.out (Turn.below HWC.out) HE.out.bs HE.out.new (fun k hk0 => have hk := HE.out.new k hk0; ⟨fun h => HTL.out k (by have := HW2.out; have := HLG.out.1; have := HLG.out.2; have := HB0.out; omega) h, by have := HW2.out; have := HLG.out.1; have := HLG.out.2; have := HB0.out; omega⟩) (by have := HW2.out; have := HLG.out.1; have := HLG.out.2; have := HB0.out; omega) HW2.out (fun h => HTL.out _ (by have := HW2.out; have := HLG.out.1; have := HLG.out.2; have := HB0.out; omega) h) (by have := HW2.out; have := HLG.out.1; have := HLG.out.2; have := HB0.out; omega) (by have := HW2.out; have := HLG.out.1; have := HLG.out.2; have := HB0.out; omega) HO9.out
  · go_wp2_with (first
      | (go_at_call 101; go_loud (refine (Sign_any g bm f c s _ l L _ HBC.out.au hs HE.out.bs hl hL).mono ?_; rintro e w4 ⟨v4, rfl, hb4, hn4, ha4, hg4⟩; obtain ⟨⟨v5, E5, hd5, he5⟩, ht4⟩ := HBC.out.mid ha4 hg4; have HA4 := Lib.hid ha4; have HG4 := Lib.hid hg4; have HS4 := Lib.hid hg4.size; have HD5 := Lib.hid hd5; have HE5 := Lib.hid he5; have HX4 := Lib.hid (heapG HXC.out hg4 (by have := HW2.out; have := HLG.out.1; have := HLG.out.2; have := HB0.out; omega)); have HZ4 := Lib.hid (heapG HZC.out hg4 (by have := HW2.out; have := HLG.out.1; have := HLG.out.2; have := HB0.out; omega)); have HV4 := Lib.hid (heapG HE.out.ev hg4 (by have := HLG.out.2; have := HE.out.lo; have := HW2.out; have := HLG.out.1; have := HLG.out.2; have := HB0.out; omega)); have HS5 := Lib.hid (HE.out.bs.keep hg4.size fun _ k hk => hg4.block k (HE.out.new k hk).2 (by intro e; injection e with e; have := (HE.out.new k hk).1; have := HLG.out.2; have := HW2.out; have := HLG.out.1; have := HLG.out.2; have := HB0.out; omega)); have e0 := rowCell HV4.out 0 (.int .i64 s) rfl; have e1 := rowCell HV4.out 1 (.slice BA l.length bn) rfl; have x1 := rowCell HX4.out 1 (.pointer (some ⟨g2, 0, none⟩)) rfl; clear hb4 hn4 ha4 hg4 hd5 he5 ht4))
      | (go_at_call 102; go_loud (refine (rSign_any g2 f c s v5 _ l E5 (fun k => T k ∨ w4.heap.size ≤ k) _ (HD5.out.mono fun k _ hk => .inl hk) hs HS5.out hl (by rw [← pairsT_length, HE5.out]; exact hL) (fun k hk => .inr hk)).mono ?_; rintro e w5 ⟨v6, vf, E6, rfl, hbf, hd6, hp6, ho6, hn6⟩; rw [HE5.out] at hp6; obtain ⟨hB5, hT5⟩ := HBC.out.end' HA4.out HG4.out (Below.refl _ _) hd6 hp6 ho6; have HB5 := Lib.hid hB5; have HT5 := Lib.hid hT5; have HZ5 := Lib.hid (heapO HZ4.out ho6 (fun h => h.elim (HTL.out _ (by have := HW2.out; have := HLG.out.1; have := HLG.out.2; have := HB0.out; omega)) (fun h => by have := HS4.out; have := HB0.out; have := HW2.out; have := HW2.out; have := HLG.out.1; have := HLG.out.2; have := HB0.out; omega))); have HV5 := Lib.hid (heapO HV4.out ho6 (fun h => h.elim (HTL.out _ (by have := HE.out.lo; have := HW2.out; have := HW2.out; have := HLG.out.1; have := HLG.out.2; have := HB0.out; omega)) (fun h => by have := (Array.getElem?_eq_some_iff.1 HV4.out).1; have := HW2.out; have := HLG.out.1; have := HLG.out.2; have := HB0.out; omega))); have HS6 := Lib.hid (HS5.out.keep ho6.size fun hne k hk => ho6.block k (HS5.out.lt hne k hk) (fun h => h.elim (HTL.out _ (by have := (HE.out.new k hk).1; have := HW2.out; have := HW2.out; have := HLG.out.1; have := HLG.out.2; have := HB0.out; omega)) (fun h => by have := HS5.out.lt hne k hk; have := HW2.out; have := HLG.out.1; have := HLG.out.2; have := HB0.out; omega))); have HS7 := Lib.hid ho6.size; have e0 := rowCell HV5.out 0 (.int .i64 s) rfl; have e1 := rowCell HV5.out 1 (.slice BA l.length bn) rfl; clear hbf hd6 hp6 ho6 hn6 hB5 hT5))
      | (refine wpList_storeAll rfl 40 _ _ rfl (w.heap.size + 2) _ _ rfl rfl HZ5.out rfl (by kernel_rfl) (by kernel_rfl) ?_; intro w9 hz hh ho; have HQ := Lib.hid hh; have HO9 := Lib.hid ho; clear hz hh ho))
    have k0 := rowCell HQ.out 0 (.int .i64 s) rfl
    have k1 := rowCell HQ.out 1 (.slice BA l.length bn) rfl
    refine bodyPost_ret (v := agE s (.slice BA l.length bn)) ?_ rfl ?_
    · simp [results, Tryz.results55, go_sem, k0, k1]
    · exact said_end (w0 := w0) (K := wc.heap.size) (Nat.le_trans HS4.out HS7.out) HB5.out ((Turn.below HWC.out).trans HT5.out) HS6.out HE.out.new (fun k hk0 => have hk := HE.out.new k hk0; ⟨fun h => h.1.elim (HTL.out _ (by have := HW2.out; have := HLG.out.1; have := HLG.out.2; have := HB0.out; omega)) (fun h2 => by have := hk.2; have := HS4.out; have := HW2.out; have := HLG.out.1; have := HLG.out.2; have := HB0.out; omega), by have := HW2.out; have := HLG.out.1; have := HLG.out.2; have := HB0.out; omega⟩) (by have := HW2.out; have := HLG.out.1; have := HLG.out.2; have := HB0.out; omega) HW2.out (fun h => h.1.elim (HTL.out _ (by have := HW2.out; have := HLG.out.1; have := HLG.out.2; have := HB0.out; omega)) (fun h2 => by have := HS4.out; have := HB0.out; have := HW2.out; have := HW2.out; have := HLG.out.1; have := HLG.out.2; have := HB0.out; omega)) (by have := HW2.out; have := HLG.out.1; have := HLG.out.2; have := HB0.out; omega) (by have := HW2.out; have := HLG.out.1; have := HLG.out.2; have := HB0.out; omega) HO9.out

theorem Both.bth {w0 W : World} {g bm g2 : Nat} {v : Value} {f c : Int} (h : Both w0 W g bm g2 v f c) : Bth W w0.heap.size g bm g2 f c [] (fun k => (w0.heap.size ≤ k ∧ k ≠ g ∧ k ≠ bm) ∧ k < W.heap.size) :=
  ⟨h.au, ⟨v, [], h.dt.mono fun k hk hT => ⟨hT, hk⟩, rfl⟩, fun hT => hT.1.2.1 rfl, fun hT => hT.1.2.2 rfl, fun k hk => hk.2, ⟨h.at_bm, fun k hk => hk.1.1⟩, h.below.size⟩
theorem Bth.weak {w : World} {N N' g bm g2 : Nat} {f c : Int} {L : List (Int × List UInt8)} {T : Nat → Prop} (h : Bth w N g bm g2 f c L T) (hN : N' ≤ N) : Bth w N' g bm g2 f c L T :=
  ⟨h.au, h.dt, h.ng, h.nb, h.lt, ⟨Nat.le_trans hN h.lo.1, fun k hk => Nat.le_trans hN (h.lo.2 k hk)⟩, Nat.le_trans hN h.low⟩
theorem cells2 {W : World} {b : Nat} {x y : Value} {t : TypeId} (h : W.heap[b]? = some (.cells #[x, y] t (0, 0))) : W.cell? ⟨b, 0, none⟩ = some x ∧ W.cell? ⟨b, 1, none⟩ = some y ∧ W.frozen? ⟨b, 0, none⟩ = false ∧ W.frozen? ⟨b, 1, none⟩ = false :=
  ⟨rowCell h 0 _ rfl, rowCell h 1 _ rfl, by simp [World.frozen?, h], by simp [World.frozen?, h]⟩
theorem set2row {W : World} {b : Nat} {x y : Value} {t : TypeId} (h : W.heap[b]? = some (.cells #[x, y] t (0, 0))) (x' y' : Value) : ((W.setCell ⟨b, 0, none⟩ x').setCell ⟨b, 1, none⟩ y').heap[b]? = some (.cells #[x', y'] t (0, 0)) := by
  simp [World.setCell, Array.getElem?_modify, h]
abbrev SPw (w : World) (a b : Addr) (x y : Value) : World → Prop := fun W => Below w.heap.size w W ∧ W.cell? a = some x ∧ W.cell? b = some y
def BegP (F C : Int) (w : World) (e : Ending) (w' : World) : Prop :=
  ∃ g bm g2 T, e = .returned (.agg #[.pointer (some ⟨g, 0, none⟩), .pointer (some ⟨g2, 0, none⟩)]) ∧ Bth w' w.heap.size g bm g2 (clF F) (clC C) [] T ∧ Below w.heap.size w w'
set_option maxHeartbeats 2000000 in
theorem begun_any (F C : Int) (w : World) : Calls Tryz.prog 15 #[.agg #[.int .i64 F, .int .i64 C]] w (BegP F C w) := by
  obtain ⟨x1, x2, x3⟩ := box2B w #[.int .i64 F, .int .i64 C] #[.pointer none, .pointer none] 23 29
  go_enter Tryz.func15, Tryz.ntmps15
  go_upto_region 1 with fail
  generalize hw0 : (w.alloc _).alloc _ = w0 at *
  have HX := Lib.hid x1
  have HQ := Lib.hid x2
  have HB := Lib.hid x3
  have HLT := Lib.hid (Array.getElem?_eq_some_iff.1 x2).1
  clear x1 x2 x3 hw0
  have HK := Lib.hid (show ∀ W, Below w0.heap.size w0 W → SPw w ⟨w.heap.size, 0, none⟩ ⟨w.heap.size, 1, none⟩ (.int .i64 F) (.int .i64 C) W from fun W h => ⟨bel2M HB.out h, cellB (rowCell HX.out 0 _ rfl) h, cellB (rowCell HX.out 1 _ rfl) h⟩)
  have HD0 := Lib.hid (show Below w0.heap.size w0 w0.drew from (Below.refl _ _).drew)
  have HS0 := Lib.hid (HK.out w0.drew HD0.out)
  go_region_held3 (SPw w ⟨w.heap.size, 0, none⟩ ⟨w.heap.size, 1, none⟩ (.int .i64 F) (.int .i64 C)) (first | exact HS0.out | exact HSA.out | exact HSB.out | exact HSC.out) (first
    | (go_at_call 36; go_loud (refine (New3_any F C _).mono ?_; rintro e wA ⟨g, bm, rfl, hg, hbm, hA, hbA⟩; have HDA := Lib.hid (bel2M HD0.out hbA); have HSA := Lib.hid (HK.out wA HDA.out); have HA := Lib.hid hA; have HBA := Lib.hid hbA; have HG := Lib.hid (And.intro hg hbm); clear hA hbA hg hbm))
    | (go_at_call 54; go_loud (refine (rNew_any F C _).mono ?_; rintro e wB ⟨g2, v, rfl, hg2, hD, hbB⟩; have HDB := Lib.hid (bel2M HDA.out hbB); have HSB := Lib.hid (HK.out wB HDB.out); have HBO := Lib.hid (Both.one (w0 := w0) (Below.refl _ _).drew HG.out.1 HG.out.2 HA.out HBA.out hD hbB); have HQB := Lib.hid (heapB HQ.out HDB.out); obtain ⟨q0, q1, q2, q3⟩ := cells2 HQB.out; have HOB := Lib.hid (Only.set (Only.set (Only.refl (w.heap.size + 1) wB) 0 (.pointer (some ⟨g, 0, none⟩))) 1 (.pointer (some ⟨g2, 0, none⟩))); have HQC := Lib.hid (set2row HQB.out (.pointer (some ⟨g, 0, none⟩)) (.pointer (some ⟨g2, 0, none⟩))); have HSC := Lib.hid (show SPw w ⟨w.heap.size, 0, none⟩ ⟨w.heap.size, 1, none⟩ (.int .i64 F) (.int .i64 C) _ from ⟨onlyBelow HSB.out.1 HOB.out (by omega) (Nat.le_refl _), onlyCell HOB.out HSB.out.2.1 (by simp), onlyCell HOB.out HSB.out.2.2 (by simp)⟩); clear hD hbB hg2)))
  go_wp2
  have k0 := rowCell HQC.out 0 (.pointer (some ⟨g, 0, none⟩)) rfl
  have k1 := rowCell HQC.out 1 (.pointer (some ⟨g2, 0, none⟩)) rfl
  refine bodyPost_ret (v := .agg #[.pointer (some ⟨g, 0, none⟩), .pointer (some ⟨g2, 0, none⟩)]) ?_ rfl ?_
  · simp [results, Tryz.results15, go_sem, k0, k1]
  · have hgl := HBO.out.at_g
    have hbl := HBO.out.at_bm
    have hlt := HLT.out
    exact ⟨g, bm, g2, _, rfl, ((HBO.out.bth).weak (by omega)).only HOB.out (fun hT => by have := hT.1.1; omega) (by omega) (by omega), HSC.out.1⟩

set_option maxHeartbeats 4000000 in
theorem sign_any (N g bm g2 : Nat) (f c : Int) (L : List (Int × List UInt8)) (T : Nat → Prop) (s : Int) (m : Msg) (P : Plc) (l : List UInt8) (w : World) (h : Bth w N g bm g2 f c L T) (hs : ok64 s) (hl : l.length ≤ 1000000000) (hL : L.length ≤ 1000000000)
    (hE : ∀ W, Below w.heap.size w W → Calls Tryz.prog 31 #[agM m P] W (Puts W l)) :
    Calls Tryz.prog 38 #[.agg #[.pointer (some ⟨g, 0, none⟩), .pointer (some ⟨g2, 0, none⟩)], .int .i64 s, agM m P] w (SaidP N g bm g2 f c s l (signT f c s l L) T w) := by
  have HEN := Lib.hid hE
  have HBT := Lib.hid h
  obtain ⟨x1, x2, x3⟩ := box2B w #[.pointer (some ⟨g, 0, none⟩), .pointer (some ⟨g2, 0, none⟩)] #[.int .i64 m.k, .int .i64 m.v, .int .i64 m.s, .int .i64 m.c, .int .i64 m.t, .string (strB m.d), .slice P.x.1 m.x.length P.x.2, .int .i64 m.r.1, .int .i64 m.r.2, .slice P.b.1 m.b.length P.b.2, .slice P.p.1 m.p.length P.p.2, .slice P.q.1 m.q.length P.q.2] 29 57
  have x4 := heapB x1 (alloc1B _ (.cells #[.int .i64 0, .slice none 0 0] 40))
  have x5 := heapB x2 (alloc1B _ (.cells #[.int .i64 0, .slice none 0 0] 40))
  have x6 := bel2M x3 (alloc1B _ (.cells #[.int .i64 0, .slice none 0 0] 40))
  have x7 := heap_alloc_new ((w.alloc (.cells #[.pointer (some ⟨g, 0, none⟩), .pointer (some ⟨g2, 0, none⟩)] 29)).alloc (.cells #[.int .i64 m.k, .int .i64 m.v, .int .i64 m.s, .int .i64 m.c, .int .i64 m.t, .string (strB m.d), .slice P.x.1 m.x.length P.x.2, .int .i64 m.r.1, .int .i64 m.r.2, .slice P.b.1 m.b.length P.b.2, .slice P.p.1 m.p.length P.p.2, .slice P.q.1 m.q.length P.q.2] 57)) (.cells #[.int .i64 0, .slice none 0 0] 40)
  have hz : ((w.alloc (.cells #[.pointer (some ⟨g, 0, none⟩), .pointer (some ⟨g2, 0, none⟩)] 29)).alloc (.cells #[.int .i64 m.k, .int .i64 m.v, .int .i64 m.s, .int .i64 m.c, .int .i64 m.t, .string (strB m.d), .slice P.x.1 m.x.length P.x.2, .int .i64 m.r.1, .int .i64 m.r.2, .slice P.b.1 m.b.length P.b.2, .slice P.p.1 m.p.length P.p.2, .slice P.q.1 m.q.length P.q.2] 57)).heap.size = w.heap.size + 2 := by simp
  rw [hz] at x7
  clear hE h x1 x2 x3 hz
  go_enter Tryz.func38, Tryz.ntmps38
  go_upto_region 1 with fail
  generalize hw0 : ((w.alloc _).alloc _).alloc _ = w0 at *
  have HX := Lib.hid x4
  have HY := Lib.hid x5
  have HZ := Lib.hid x7
  have HB := Lib.hid x6
  have HW2 := Lib.hid (Array.getElem?_eq_some_iff.1 x7).1
  clear x4 x5 x6 x7 hw0
  have HSD := Lib.hid (said_any N g bm g2 f c L T s true m P l w0 (HBT.out.below HB.out) hs hl hL (fun W hW => HEN.out W (bel2M HB.out hW)))
  have HLG := Lib.hid (And.intro HBT.out.au.1.lt HBT.out.au.2.lt)
  have HTL := Lib.hid (show ∀ k, w.heap.size ≤ k → T k → False from fun k hk hT => absurd (HBT.out.lt k hT) (by omega))
  have r0 := rowCell HX.out 0 (.pointer (some ⟨g, 0, none⟩)) rfl
  have r1 := rowCell HX.out 1 (.pointer (some ⟨g2, 0, none⟩)) rfl
  clear HX
  go_wp2_with (first
    | (refine wpList_load_mid rfl 57 _ rfl (w.heap.size + 1) 0 rfl _ _ (heap_all HY.out) Tryz.underlying57 rfl (by kernel_rfl) ?_)
    | (go_at_call 55; go_loud (refine HSD.out.mono ?_; rintro e w5 ⟨bv, T', rfl, hf, hb5, ht5⟩; have HF := Lib.hid hf; obtain ⟨BA, bn, rfl, -⟩ := hf.bs.open; have HB5 := Lib.hid hb5; have HT5 := Lib.hid ht5; have HZ5 := Lib.hid (heapO HZ.out ht5.off (fun h => h.elim (HTL.out _ (by omega)) (fun h => by have := HLG.out.2; omega))); clear hf hb5 ht5))
    | (refine wpList_storeAll rfl 40 _ _ rfl (w.heap.size + 2) _ _ rfl rfl HZ5.out rfl (by kernel_rfl) (by kernel_rfl) ?_; intro w9 hz hh ho; have HQ := Lib.hid hh; have HO9 := Lib.hid ho; clear hz hh ho))
  have k0 := rowCell HQ.out 0 (.int .i64 s) rfl
  have k1 := rowCell HQ.out 1 (.slice BA l.length bn) rfl
  refine bodyPost_ret (v := agE s (.slice BA l.length bn)) ?_ rfl ?_
  · simp [results, Tryz.results38, go_sem, k0, k1]
  · have hw2 := HW2.out
    have hlg := HLG.out
    exact said_end (w0 := w0) (K := w5.heap.size) (Nat.le_refl _) HB5.out ((Turn.below HB.out).trans HT5.out) HF.out.bs (fun k hk => ⟨(HF.out.new k hk).1, (HF.out.new k hk).2.1⟩) (fun k hk => ⟨fun h => (HF.out.new k hk).2.2 (.inl h), fun h => (HF.out.new k hk).2.2 (.inr h)⟩) (by omega) hw2 (fun h => HTL.out _ (by omega) (HT5.out.new _ hw2 h)) (by omega) (by omega) HO9.out

structure Held (T : Nat → Prop) (bm : Nat) (W : World) (b : Nat) (cs : Array Value) (t : TypeId) : Prop where
  at_ : W.heap[b]? = some (.cells cs t (0, 0))
  off : offT T bm b
structure HeldV (T : Nat → Prop) (bm : Nat) (W : World) (v : Value) (l : List UInt8) : Prop where
  bs : Bs W v l
  own : ∀ k, v.ownBlock = some k → k < W.heap.size ∧ offT T bm k
section
variable {T T' : Nat → Prop} {bm b : Nat} {W W' : World} {cs : Array Value} {t : TypeId} {v : Value} {l : List UInt8}
theorem Held.lt (h : Held T bm W b cs t) : b < W.heap.size := (Array.getElem?_eq_some_iff.1 h.at_).1
theorem Held.turn (h : Held T bm W b cs t) (ht : Turn T bm W W' T') : Held T' bm W' b cs t := ⟨(ht.off.block b h.lt h.off).trans h.at_, (ht.keep b h.lt h.off).2⟩
theorem Held.below (h : Held T bm W b cs t) (hb : Below W.heap.size W W') : Held T bm W' b cs t := ⟨heapB h.at_ hb, h.off⟩
theorem Held.only {g : Nat} (h : Held T bm W b cs t) (ho : Only g W W') (hne : b ≠ g) : Held T bm W' b cs t := ⟨onlyHeap ho h.at_ hne, h.off⟩
theorem Bth.fresh {N g g2 : Nat} {f c : Int} {L : List (Int × List UInt8)} {k : Nat} (h : Bth W N g bm g2 f c L T) (hk : W.heap.size ≤ k) : offT T bm k := fun h2 => h2.elim (fun h3 => absurd (h.lt k h3) (by omega)) (fun h3 => by have := h.au.2.lt; omega)
theorem Held.new {N g g2 : Nat} {f c : Int} {L : List (Int × List UInt8)} (h : Bth W N g bm g2 f c L T) : Held T bm (W.alloc (.cells cs t)) W.heap.size cs t := ⟨heap_alloc_new _ _, h.fresh (Nat.le_refl _)⟩
theorem HeldV.turn (h : HeldV T bm W v l) (ht : Turn T bm W W' T') : HeldV T' bm W' v l :=
  ⟨h.bs.keep ht.off.size fun _ k hk => ht.off.block k (h.own k hk).1 (h.own k hk).2, fun k hk => ⟨Nat.lt_of_lt_of_le (h.own k hk).1 ht.off.size, (ht.keep k (h.own k hk).1 (h.own k hk).2).2⟩⟩
theorem HeldV.below (h : HeldV T bm W v l) (hb : Below W.heap.size W W') : HeldV T bm W' v l := ⟨h.bs.below hb (Nat.le_refl _), fun k hk => ⟨Nat.lt_of_lt_of_le (h.own k hk).1 hb.size, (h.own k hk).2⟩⟩
theorem HeldV.only {g : Nat} (h : HeldV T bm W v l) (ho : Only g W W') (hne : ∀ k, v.ownBlock = some k → k ≠ g) : HeldV T bm W' v l :=
  ⟨h.bs.keep ho.size fun _ k hk => ho.block k (h.own k hk).1 (by intro e; injection e with e; exact hne k hk e), fun k hk => ⟨Nat.lt_of_lt_of_le (h.own k hk).1 ho.size, (h.own k hk).2⟩⟩
theorem Fresh.held {w : World} (h : Fresh w W T bm v l) : HeldV T bm W v l := ⟨h.bs, fun k hk => (h.new k hk).2⟩
end
theorem envK_lit {W : World} {b o c : Nat} {l : List (Int × List UInt8)} (hc : l.length ≤ c) (hm : c ≤ maxLen) (hb : b < W.heap.size) (h : ∀ j (hj : j < l.length), EnvP W ⟨b, o + j * 2, none⟩ l[j]) : EnvK W (some ⟨b, o, none⟩) c l :=
  ⟨hc, hm, (by intro h; cases h), fun j hj => ⟨⟨b, o, none⟩, rfl, hb, by rw [Addr.add_lit]; exact h j hj⟩⟩
theorem envK_row {W : World} {b : Nat} {cs : Array Value} {t : TypeId} {c : Nat} {l : List (Int × List UInt8)} (o : Nat) (hh : W.heap[b]? = some (.cells cs t (0, 0))) (hc : l.length ≤ c) (hm : c ≤ 1000)
    (h : ∀ j (hj : j < l.length), cs[o + j * 2]? = some (.int .i64 l[j].1) ∧ ∃ v, cs[o + j * 2 + 1]? = some v ∧ Bs W v l[j].2) : EnvK W (some ⟨b, o, none⟩) c l :=
  envK_lit hc (by unfold maxLen; omega) (Array.getElem?_eq_some_iff.1 hh).1 fun j hj => by
    obtain ⟨h1, v, h2, h3⟩ := h j hj
    exact ⟨rowCell hh _ _ h1, v, rowCell hh _ _ h2, h3⟩

theorem encD_len {m : Msg} (h : SmD m) : (encD m).length ≤ 10000000 := by
  refine Nat.le_trans encD_le ?_
  have hput : putM m = _ := put_eq (shapeM m.k).1 m
  rw [hput]
  simp only [List.length_append]
  have a1 := numP_le (shapeM m.k).1.v m.v
  have a2 := numP_le (shapeM m.k).1.s m.s
  have a3 := numP_le (shapeM m.k).1.c m.c
  have a4 := numP_le (shapeM m.k).1.t m.t
  have a5 := rowP_le (shapeM m.k).1.d m.d
  have a6 := rowP_le (shapeM m.k).1.x m.x
  have a7 := resP_le (shapeM m.k).1.r m.r
  have a8 := lisP_le envW 100012 30 (shapeM m.k).1.b m.b (fun e he => by have := h.b.2 e he; rw [envW_length]; omega) h.b.1
  have a9 := lisP_le envW 100012 30 (shapeM m.k).1.p m.p (fun e he => by have := h.p.2 e he; rw [envW_length]; omega) h.p.1
  have a10 := lisP_le crtW 0 0 (shapeM m.k).1.q m.q (fun e he => by rw [h.q] at he; cases he) (by rw [h.q]; exact Nat.le_refl _)
  have a11 := i8B_length m.k
  have b1 := h.d
  have b2 := h.x
  simp only [List.length_nil]
  omega
theorem sign_sm {W : World} {N g bm g2 : Nat} {f c : Int} {L : List (Int × List UInt8)} {T : Nat → Prop} (h : Bth W N g bm g2 f c L T) (s : Int) (hs : ok64 s) (m : Msg) (P : Plc) (hm : MsgK W m P) (hsm : SmD m) (hL : L.length ≤ 1000000) :
    Calls Tryz.prog 38 #[.agg #[.pointer (some ⟨g, 0, none⟩), .pointer (some ⟨g2, 0, none⟩)], .int .i64 s, agM m P] W (SaidP N g bm g2 f c s (encD m) (signT f c s (encD m) L) T W) :=
  sign_any N g bm g2 f c L T s m P (encD m) W h hs (by have := encD_len hsm; omega) (by omega) fun W' hb => rEncode_any m P W' (hm.below hb) hsm
theorem said_sm {W : World} {N g bm g2 : Nat} {f c : Int} {L : List (Int × List UInt8)} {T : Nat → Prop} (h : Bth W N g bm g2 f c L T) (s : Int) (sg : Bool) (hs : ok64 s) (m : Msg) (P : Plc) (hm : MsgK W m P) (hsm : SmD m) (hL : L.length ≤ 1000000) :
    Calls Tryz.prog 55 #[.agg #[.pointer (some ⟨g, 0, none⟩), .pointer (some ⟨g2, 0, none⟩)], .agg #[.int .i64 s, .bool sg, .int .i64 m.k, .int .i64 m.v, .int .i64 m.s, .int .i64 m.c, .int .i64 m.t, .string (strB m.d), .slice P.x.1 m.x.length P.x.2, .int .i64 m.r.1, .int .i64 m.r.2, .slice P.b.1 m.b.length P.b.2, .slice P.p.1 m.p.length P.p.2, .slice P.q.1 m.q.length P.q.2]] W (SaidP N g bm g2 f c s (encD m) (if sg = true then signT f c s (encD m) L else L) T W) :=
  said_any N g bm g2 f c L T s sg m P (encD m) W h hs (by have := encD_len hsm; omega) (by omega) fun W' hb => rEncode_any m P W' (hm.below hb) hsm

theorem mdP_ok {f p v : Int} (hp : ok64 p) (hv : 0 ≤ v ∧ v < 1073741824) {c : Int} (hf : 0 ≤ f ∧ f ≤ 2 ∧ 0 ≤ c ∧ c ≤ 8) : ok64 (mdP f p v) := by
  unfold mdP
  by_cases h : p < 0
  · rw [if_pos h]
    unfold primE
    rw [if_neg (by omega)]
    have h0 : 0 ≤ f ∧ f ≤ 2 := by omega
    have h1 := Int.emod_nonneg v (show (3 * f + 1) ≠ 0 by omega)
    have h2 := Int.emod_lt_of_pos v (show 0 < 3 * f + 1 by omega)
    unfold ok64
    omega
  · rw [if_neg h]; exact hp
def MadeP (N g bm g2 : Nat) (f c v s p : Int) (vs : List Vt) (L : List (Int × List UInt8)) (T : Nat → Prop) (w : World) (e : Ending) (w' : World) : Prop :=
  ∃ bv A' c' T', e = .returned (.agg #[.int .i64 (mdP f p v), bv, .slice A' vs.length c']) ∧ HeldV T' bm w' bv (encD (mdPre v s)) ∧ RowC (offT T' bm) w' 2 (EnvC (offT T' bm)) A' c' (vs.map (mdV v s)) ∧ Bth w' N g bm g2 f c (mdL f c v s p L vs) T' ∧ Turn T bm w w' T' ∧
    ∃ D xs, w.heap.size ≤ D ∧ w'.ownsRow D 40 2 (.slice A' vs.length c') xs.length (flatE xs) ∧ xs.length = vs.length ∧ ∀ j (hj : j < xs.length) (hj2 : j < vs.length), xs[j].1 = vs[j].s ∧ HeldV T' bm w' xs[j].2 (encD (mdVote v s vs[j]))
theorem tmod3_lo (a : Int) : -3 < a.tmod 3 := by
  have := Int.lt_tmod_of_pos a (show (0 : Int) < 3 by decide)
  omega
theorem rowC_es {C : Nat → Prop} {w : World} {v : Value} {xs : List (Int × Value)} {l : List (Int × List UInt8)} (h : Es w v xs) (hl : xs.length = l.length)
    (hel : ∀ j (hj : j < xs.length) (hj2 : j < l.length), xs[j].1 = l[j].1 ∧ Bs w xs[j].2 l[j].2 ∧ ∀ kk, xs[j].2.ownBlock = some kk → C kk) (hC : ∀ kk, v.ownBlock = some kk → C kk) : ∃ A c, v = .slice A l.length c ∧ RowC C w 2 (EnvC C) A c l := by
  obtain ⟨A, c, rfl, h1, h2, h3, h4⟩ := h
  refine ⟨A, c, by rw [hl], ⟨by omega, h2, h3, fun j hj => ?_⟩, fun _ ad ha => hC _ (by subst ha; rfl)⟩
  have hj2 : j < xs.length := by omega
  obtain ⟨ad, ha, hlt, hc⟩ := h4 (by intro e; rw [e] at hj2; exact absurd hj2 (Nat.not_lt_zero _))
  obtain ⟨c1, c2⟩ := hc j hj2
  obtain ⟨e1, e2, e3⟩ := hel j hj2 hj
  exact ⟨ad, ha, hlt, by rw [← e1]; exact c1, xs[j].2, c2, e2, fun _ => e3⟩
structure MdI (N g bm g2 : Nat) (f c v s p : Int) (vs : List Vt) (L : List (Int × List UInt8)) (T : Nat → Prop) (w : World) (D B b8 : Nat) (A : Option Addr) (cc : Nat) (v2 : Value) (k : Nat) (vr : Value) (xs : List (Int × Value)) (T' : Nat → Prop) (wr : World) : Prop where
  bt : Bth wr N g bm g2 f c (mdL f c v s p L (vs.take k)) T'
  tn : Turn T bm w wr T'
  hx : Held T' bm wr w.heap.size #[.pointer (some ⟨g, 0, none⟩), .pointer (some ⟨g2, 0, none⟩)] 29
  hc : Held T' bm wr (w.heap.size + 1) #[.int .i64 v, .int .i64 s, .int .i64 p, .slice A vs.length cc] 48
  hz : Held T' bm wr (w.heap.size + 2) #[.int .i64 0, .slice none 0 0, .slice none 0 0] 50
  hm : Held T' bm wr (B + 1) #[.int .i64 2, .int .i64 v, .int .i64 s, .int .i64 0, .int .i64 0, .string (strB mdD), .slice none 0 0, .int .i64 0, .int .i64 0, .slice (some ⟨B, 0, none⟩) 1 1, .slice none 0 0, .slice none 0 0] 57
  hcr : Held T' bm wr b8 #[.int .i64 (mdP f p v), v2, vr] 50
  hv : HeldV T' bm wr v2 (encD (mdPre v s))
  own : wr.ownsRow D 40 2 vr xs.length (flatE xs)
  off : ∀ kk, vr.ownBlock = some kk → offT T' bm kk
  xl : xs.length = k
  el : ∀ j (hj : j < xs.length) (hj2 : j < vs.length), xs[j].1 = vs[j].s ∧ HeldV T' bm wr xs[j].2 (encD (mdVote v s vs[j]))
  dv : ∀ kk, vr.ownBlock = some kk → v2.ownBlock ≠ some kk
  dj : ∀ j (hj : j < xs.length) kk, vr.ownBlock = some kk → xs[j].2.ownBlock ≠ some kk
  l2 : ∀ kk, v2.ownBlock = some kk → w.heap.size + 2 < kk
  lj : ∀ j (hj : j < xs.length) kk, xs[j].2.ownBlock = some kk → w.heap.size + 2 < kk
  n2 : ∀ kk, v2.ownBlock = some kk → kk ≠ b8
  nj : ∀ j (hj : j < xs.length) kk, xs[j].2.ownBlock = some kk → kk ≠ b8
theorem MdI.below {N g bm g2 : Nat} {f c v s p : Int} {vs : List Vt} {L : List (Int × List UInt8)} {T T' : Nat → Prop} {w wr w9 : World} {D B b8 k : Nat} {A : Option Addr} {cc : Nat} {v2 vr : Value} {xs : List (Int × Value)}
    (h : MdI N g bm g2 f c v s p vs L T w D B b8 A cc v2 k vr xs T' wr) (hb : Below wr.heap.size wr w9) : MdI N g bm g2 f c v s p vs L T w D B b8 A cc v2 k vr xs T' w9 :=
  ⟨h.bt.below hb, h.tn.trans (Turn.below hb), h.hx.below hb, h.hc.below hb, h.hz.below hb, h.hm.below hb, h.hcr.below hb, h.hv.below hb, own_belowM h.own hb, h.off, h.xl, fun j hj hj2 => ⟨(h.el j hj hj2).1, (h.el j hj hj2).2.below hb⟩, h.dv, h.dj, h.l2, h.lj, h.n2, h.nj⟩
theorem MdI.turn {N g bm g2 : Nat} {f c v s p : Int} {vs : List Vt} {L : List (Int × List UInt8)} {T T' T2 : Nat → Prop} {w wr w9 : World} {D B b8 k : Nat} {A : Option Addr} {cc : Nat} {v2 vr : Value} {xs : List (Int × Value)}
    (h : MdI N g bm g2 f c v s p vs L T w D B b8 A cc v2 k vr xs T' wr) (ht : Turn T' bm wr w9 T2) (hk : k < vs.length) (hbt : Bth w9 N g bm g2 f c (mdS f c v s (mdL f c v s p L (vs.take k)) vs[k]) T2) :
    Bth w9 N g bm g2 f c (mdL f c v s p L (vs.take (k + 1))) T2 ∧ Turn T bm w w9 T2 ∧ Held T2 bm w9 b8 #[.int .i64 (mdP f p v), v2, vr] 50 ∧ w9.ownsRow D 40 2 vr xs.length (flatE xs) ∧ (∀ kk, vr.ownBlock = some kk → offT T2 bm kk) ∧ (∀ j (hj : j < xs.length) (hj2 : j < vs.length), xs[j].1 = vs[j].s ∧ HeldV T2 bm w9 xs[j].2 (encD (mdVote v s vs[j]))) := by
  rw [mdL_take f c v s p L vs k hk]
  exact ⟨hbt, h.tn.trans ht, h.hcr.turn ht, own_keep h.own fun kk hkk => ht.off.block kk (h.own.lt kk hkk).2 (h.off kk hkk), fun kk hkk => (ht.keep kk (h.own.lt kk hkk).2 (h.off kk hkk)).2, fun j hj hj2 => ⟨(h.el j hj hj2).1, (h.el j hj hj2).2.turn ht⟩⟩
theorem made_end {N g bm g2 : Nat} {f c v s p : Int} {vs : List Vt} {L : List (Int × List UInt8)} {T T' : Nat → Prop} {w wr w9 : World} {D B b8 : Nat} {A : Option Addr} {cc : Nat} {v2 vr : Value} {xs : List (Int × Value)}
    (h : MdI N g bm g2 f c v s p vs L T w D B b8 A cc v2 vs.length vr xs T' wr) (ho : Only (w.heap.size + 2) wr w9) (hg : w.heap.size + 2 ≠ g) (hD : w.heap.size + 2 < D) (hv2 : ∀ kk, v2.ownBlock = some kk → kk ≠ w.heap.size + 2) (hx : ∀ j (hj : j < xs.length) kk, xs[j].2.ownBlock = some kk → kk ≠ w.heap.size + 2) :
    ∃ A9 c9, vr = .slice A9 vs.length c9 ∧ MadeP N g bm g2 f c v s p vs L T w (.returned (.agg #[.int .i64 (mdP f p v), v2, .slice A9 vs.length c9])) w9 := by
  have hoff := h.hz.off
  have hbt := h.bt
  rw [List.take_length] at hbt
  have hvr : ∀ kk, vr.ownBlock = some kk → kk ≠ w.heap.size + 2 := fun kk hk => by have := (h.own.lt kk hk).1; omega
  have hown : w9.ownsRow D 40 2 vr xs.length (flatE xs) := own_keep h.own fun kk hk => ho.block kk (h.own.lt kk hk).2 (by intro e; injection e with e; exact hvr kk hk e)
  obtain ⟨A9, c9, e, hr⟩ := rowC_es (C := offT T' bm) (l := vs.map (mdV v s)) (Es.of_own hown) (by rw [h.xl, List.length_map]) (fun j hj hj2 => by
    rw [List.length_map] at hj2
    obtain ⟨e1, e2⟩ := h.el j hj hj2
    have e3 := e2.only ho (hx j hj)
    rw [List.getElem_map]
    exact ⟨e1, e3.bs, fun kk hk => (e3.own kk hk).2⟩) h.off
  rw [List.length_map] at e
  exact ⟨A9, c9, e, v2, A9, c9, T', rfl, h.hv.only ho hv2, hr, hbt.only ho (fun h2 => hoff (.inl h2)) hg (fun h2 => hoff (.inr h2)), h.tn.only ho (by omega), D, xs, by omega, e ▸ hown, h.xl, fun j hj hj2 => ⟨(h.el j hj hj2).1, (h.el j hj hj2).2.only ho (hx j hj)⟩⟩
theorem mdL_len (f c v s p : Int) (L : List (Int × List UInt8)) (vs : List Vt) : (mdL f c v s p L vs).length ≤ L.length + 2 + vs.length := by
  have key : ∀ k, k ≤ vs.length → (mdL f c v s p L (vs.take k)).length ≤ L.length + 2 + k := by
    intro k
    induction k with
    | zero =>
      intro _
      have h1 := signT_length f c 1000 mdL1 L
      have h2 := signT_length f c (mdP f p v) (encD (mdPre v s)) (signT f c 1000 mdL1 L)
      show (mdL0 f c v s p L).length ≤ _
      unfold mdL0
      omega
    | succ k ih =>
      intro hk
      rw [mdL_take f c v s p L vs k (by omega)]
      have h1 := ih (by omega)
      unfold mdS
      split
      · have h2 := signT_length f c vs[k].s (encD (mdVote v s vs[k])) (mdL f c v s p L (vs.take k))
        omega
      · omega
  have := key vs.length (Nat.le_refl _)
  rwa [List.take_length] at this
theorem Held.grown {T : Nat → Prop} {bm b : Nat} {W W' : World} {cs : Array Value} {t : TypeId} {row : Option Nat} (h : Held T bm W b cs t) (hg : W.grownBy W' row) (hne : row ≠ some b) : Held T bm W' b cs t := ⟨(hg.block b h.lt (fun e => hne e.symm)).trans h.at_, h.off⟩
theorem made_step {N g bm g2 : Nat} {f c v s p : Int} {vs : List Vt} {L : List (Int × List UInt8)} {T T' T5 : Nat → Prop} {w wy w5 w6 w4 w9 : World} {D B b8 k : Nat} {A : Option Addr} {cc : Nat} {v2 vr v5 v4 : Value} {xs : List (Int × Value)}
    (h : MdI N g bm g2 f c v s p vs L T w D B b8 A cc v2 k vr xs T' wy) (hk : k < vs.length) (hD : b8 < D ∧ w.heap.size + 2 < D ∧ B + 1 < D ∧ g < D ∧ bm < D) (hb8 : w.heap.size + 2 < b8) (hB8 : B + 1 ≠ b8) (hgb : g ≠ b8) (hwy : w.heap.size + 2 < wy.heap.size)
    (hf : Fresh wy w5 T5 bm v5 (encD (mdVote v s vs[k]))) (ht : Turn T' bm wy w5 T5) (hbt : Bth w5 N g bm g2 f c (mdS f c v s (mdL f c v s p L (vs.take k)) vs[k]) T5)
    (h6 : Below w5.heap.size w5 w6) (hown : w4.ownsRow D 40 2 v4 (xs.length + 1) (flatE xs ++ [.int .i64 vs[k].s, v5])) (hg : w6.grownBy w4 vr.ownBlock) (ho4 : v4.ownBlock = vr.ownBlock ∨ v4.ownBlock = some w6.heap.size)
    (h9 : Only b8 w4 w9) (hc9 : w9.heap[b8]? = some (.cells #[.int .i64 (mdP f p v), v2, v4] 50 (0, 0))) :
    MdI N g bm g2 f c v s p vs L T w D B b8 A cc v2 (k + 1) v4 (xs ++ [(vs[k].s, v5)]) T5 w9 := by
  have hwy := h.tn.off.size
  have s5 := ht.off.size
  have s6 := h6.size
  have s4 := hg.size
  have s9 := h9.size
  have hvlt : ∀ kk, vr.ownBlock = some kk → D ≤ kk ∧ kk < wy.heap.size := fun kk hkk => h.own.lt kk hkk
  -- what lies in a block that stays, off the row, off the box, stays
  have keep : ∀ kk, kk < wy.heap.size → offT T' bm kk → vr.ownBlock ≠ some kk → kk ≠ b8 → w9.heap[kk]? = wy.heap[kk]? := fun kk h1 h2 h3 h4 =>
    (((h9.block kk (by omega) (by intro e; injection e with e; exact h4 e)).trans (hg.block kk (by omega) (fun e => h3 e.symm))).trans (h6.block kk (by omega))).trans (ht.off.block kk h1 h2)
  have offk : ∀ kk, kk < wy.heap.size → offT T' bm kk → offT T5 bm kk := fun kk h1 h2 => (ht.keep kk h1 h2).2
  have box : ∀ {b : Nat} {cs : Array Value} {t : TypeId}, Held T' bm wy b cs t → b < D → b ≠ b8 → Held T5 bm w9 b cs t := fun hh hb hne => ⟨(keep _ hh.lt hh.off (fun e => by have := (hvlt _ e).1; omega) hne).trans hh.at_, offk _ hh.lt hh.off⟩
  have row : ∀ {y : Value} {l : List UInt8}, HeldV T' bm wy y l → (∀ kk, vr.ownBlock = some kk → y.ownBlock ≠ some kk) → (∀ kk, y.ownBlock = some kk → kk ≠ b8) → HeldV T5 bm w9 y l := fun hh hd hne =>
    ⟨hh.bs.keep (by omega) fun _ kk hkk => keep kk (hh.own kk hkk).1 (hh.own kk hkk).2 (fun e => hd kk e hkk) (hne kk hkk), fun kk hkk => ⟨by have := (hh.own kk hkk).1; omega, offk kk (hh.own kk hkk).1 (hh.own kk hkk).2⟩⟩
  have hb8lt := h.hcr.lt
  have hb8o := offk b8 hb8lt h.hcr.off
  have h4lt := fun kk hkk => hown.lt kk hkk
  -- from behind said on
  have keep5 : ∀ kk, kk < w5.heap.size → vr.ownBlock ≠ some kk → kk ≠ b8 → w9.heap[kk]? = w5.heap[kk]? := fun kk h1 h3 h4 =>
    ((h9.block kk (by omega) (by intro e; injection e with e; exact h4 e)).trans (hg.block kk (by omega) (fun e => h3 e.symm))).trans (h6.block kk h1)
  have hbl := hbt.au.2.lt
  have hgl := hbt.au.1.lt
  have hsz : w5.heap.size ≤ w9.heap.size := by omega
  have hbm : bm ≠ b8 := fun e => hb8o (.inr e.symm)
  have vrg : ∀ kk, kk < D → vr.ownBlock ≠ some kk := fun kk h1 e => by have := (hvlt kk e).1; omega
  have bt9 : Bth w9 N g bm g2 f c (mdL f c v s p L (vs.take (k + 1))) T5 := by
    rw [mdL_take f c v s p L vs k hk]
    obtain ⟨vd, E, hd, he⟩ := hbt.dt
    refine ⟨hbt.au.keep (keep5 g hgl (vrg g hD.2.2.2.1) hgb) (keep5 bm hbl (vrg bm hD.2.2.2.2) hbm), ⟨vd, E, hd.keep hsz fun kk h1 h2 => keep5 kk h1 (fun e => offk kk (hvlt kk e).2 (h.off kk e) (.inl h2)) (fun e => hb8o (.inl (e ▸ h2))), he⟩, hbt.ng, hbt.nb, fun kk h1 => Nat.lt_of_lt_of_le (hbt.lt kk h1) hsz, hbt.lo, Nat.le_trans hbt.low hsz⟩
  have htt := h.tn.trans ht
  have ho45 := h9
  have tn9 : Turn T bm w w9 T5 := ⟨⟨by rw [h9.os, hg.os, h6.os]; exact htt.off.os, by rw [h9.tape, hg.tape, h6.tape]; exact htt.off.tape, by rw [h9.output, hg.output, h6.output]; exact htt.off.output, by omega, fun kk h1 h2 =>
    (keep kk (by omega) (h.tn.keep kk h1 h2).2 (vrg kk (by omega)) (by omega)).trans (h.tn.off.block kk h1 h2)⟩, htt.new⟩
  have hxl := h.xl
  have v5lt : ∀ kk, v5.ownBlock = some kk → wy.heap.size ≤ kk ∧ kk < w5.heap.size ∧ offT T5 bm kk := hf.new
  have el9 : ∀ kk, v4.ownBlock = some kk → vr.ownBlock = some kk ∨ kk = w6.heap.size := fun kk e => by
    rcases ho4 with h1 | h1
    · exact .inl (h1 ▸ e)
    · rw [h1] at e; injection e with e; exact .inr e.symm
  have v5h : HeldV T5 bm w9 v5 (encD (mdVote v s vs[k])) := ⟨hf.bs.keep hsz fun _ kk e => keep5 kk (v5lt kk e).2.1 (fun e2 => by have := (hvlt kk e2).2; have := (v5lt kk e).1; omega) (fun e2 => by have := (v5lt kk e).1; omega), fun kk e => ⟨by have := (v5lt kk e).2.1; omega, (v5lt kk e).2.2⟩⟩
  have get1 : ∀ j (hj : j < xs.length) (hj2 : j < (xs ++ [(vs[k].s, v5)]).length), (xs ++ [(vs[k].s, v5)])[j] = xs[j] := fun j hj hj2 => List.getElem_append_left hj
  have get2 : ∀ (hj2 : xs.length < (xs ++ [(vs[k].s, v5)]).length), (xs ++ [(vs[k].s, v5)])[xs.length] = (vs[k].s, v5) := fun hj2 => by simp
  have split : ∀ j, j < (xs ++ [(vs[k].s, v5)]).length → j < xs.length ∨ j = xs.length := fun j hj => by rw [List.length_append] at hj; simp only [List.length_cons, List.length_nil] at hj; omega
  have h2lt : ∀ kk, v2.ownBlock = some kk → kk < wy.heap.size := fun kk e => (h.hv.own kk e).1
  have hjlt : ∀ j (hj : j < xs.length) kk, xs[j].2.ownBlock = some kk → kk < wy.heap.size := fun j hj kk e => ((h.el j hj (by omega)).2.own kk e).1
  refine ⟨bt9, tn9, box h.hx (by omega) (by omega), box h.hc (by omega) (by omega), box h.hz (by omega) (by omega), box h.hm (by omega) hB8, ⟨hc9, hb8o⟩, row h.hv h.dv h.n2, ?_, ?_, ?_, ?_, ?_, ?_, h.l2, ?_, h.n2, ?_⟩
  · rw [flatE_snoc, List.length_append]
    exact own_keep hown fun kk e => h9.block kk (h4lt kk e).2 (by intro e2; injection e2 with e2; have := (h4lt kk e).1; omega)
  · intro kk e
    rcases el9 kk e with h1 | h1
    · exact offk kk (hvlt kk h1).2 (h.off kk h1)
    · exact h1 ▸ hbt.fresh s6
  · rw [List.length_append, hxl]; rfl
  · intro j hj hj2
    rcases split j hj with h1 | rfl
    · rw [get1 j h1 hj]
      exact ⟨(h.el j h1 hj2).1, row (h.el j h1 hj2).2 (h.dj j h1) (h.nj j h1)⟩
    · rw [get2 hj]
      subst hxl
      exact ⟨rfl, v5h⟩
  · intro kk e e2
    rcases el9 kk e with h1 | h1
    · exact h.dv kk h1 e2
    · have := h2lt kk e2; omega
  · intro j hj kk e e2
    rcases split j hj with h1 | rfl
    · rw [get1 j h1 hj] at e2
      rcases el9 kk e with h3 | h3
      · exact h.dj j h1 kk h3 e2
      · have := hjlt j h1 kk e2; omega
    · rw [get2 hj] at e2
      have := v5lt kk e2
      rcases el9 kk e with h3 | h3
      · have := hvlt kk h3; omega
      · omega
  · intro j hj kk e
    rcases split j hj with h1 | rfl
    · rw [get1 j h1 hj] at e
      exact h.lj j h1 kk e
    · rw [get2 hj] at e
      have := v5lt kk e
      omega
  · intro j hj kk e
    rcases split j hj with h1 | rfl
    · rw [get1 j h1 hj] at e
      exact h.nj j h1 kk e
    · rw [get2 hj] at e
      have := v5lt kk e
      omega

set_option maxHeartbeats 8000000 in
theorem made_any (N g bm g2 : Nat) (f c : Int) (L : List (Int × List UInt8)) (T : Nat → Prop) (v s p : Int) (vs : List Vt) (A : Option Addr) (cc : Nat) (w : World) (h : Bth w N g bm g2 f c L T) (hv : ∀ W, Below N w W → VtK W A cc vs)
    (hb1 : 0 ≤ v ∧ v < 1073741824) (hb2 : 0 < s ∧ s < 1073741824) (hn : vs.length ≤ 12) (hp : ok64 p) (hs : ∀ x ∈ vs, ok64 x.s) (hL : L.length ≤ 1000) :
    Calls Tryz.prog 23 #[.agg #[.pointer (some ⟨g, 0, none⟩), .pointer (some ⟨g2, 0, none⟩)], .agg #[.int .i64 v, .int .i64 s, .int .i64 p, .slice A vs.length cc]] w (MadeP N g bm g2 f c v s p vs L T w) := by
  obtain ⟨x1, x2, x3⟩ := box2B w #[.pointer (some ⟨g, 0, none⟩), .pointer (some ⟨g2, 0, none⟩)] #[.int .i64 v, .int .i64 s, .int .i64 p, .slice A vs.length cc] 29 48
  have x4 := heapB x1 (alloc1B _ (.cells #[.int .i64 0, .slice none 0 0, .slice none 0 0] 50))
  have x5 := heapB x2 (alloc1B _ (.cells #[.int .i64 0, .slice none 0 0, .slice none 0 0] 50))
  have x6 := bel2M x3 (alloc1B _ (.cells #[.int .i64 0, .slice none 0 0, .slice none 0 0] 50))
  have x7 := heap_alloc_new ((w.alloc (.cells #[.pointer (some ⟨g, 0, none⟩), .pointer (some ⟨g2, 0, none⟩)] 29)).alloc (.cells #[.int .i64 v, .int .i64 s, .int .i64 p, .slice A vs.length cc] 48)) (.cells #[.int .i64 0, .slice none 0 0, .slice none 0 0] 50)
  have hz : ((w.alloc (.cells #[.pointer (some ⟨g, 0, none⟩), .pointer (some ⟨g2, 0, none⟩)] 29)).alloc (.cells #[.int .i64 v, .int .i64 s, .int .i64 p, .slice A vs.length cc] 48)).heap.size = w.heap.size + 2 := by simp
  rw [hz] at x7
  have HF0 := Lib.hid (fun k (hk : w.heap.size ≤ k) => show offT T bm k from h.fresh hk)
  have HBW := Lib.hid h
  have HVT := Lib.hid hv
  have HSG := Lib.hid hs
  clear x1 x2 x3 hz h hv hs
  go_enter Tryz.func23, Tryz.ntmps23
  go_upto_region 1 with fail
  generalize hw0 : ((w.alloc _).alloc _).alloc _ = w0 at *
  have HX := Lib.hid (show Held T bm w0 w.heap.size #[.pointer (some ⟨g, 0, none⟩), .pointer (some ⟨g2, 0, none⟩)] 29 from ⟨x4, HF0.out _ (Nat.le_refl _)⟩)
  have HC := Lib.hid (show Held T bm w0 (w.heap.size + 1) #[.int .i64 v, .int .i64 s, .int .i64 p, .slice A vs.length cc] 48 from ⟨x5, HF0.out _ (by omega)⟩)
  have HZ := Lib.hid (show Held T bm w0 (w.heap.size + 2) #[.int .i64 0, .slice none 0 0, .slice none 0 0] 50 from ⟨x7, HF0.out _ (by omega)⟩)
  have HBT := Lib.hid (HBW.out.below x6)
  have HTN := Lib.hid (show Turn T bm w w0 T from Turn.below x6)
  clear x4 x5 x6 x7 hw0
  have x0 := rowCell HX.out.at_ 0 (.pointer (some ⟨g, 0, none⟩)) rfl
  have x1 := rowCell HX.out.at_ 1 (.pointer (some ⟨g2, 0, none⟩)) rfl
  have HLL := Lib.hid hL
  go_upto_region 2 with (first
    | (go_at_call 38; go_loud (refine (sign_sm HBT.out 1000 (by unfold ok64; omega) mdReq ⟨(none, 0), (none, 0), (none, 0), (none, 0)⟩ ⟨Bs.nil _, RowM.none _ _ _, RowM.none _ _ _, RowM.none _ _ _⟩ mdM1 (by have := HLL.out; omega)).mono ?_; rintro e w2 ⟨v1, T1, rfl, hf, hb, ht⟩; obtain ⟨A1, c1, rfl, -⟩ := hf.bs.open; have HV1 := Lib.hid hf.held; have HX := Lib.hid (HX.out.turn ht); have HC := Lib.hid (HC.out.turn ht); have HZ := Lib.hid (HZ.out.turn ht); have HBT := Lib.hid hb; have HTN := Lib.hid (HTN.out.trans ht); clear hf hb ht)))
  have HE1 := Lib.hid (Held.new (cs := #[.int .i64 1000, .slice A1 (encD mdReq).length c1]) (t := 40) HBT.out)
  have HX := Lib.hid (HX.out.below (alloc1B _ (.cells #[.int .i64 1000, .slice A1 (encD mdReq).length c1] 40)))
  have HC := Lib.hid (HC.out.below (alloc1B _ (.cells #[.int .i64 1000, .slice A1 (encD mdReq).length c1] 40)))
  have HZ := Lib.hid (HZ.out.below (alloc1B _ (.cells #[.int .i64 1000, .slice A1 (encD mdReq).length c1] 40)))
  have HV1 := Lib.hid (HV1.out.below (alloc1B _ (.cells #[.int .i64 1000, .slice A1 (encD mdReq).length c1] 40)))
  have HBT := Lib.hid (HBT.out.below (alloc1B _ (.cells #[.int .i64 1000, .slice A1 (encD mdReq).length c1] 40)))
  have HTN := Lib.hid (HTN.out.trans (Turn.below (alloc1B _ (.cells #[.int .i64 1000, .slice A1 (encD mdReq).length c1] 40))))
  generalize hwn : w2.alloc _ = wB at *
  clear hwn
  clear x0 x1
  have HBL := Lib.hid (show w.heap.size + 2 < wB.heap.size ∧ g < wB.heap.size ∧ w2.heap.size < wB.heap.size from ⟨HZ.out.lt, HBT.out.au.1.lt, HE1.out.lt⟩)
  have HVL := Lib.hid (fun k hk => (HV1.out.own k hk).1)
  have q0 := rowCell HC.out.at_ 0 (.int .i64 v) rfl
  have q1 := rowCell HC.out.at_ 1 (.int .i64 s) rfl
  have q2 := rowCell HC.out.at_ 2 (.int .i64 p) rfl
  have q3 := rowCell HC.out.at_ 3 (.slice A vs.length cc) rfl
  have e0 := rowCell HE1.out.at_ 0 (.int .i64 1000) rfl
  have e1 := rowCell HE1.out.at_ 1 (.slice A1 (encD mdReq).length c1) rfl
  go_upto_region 3 with fail
  have HRW := Lib.hid (Held.new (cs := #[.int .i64 1000, .slice A1 (encD mdReq).length c1]) (t := 40) HBT.out)
  have HX := Lib.hid (HX.out.below (alloc1B _ (.cells #[.int .i64 1000, .slice A1 (encD mdReq).length c1] 40)))
  have HC := Lib.hid (HC.out.below (alloc1B _ (.cells #[.int .i64 1000, .slice A1 (encD mdReq).length c1] 40)))
  have HZ := Lib.hid (HZ.out.below (alloc1B _ (.cells #[.int .i64 1000, .slice A1 (encD mdReq).length c1] 40)))
  have HE1 := Lib.hid (HE1.out.below (alloc1B _ (.cells #[.int .i64 1000, .slice A1 (encD mdReq).length c1] 40)))
  have HV1 := Lib.hid (HV1.out.below (alloc1B _ (.cells #[.int .i64 1000, .slice A1 (encD mdReq).length c1] 40)))
  have HBT := Lib.hid (HBT.out.below (alloc1B _ (.cells #[.int .i64 1000, .slice A1 (encD mdReq).length c1] 40)))
  have HTN := Lib.hid (HTN.out.trans (Turn.below (alloc1B _ (.cells #[.int .i64 1000, .slice A1 (encD mdReq).length c1] 40))))
  have HM := Lib.hid (Held.new (cs := #[.int .i64 2, .int .i64 v, .int .i64 s, .int .i64 0, .int .i64 0, .string ⟨#[]⟩, .slice none 0 0, .int .i64 0, .int .i64 0, .slice (some ⟨wB.heap.size, 0, none⟩) 1 1, .slice none 0 0, .slice none 0 0]) (t := 57) HBT.out)
  have HX := Lib.hid (HX.out.below (alloc1B _ (.cells #[.int .i64 2, .int .i64 v, .int .i64 s, .int .i64 0, .int .i64 0, .string ⟨#[]⟩, .slice none 0 0, .int .i64 0, .int .i64 0, .slice (some ⟨wB.heap.size, 0, none⟩) 1 1, .slice none 0 0, .slice none 0 0] 57)))
  have HC := Lib.hid (HC.out.below (alloc1B _ (.cells #[.int .i64 2, .int .i64 v, .int .i64 s, .int .i64 0, .int .i64 0, .string ⟨#[]⟩, .slice none 0 0, .int .i64 0, .int .i64 0, .slice (some ⟨wB.heap.size, 0, none⟩) 1 1, .slice none 0 0, .slice none 0 0] 57)))
  have HZ := Lib.hid (HZ.out.below (alloc1B _ (.cells #[.int .i64 2, .int .i64 v, .int .i64 s, .int .i64 0, .int .i64 0, .string ⟨#[]⟩, .slice none 0 0, .int .i64 0, .int .i64 0, .slice (some ⟨wB.heap.size, 0, none⟩) 1 1, .slice none 0 0, .slice none 0 0] 57)))
  have HE1 := Lib.hid (HE1.out.below (alloc1B _ (.cells #[.int .i64 2, .int .i64 v, .int .i64 s, .int .i64 0, .int .i64 0, .string ⟨#[]⟩, .slice none 0 0, .int .i64 0, .int .i64 0, .slice (some ⟨wB.heap.size, 0, none⟩) 1 1, .slice none 0 0, .slice none 0 0] 57)))
  have HRW := Lib.hid (HRW.out.below (alloc1B _ (.cells #[.int .i64 2, .int .i64 v, .int .i64 s, .int .i64 0, .int .i64 0, .string ⟨#[]⟩, .slice none 0 0, .int .i64 0, .int .i64 0, .slice (some ⟨wB.heap.size, 0, none⟩) 1 1, .slice none 0 0, .slice none 0 0] 57)))
  have HV1 := Lib.hid (HV1.out.below (alloc1B _ (.cells #[.int .i64 2, .int .i64 v, .int .i64 s, .int .i64 0, .int .i64 0, .string ⟨#[]⟩, .slice none 0 0, .int .i64 0, .int .i64 0, .slice (some ⟨wB.heap.size, 0, none⟩) 1 1, .slice none 0 0, .slice none 0 0] 57)))
  have HBT := Lib.hid (HBT.out.below (alloc1B _ (.cells #[.int .i64 2, .int .i64 v, .int .i64 s, .int .i64 0, .int .i64 0, .string ⟨#[]⟩, .slice none 0 0, .int .i64 0, .int .i64 0, .slice (some ⟨wB.heap.size, 0, none⟩) 1 1, .slice none 0 0, .slice none 0 0] 57)))
  have HTN := Lib.hid (HTN.out.trans (Turn.below (alloc1B _ (.cells #[.int .i64 2, .int .i64 v, .int .i64 s, .int .i64 0, .int .i64 0, .string ⟨#[]⟩, .slice none 0 0, .int .i64 0, .int .i64 0, .slice (some ⟨wB.heap.size, 0, none⟩) 1 1, .slice none 0 0, .slice none 0 0] 57))))
  have hz1 : (wB.alloc (.cells #[.int .i64 1000, .slice A1 (encD mdReq).length c1] 40)).heap.size = wB.heap.size + 1 := by simp
  rw [hz1] at HM
  generalize hwn : (wB.alloc _).alloc _ = wC at *
  clear hwn
  clear hz1 q0 q1 q2 q3 e0 e1
  have m9 := rowCell HM.out.at_ 9 (.slice (some ⟨wB.heap.size, 0, none⟩) 1 1) rfl
  have HEK := Lib.hid (show EnvK wC (some ⟨wB.heap.size, 0, none⟩) 1 [(1000, mdL1)] from envK_row 0 HRW.out.at_ (by simp) (by omega) fun j hj => by
    obtain rfl : j = 0 := by simpa using hj
    exact ⟨rfl, _, rfl, HV1.out.bs⟩)
  go_upto_region 4 with (first
    | (go_at_call 37; go_loud (refine (show Calls _ _ _ wC (Tells mdD wC) from rhBatch_any (some ⟨wB.heap.size, 0, none⟩) 1 [(1000, mdL1)] wC HEK.out ⟨by simp, fun e he => by rw [List.mem_singleton.1 he]; have := mdE1.1; show mdL1.length ≤ _; omega⟩).mono ?_; rintro e w4 ⟨rfl, hb⟩; have HX := Lib.hid (HX.out.below hb); have HC := Lib.hid (HC.out.below hb); have HZ := Lib.hid (HZ.out.below hb); have HE1 := Lib.hid (HE1.out.below hb); have HRW := Lib.hid (HRW.out.below hb); have HM := Lib.hid (HM.out.below hb); have HV1 := Lib.hid (HV1.out.below hb); have HBT := Lib.hid (HBT.out.below hb); have HTN := Lib.hid (HTN.out.trans (Turn.below hb)); have m5 := rowCell HM.out.at_ 5 (.string ⟨#[]⟩) rfl; have f5 : w4.frozen? ⟨wB.heap.size + 1, 5, none⟩ = false := (by have := HM.out.at_; simp [World.frozen?, this]); clear hb)))
  have ho4 : Only (wB.heap.size + 1) w4 (w4.setCell ⟨wB.heap.size + 1, 5, none⟩ (.string (strB mdD))) := (Only.refl _ _).set 5 _
  have HM5 := Lib.hid (show Held T1 bm (w4.setCell ⟨wB.heap.size + 1, 5, none⟩ (.string (strB mdD))) (wB.heap.size + 1) #[.int .i64 2, .int .i64 v, .int .i64 s, .int .i64 0, .int .i64 0, .string (strB mdD), .slice none 0 0, .int .i64 0, .int .i64 0, .slice (some ⟨wB.heap.size, 0, none⟩) 1 1, .slice none 0 0, .slice none 0 0] 57 from ⟨set_at HM.out.at_ 5 _, HM.out.off⟩)
  have HLX := HBL.out
  have HX := Lib.hid (HX.out.only ho4 (by omega))
  have HC := Lib.hid (HC.out.only ho4 (by omega))
  have HZ := Lib.hid (HZ.out.only ho4 (by omega))
  have HE1 := Lib.hid (HE1.out.only ho4 (by omega))
  have HRW := Lib.hid (HRW.out.only ho4 (by omega))
  have HV1 := Lib.hid (HV1.out.only ho4 (fun k hk => by have := HVL.out k hk; omega))
  have HTN := Lib.hid (HTN.out.only ho4 (by omega))
  have HBT := Lib.hid (HBT.out.only ho4 (fun h => HM.out.off (.inl h)) (by omega) (fun h => HM.out.off (.inr h)))
  generalize w4.setCell _ _ = w5 at *
  clear HM HEK m9 m5 f5 ho4 HLX HVL
  have q0 := rowCell HC.out.at_ 0 (.int .i64 v) rfl
  have q1 := rowCell HC.out.at_ 1 (.int .i64 s) rfl
  have q2 := rowCell HC.out.at_ 2 (.int .i64 p) rfl
  have q3 := rowCell HC.out.at_ 3 (.slice A vs.length cc) rfl
  go_upto_if 29 with fail
  go_cut [7] from 29 to 34 (fun s7 wx => s7 = .int .i64 (mdP f p v) ∧ wx = w5)
  case first =>
    obtain ⟨vt, Et, hdt, -⟩ := HBT.out.dt
    have HPR := Lib.hid (rPrimary_any hdt.head v (by unfold ok64; omega))
    have x1 := rowCell HX.out.at_ 1 (.pointer (some ⟨g2, 0, none⟩)) rfl
    clear hdt
    by_cases hp0 : p < 0
    · have HMP := Lib.hid (show mdP f p v = primE f v from if_pos hp0)
      go_wp2_with (go_at_call 39; refine HPR.out.mono ?_; rintro e wj ⟨rfl, hww⟩; rw [hww]; clear hww wj)
      go_meet
      exact ⟨by rw [HMP.out], rfl⟩
    · have HMP := Lib.hid (show mdP f p v = p from if_neg hp0)
      go_wp2_with fail
      go_meet
      exact ⟨by rw [HMP.out], rfl⟩
  case rest =>
  obtain ⟨rfl, rfl⟩ := hcut
  have HP64 := Lib.hid (show ok64 (mdP f p v) from mdP_ok hp hb1 HBT.out.au.1.2)
  have HL1 := Lib.hid (show (signT f c 1000 (encD mdReq) L).length ≤ 1001 from Nat.le_trans (signT_length f c 1000 (encD mdReq) L) (by have := HLL.out; omega))
  have x0 := rowCell HX.out.at_ 0 (.pointer (some ⟨g, 0, none⟩)) rfl
  have x1 := rowCell HX.out.at_ 1 (.pointer (some ⟨g2, 0, none⟩)) rfl
  go_upto_region 8 with (first
    | (go_at_call 38; go_loud (refine (sign_sm HBT.out (mdP f p v) HP64.out (mdPre v s) ⟨(none, 0), (some ⟨wB.heap.size, 0, none⟩, 1), (none, 0), (none, 0)⟩ ⟨Bs.nil _, envK_row 0 HRW.out.at_ (by show (1 : Nat) ≤ 1; omega) (show (1 : Nat) ≤ 1000 by decide) (fun j hj => (by obtain rfl : j = 0 := (by have hj : j < 1 := hj; omega); exact ⟨rfl, _, rfl, HV1.out.bs⟩)), RowM.none _ _ _, RowM.none _ _ _⟩ (mdM2 v s) (by have := HL1.out; omega)).mono ?_; rintro e w6 ⟨v2, T2, rfl, hf, hb, ht⟩; obtain ⟨A2, c2, rfl, -⟩ := hf.bs.open; have HV2 := Lib.hid hf.held; have HF2 := Lib.hid (fun kk hk => (⟨Nat.lt_of_lt_of_le HZ.out.lt (hf.new kk hk).1, (hf.new kk hk).2.1⟩ : w.heap.size + 2 < kk ∧ kk < w6.heap.size)); have HX := Lib.hid (HX.out.turn ht); have HC := Lib.hid (HC.out.turn ht); have HZ := Lib.hid (HZ.out.turn ht); have HE1 := Lib.hid (HE1.out.turn ht); have HRW := Lib.hid (HRW.out.turn ht); have HM5 := Lib.hid (HM5.out.turn ht); have HV1 := Lib.hid (HV1.out.turn ht); have HBT := Lib.hid hb; have HTN := Lib.hid (HTN.out.trans ht); clear hf hb ht))
    | (refine wpList_load_mid rfl 57 _ rfl (wB.heap.size + 1) 0 rfl _ _ (heap_all HM5.out.at_) Tryz.underlying57 rfl (by kernel_rfl) ?_))
  have HCR := Lib.hid (Held.new (cs := #[.int .i64 (mdP f p v), .slice A2 (encD (mdPre v s)).length c2, .slice none 0 0]) (t := 50) HBT.out)
  have HX := Lib.hid (HX.out.below (alloc1B _ (.cells #[.int .i64 (mdP f p v), .slice A2 (encD (mdPre v s)).length c2, .slice none 0 0] 50)))
  have HC := Lib.hid (HC.out.below (alloc1B _ (.cells #[.int .i64 (mdP f p v), .slice A2 (encD (mdPre v s)).length c2, .slice none 0 0] 50)))
  have HZ := Lib.hid (HZ.out.below (alloc1B _ (.cells #[.int .i64 (mdP f p v), .slice A2 (encD (mdPre v s)).length c2, .slice none 0 0] 50)))
  have HE1 := Lib.hid (HE1.out.below (alloc1B _ (.cells #[.int .i64 (mdP f p v), .slice A2 (encD (mdPre v s)).length c2, .slice none 0 0] 50)))
  have HRW := Lib.hid (HRW.out.below (alloc1B _ (.cells #[.int .i64 (mdP f p v), .slice A2 (encD (mdPre v s)).length c2, .slice none 0 0] 50)))
  have HM5 := Lib.hid (HM5.out.below (alloc1B _ (.cells #[.int .i64 (mdP f p v), .slice A2 (encD (mdPre v s)).length c2, .slice none 0 0] 50)))
  have HV1 := Lib.hid (HV1.out.below (alloc1B _ (.cells #[.int .i64 (mdP f p v), .slice A2 (encD (mdPre v s)).length c2, .slice none 0 0] 50)))
  have HV2 := Lib.hid (HV2.out.below (alloc1B _ (.cells #[.int .i64 (mdP f p v), .slice A2 (encD (mdPre v s)).length c2, .slice none 0 0] 50)))
  have HBT := Lib.hid (HBT.out.below (alloc1B _ (.cells #[.int .i64 (mdP f p v), .slice A2 (encD (mdPre v s)).length c2, .slice none 0 0] 50)))
  have HTN := Lib.hid (HTN.out.trans (Turn.below (alloc1B _ (.cells #[.int .i64 (mdP f p v), .slice A2 (encD (mdPre v s)).length c2, .slice none 0 0] 50))))
  generalize hwn : w6.alloc _ = wD at *
  clear hwn
  clear x0 x1 q0 q1 q2 q3
  have HBD := Lib.hid (show w.heap.size + 2 < wD.heap.size ∧ wB.heap.size + 1 < wD.heap.size ∧ w6.heap.size < wD.heap.size from ⟨HZ.out.lt, HM5.out.lt, HCR.out.lt⟩)
  have HI0 := Lib.hid (show MdI N g bm g2 f c v s p vs L T w wD.heap.size wB.heap.size w6.heap.size A cc (.slice A2 (encD (mdPre v s)).length c2) 0 (.slice none 0 0) [] T2 wD from
    ⟨HBT.out, HTN.out, HX.out, HC.out, HZ.out, HM5.out, HCR.out, HV2.out, World.ownsRow_nil _ _ _ _, (by intro kk hk; cases hk), rfl, (fun j hj => absurd hj (Nat.not_lt_zero _)), (fun kk hk => by cases hk), (fun j hj => absurd hj (Nat.not_lt_zero _)), (fun kk hk => (HF2.out kk hk).1), (fun j hj => absurd hj (Nat.not_lt_zero _)), (fun kk hk => by have := (HF2.out kk hk).2; omega), (fun j hj => absurd hj (Nat.not_lt_zero _))⟩)
  clear HX HC HZ HE1 HRW HM5 HCR HV1 HV2 HBT HTN
  go_wp2
  go_loopw [9] (fun i wr => ∃ (k : Nat) (vr : Value) (xs : List (Int × Value)) (T' : Nat → Prop), k ≤ vs.length ∧ i = .int .i64 k ∧ wD.heap.size ≤ wr.heap.size ∧ MdI N g bm g2 f c v s p vs L T w wD.heap.size wB.heap.size w6.heap.size A cc (.slice A2 (encD (mdPre v s)).length c2) k vr xs T' wr) (fun i _ => vs.length - (intOf i).toNat)
  case atStart => exact ⟨0, _, [], T2, Nat.zero_le _, rfl, Nat.le_refl _, HI0.out⟩
  case round =>
    obtain ⟨k, vr, xs, T', hk, rfl, hDs, hI⟩ := hrel
    have HI := Lib.hid hI
    have HDS := Lib.hid hDs
    clear hDs
    have HVK := Lib.hid (HVT.out _ (hI.tn.lowB HBW.out))
    clear hI
    by_cases hlt : k < vs.length
    · have hltI : (k : Int) < (vs.length : Int) := by omega
      have HLT := Lib.hid hlt
      obtain ⟨ad, rfl, hbl, hvt⟩ := HVK.out.2.2.2 k hlt
      obtain ⟨t0, t1, t2, t3, t4, t5⟩ := hvt
      have HX64 := Lib.hid (HSG.out _ (List.getElem_mem hlt))
      have q0 := rowCell HI.out.hc.at_ 0 (.int .i64 v) rfl
      have q1 := rowCell HI.out.hc.at_ 1 (.int .i64 s) rfl
      have q3 := rowCell HI.out.hc.at_ 3 (.slice (some ad) vs.length cc) rfl
      have q5 := rowCell HI.out.hm.at_ 5 (.string (strB mdD)) rfl
      have HMV := Lib.hid (show mdVote v s vs[k] = mdVote v s vs[k] from rfl)
      generalize hxk : vs[k] = x at *
      have hw1 : IntKind.i64.wrap (v + x.v.tmod 3) = v + x.v.tmod 3 := by have h1 := Int.tmod_lt_of_pos x.v (show (0 : Int) < 3 by decide); have h2 := tmod3_lo x.v; rw [IntKind.wrap_i64]; omega
      have hw2 : IntKind.i64.wrap (s + x.q.tmod 3) = s + x.q.tmod 3 := by have h1 := Int.tmod_lt_of_pos x.q (show (0 : Int) < 3 by decide); have h2 := tmod3_lo x.q; rw [IntKind.wrap_i64]; omega
      have HXK := Lib.hid hxk
      clear hbl hxk
      go_upto_region 12 with fail
      have HBX := Lib.hid (Held.new (cs := #[.int .i64 x.s, .int .i64 x.k, .int .i64 x.v, .int .i64 x.q, .bool x.o, .bool x.u]) (t := 105) HI.out.bt)
      have HJ := Lib.hid (HI.out.below (alloc1B wr (.cells #[.int .i64 x.s, .int .i64 x.k, .int .i64 x.v, .int .i64 x.q, .bool x.o, .bool x.u] 105)))
      have HBe := Lib.hid (alloc1B wr (.cells #[.int .i64 x.s, .int .i64 x.k, .int .i64 x.v, .int .i64 x.q, .bool x.o, .bool x.u] 105))
      generalize hwn : wr.alloc _ = wa at *
      have HSz := Lib.hid (show wr.heap.size < wa.heap.size from HBX.out.lt)
      clear hwn t0 t1 t2 t3 t4 t5 q0 q1 q3 q5
      have q0 := rowCell HJ.out.hc.at_ 0 (.int .i64 v) rfl
      have q1 := rowCell HJ.out.hc.at_ 1 (.int .i64 s) rfl
      have q5 := rowCell HJ.out.hm.at_ 5 (.string (strB mdD)) rfl
      have t1 := rowCell HBX.out.at_ 1 (.int .i64 x.k) rfl
      have t2 := rowCell HBX.out.at_ 2 (.int .i64 x.v) rfl
      have t3 := rowCell HBX.out.at_ 3 (.int .i64 x.q) rfl
      go_upto_region 13 with fail
      have HBM := Lib.hid (Held.new (cs := #[.int .i64 x.k, .int .i64 (v + x.v.tmod 3), .int .i64 (s + x.q.tmod 3), .int .i64 0, .int .i64 0, .string (strB mdD), .slice none 0 0, .int .i64 0, .int .i64 0, .slice none 0 0, .slice none 0 0, .slice none 0 0]) (t := 57) HJ.out.bt)
      have HBX := Lib.hid (HBX.out.below (alloc1B wa (.cells #[.int .i64 x.k, .int .i64 (v + x.v.tmod 3), .int .i64 (s + x.q.tmod 3), .int .i64 0, .int .i64 0, .string (strB mdD), .slice none 0 0, .int .i64 0, .int .i64 0, .slice none 0 0, .slice none 0 0, .slice none 0 0] 57)))
      have HJ := Lib.hid (HJ.out.below (alloc1B wa (.cells #[.int .i64 x.k, .int .i64 (v + x.v.tmod 3), .int .i64 (s + x.q.tmod 3), .int .i64 0, .int .i64 0, .string (strB mdD), .slice none 0 0, .int .i64 0, .int .i64 0, .slice none 0 0, .slice none 0 0, .slice none 0 0] 57)))
      have HBe := Lib.hid (bel2M HBe.out (alloc1B wa (.cells #[.int .i64 x.k, .int .i64 (v + x.v.tmod 3), .int .i64 (s + x.q.tmod 3), .int .i64 0, .int .i64 0, .string (strB mdD), .slice none 0 0, .int .i64 0, .int .i64 0, .slice none 0 0, .slice none 0 0, .slice none 0 0] 57)))
      generalize hwn : wa.alloc _ = wb at *
      clear hwn q0 q1 q5 t1 t2 t3
      clear HJ
      have t4 := rowCell HBX.out.at_ 4 (.bool x.o) rfl
      have t5 := rowCell HBM.out.at_ 5 (.string (strB mdD)) rfl
      have f5 : wb.frozen? ⟨wa.heap.size, 5, none⟩ = false := (by have := HBM.out.at_; simp [World.frozen?, this])
      generalize Value.agg #[.int .i64 x.s, .int .i64 x.k, .int .i64 x.v, .int .i64 x.q, .bool x.o, .bool x.u] = vag
      go_upto_if 70 with fail
      go_cut [] from 70 to 71 (fun wx => Below wr.heap.size wr wx ∧ Held T' bm wx wr.heap.size #[.int .i64 x.s, .int .i64 x.k, .int .i64 x.v, .int .i64 x.q, .bool x.o, .bool x.u] 105 ∧ Held T' bm wx wa.heap.size #[.int .i64 x.k, .int .i64 (v + x.v.tmod 3), .int .i64 (s + x.q.tmod 3), .int .i64 0, .int .i64 0, .string (strB (if x.o = true then mdOther else mdD)), .slice none 0 0, .int .i64 0, .int .i64 0, .slice none 0 0, .slice none 0 0, .slice none 0 0] 57)
      case first =>
        generalize hbo : x.o = bo at *
        clear hbo
        cases bo
        case true =>
          go_wp2_with fail
          go_meet
          have ho : Only wa.heap.size wb (wb.setCell ⟨wa.heap.size, 5, none⟩ (.string (strB mdOther))) := (Only.refl _ _).set 5 _
          exact ⟨onlyBelow HBe.out ho (Nat.le_of_lt HSz.out) (Nat.le_refl _), HBX.out.only ho (by have := HSz.out; omega), (show Held _ _ _ _ _ _ from ⟨set_at HBM.out.at_ 5 _, HBM.out.off⟩)⟩
        case false =>
          go_wp2_with fail
          go_meet
          exact ⟨HBe.out, HBX.out, HBM.out⟩
      case rest =>
      clear HBe HBX HBM t4 t5 f5
      obtain ⟨hbe, hbx, hbm⟩ := hcut
      have HBe := Lib.hid hbe
      have HBX := Lib.hid hbx
      have HBM := Lib.hid hbm
      clear hbe hbx hbm
      generalize hdg : (if x.o = true then mdOther else mdD) = dg at *
      have HDG := Lib.hid hdg
      clear hdg
      have t1 := rowCell HBX.out.at_ 1 (.int .i64 x.k) rfl
      have m1 := rowCell HBM.out.at_ 1 (.int .i64 (v + x.v.tmod 3)) rfl
      have f1 : wc.frozen? ⟨wa.heap.size, 1, none⟩ = false := (by have := HBM.out.at_; simp [World.frozen?, this])
      go_upto_if 74 with fail
      go_cut [] from 74 to 75 (fun wx => Below wr.heap.size wr wx ∧ Held T' bm wx wr.heap.size #[.int .i64 x.s, .int .i64 x.k, .int .i64 x.v, .int .i64 x.q, .bool x.o, .bool x.u] 105 ∧ Held T' bm wx wa.heap.size #[.int .i64 x.k, .int .i64 (if x.k = 5 then 0 else v + x.v.tmod 3), .int .i64 (s + x.q.tmod 3), .int .i64 0, .int .i64 0, .string (strB dg), .slice none 0 0, .int .i64 0, .int .i64 0, .slice none 0 0, .slice none 0 0, .slice none 0 0] 57)
      case first =>
        by_cases hk5 : x.k = 5
        · have hb1 : (x.k == 5) = true := by rw [hk5]; rfl
          have hb2 : decide (x.k = 5) = true := by rw [hk5]; rfl
          have hif : (if x.k = 5 then 0 else v + x.v.tmod 3) = 0 := if_pos hk5
          have HIF := Lib.hid hif
          clear hk5 hif
          go_wp2_with fail
          go_meet
          have ho : Only wa.heap.size wc (wc.setCell ⟨wa.heap.size, 1, none⟩ (.int .i64 0)) := (Only.refl _ _).set 1 _
          exact ⟨onlyBelow HBe.out ho (Nat.le_of_lt HSz.out) (Nat.le_refl _), HBX.out.only ho (by have := HSz.out; omega), by rw [HIF.out]; exact ⟨set_at HBM.out.at_ 1 _, HBM.out.off⟩⟩
        · have hb1 : (x.k == 5) = false := by simpa using hk5
          have hb2 : decide (x.k = 5) = false := by simpa using hk5
          have HIF := Lib.hid (show (if x.k = 5 then 0 else v + x.v.tmod 3) = v + x.v.tmod 3 from if_neg hk5)
          clear hk5
          go_wp2_with fail
          go_meet
          exact ⟨HBe.out, HBX.out, by rw [HIF.out]; exact HBM.out⟩
      case rest =>
      clear HBe HBX HBM t1 m1 f1
      obtain ⟨hbe, hbx, hbm⟩ := hcut
      have HBe := Lib.hid hbe
      have HBX := Lib.hid hbx
      have HBM := Lib.hid hbm
      clear hbe hbx hbm
      generalize hvw : (if x.k = 5 then 0 else v + x.v.tmod 3) = vw at *
      have HVW := Lib.hid hvw
      clear hvw
      have HBC := Lib.hid (show Below wr.heap.size wr wc.drew from HBe.out.drew)
      have HVS := Lib.hid (own_slice HI.out.own)
      obtain ⟨AV, cV, rfl⟩ := HVS.out
      clear HVS
      have HIC := Lib.hid (HI.out.below HBC.out)
      have HH := Lib.hid (show Held T' bm wc.drew w.heap.size #[.pointer (some ⟨g, 0, none⟩), .pointer (some ⟨g2, 0, none⟩)] 29 ∧ Held T' bm wc.drew wr.heap.size #[.int .i64 x.s, .int .i64 x.k, .int .i64 x.v, .int .i64 x.q, .bool x.o, .bool x.u] 105 ∧ Held T' bm wc.drew wa.heap.size #[.int .i64 x.k, .int .i64 vw, .int .i64 (s + x.q.tmod 3), .int .i64 0, .int .i64 0, .string (strB dg), .slice none 0 0, .int .i64 0, .int .i64 0, .slice none 0 0, .slice none 0 0, .slice none 0 0] 57 from ⟨HIC.out.hx, ⟨HBX.out.at_, HBX.out.off⟩, ⟨HBM.out.at_, HBM.out.off⟩⟩)
      have HKS := Lib.hid (show ∀ (W : World) (T9 : Nat → Prop), Held T9 bm W w.heap.size #[.pointer (some ⟨g, 0, none⟩), .pointer (some ⟨g2, 0, none⟩)] 29 ∧ Held T9 bm W wr.heap.size #[.int .i64 x.s, .int .i64 x.k, .int .i64 x.v, .int .i64 x.q, .bool x.o, .bool x.u] 105 ∧ Held T9 bm W wa.heap.size #[.int .i64 x.k, .int .i64 vw, .int .i64 (s + x.q.tmod 3), .int .i64 0, .int .i64 0, .string (strB dg), .slice none 0 0, .int .i64 0, .int .i64 0, .slice none 0 0, .slice none 0 0, .slice none 0 0] 57 → (fun W => W.cell? ⟨w.heap.size, 0, none⟩ = some (.pointer (some ⟨g, 0, none⟩)) ∧ W.cell? ⟨w.heap.size, 1, none⟩ = some (.pointer (some ⟨g2, 0, none⟩)) ∧ W.cell? ⟨wr.heap.size, 0, none⟩ = some (.int .i64 x.s) ∧ W.cell? ⟨wr.heap.size, 5, none⟩ = some (.bool x.u) ∧ W.cell? ⟨wa.heap.size, 0, none⟩ = some (.int .i64 x.k) ∧ W.cell? ⟨wa.heap.size, 1, none⟩ = some (.int .i64 vw) ∧ W.cell? ⟨wa.heap.size, 2, none⟩ = some (.int .i64 (s + x.q.tmod 3)) ∧ W.cell? ⟨wa.heap.size, 3, none⟩ = some (.int .i64 0) ∧ W.cell? ⟨wa.heap.size, 4, none⟩ = some (.int .i64 0) ∧ W.cell? ⟨wa.heap.size, 5, none⟩ = some (.string (strB dg)) ∧ W.cell? ⟨wa.heap.size, 6, none⟩ = some (.slice none 0 0) ∧ W.cell? ⟨wa.heap.size, 7, none⟩ = some (.int .i64 0) ∧ W.cell? ⟨wa.heap.size, 8, none⟩ = some (.int .i64 0) ∧ W.cell? ⟨wa.heap.size, 9, none⟩ = some (.slice none 0 0) ∧ W.cell? ⟨wa.heap.size, 10, none⟩ = some (.slice none 0 0) ∧ W.cell? ⟨wa.heap.size, 11, none⟩ = some (.slice none 0 0)) W from fun W T9 h => ⟨rowCell h.1.at_ 0 _ rfl, rowCell h.1.at_ 1 _ rfl, rowCell h.2.1.at_ 0 _ rfl, rowCell h.2.1.at_ 5 _ rfl, rowCell h.2.2.at_ 0 _ rfl, rowCell h.2.2.at_ 1 _ rfl, rowCell h.2.2.at_ 2 _ rfl, rowCell h.2.2.at_ 3 _ rfl, rowCell h.2.2.at_ 4 _ rfl, rowCell h.2.2.at_ 5 _ rfl, rowCell h.2.2.at_ 6 _ rfl, rowCell h.2.2.at_ 7 _ rfl, rowCell h.2.2.at_ 8 _ rfl, rowCell h.2.2.at_ 9 _ rfl, rowCell h.2.2.at_ 10 _ rfl, rowCell h.2.2.at_ 11 _ rfl⟩)
      have k2 := rowCell HIC.out.hcr.at_ 2 (.slice AV xs.length cV) rfl
      have HNE := Lib.hid (show w.heap.size + 2 < w6.heap.size ∧ w6.heap.size < wD.heap.size from ⟨HZ.out.lt, HBD.out.2.2⟩)
      have HEQ := Lib.hid (show (⟨x.k, vw, s + x.q.tmod 3, 0, 0, dg, [], (0, 0), [], [], []⟩ : Msg) = mdVote v s vs[k] from by rw [HXK.out]; unfold mdVote; rw [HVW.out, HDG.out])
      have HSM := Lib.hid (show SmD (⟨x.k, vw, s + x.q.tmod 3, 0, 0, dg, [], (0, 0), [], [], []⟩ : Msg) from HEQ.out ▸ mdM3 v s vs[k])
      have HLN := Lib.hid (show (mdL f c v s p L (vs.take k)).length ≤ 1000000 from by have h1 := mdL_len f c v s p L (vs.take k); rw [List.length_take] at h1; have := hL; omega)
      have HN12 := Lib.hid (show xs.length + 1 ≤ 12 from by have := HI.out.xl; have := HLT.out; omega)
      obtain ⟨i1, hi1, hz1, hsz1, hby1⟩ := info_partsG envinfoB
      clear HBX HBM HBe
      go_upto_region 17 with fail
      refine wp_region_held_drew (S := (fun W => W.cell? ⟨w.heap.size, 0, none⟩ = some (.pointer (some ⟨g, 0, none⟩)) ∧ W.cell? ⟨w.heap.size, 1, none⟩ = some (.pointer (some ⟨g2, 0, none⟩)) ∧ W.cell? ⟨wr.heap.size, 0, none⟩ = some (.int .i64 x.s) ∧ W.cell? ⟨wr.heap.size, 5, none⟩ = some (.bool x.u) ∧ W.cell? ⟨wa.heap.size, 0, none⟩ = some (.int .i64 x.k) ∧ W.cell? ⟨wa.heap.size, 1, none⟩ = some (.int .i64 vw) ∧ W.cell? ⟨wa.heap.size, 2, none⟩ = some (.int .i64 (s + x.q.tmod 3)) ∧ W.cell? ⟨wa.heap.size, 3, none⟩ = some (.int .i64 0) ∧ W.cell? ⟨wa.heap.size, 4, none⟩ = some (.int .i64 0) ∧ W.cell? ⟨wa.heap.size, 5, none⟩ = some (.string (strB dg)) ∧ W.cell? ⟨wa.heap.size, 6, none⟩ = some (.slice none 0 0) ∧ W.cell? ⟨wa.heap.size, 7, none⟩ = some (.int .i64 0) ∧ W.cell? ⟨wa.heap.size, 8, none⟩ = some (.int .i64 0) ∧ W.cell? ⟨wa.heap.size, 9, none⟩ = some (.slice none 0 0) ∧ W.cell? ⟨wa.heap.size, 10, none⟩ = some (.slice none 0 0) ∧ W.cell? ⟨wa.heap.size, 11, none⟩ = some (.slice none 0 0))) (by kernel_rfl) (HKS.out _ _ HH.out) (fun hHeld => ?_)
      refine tk 0 ?_
      (try simp only [Act.put, sA, sB, sC])
      refine tk 2 ?_
      (try simp only [Act.put, sA, sB, sC])
      refine tk 3 ?_
      (try simp only [Act.put, sA, sB, sC])
      refine tk 4 ?_
      (try simp only [Act.put, sA, sB, sC])
      refine tk 5 ?_
      (try simp only [Act.put, sA, sB, sC])
      refine tk 6 ?_
      (try simp only [Act.put, sA, sB, sC])
      refine tk 7 ?_
      (try simp only [Act.put, sA, sB, sC])
      refine tk 8 ?_
      (try simp only [Act.put, sA, sB, sC])
      refine tk 9 ?_
      (try simp only [Act.put, sA, sB, sC])
      refine wpAnyH_ready (rs := [1, 10]) (by kernel_rfl) (by simp) ?_
      refine AllReadyH.cons (o := ?o10) ?g10 (fun K hK => ?j10) (AllReadyH.cons (o := ?o11) ?g11 (fun K hK => ?j11) AllReadyH.nil)
      case g10 => (simp only [gA, gB, gC]; rfl)
      case g11 => (simp only [gA, gB, gC]; rfl)
      ·
       go_simp
       refine hK.out _ _ ?_ (fun hHeld => ?_)
       · (try dsimp only); exact HKS.out _ _ HH.out
       clear hK K
       (try simp only [Act.put, sA, sB, sC])
       refine wpAnyH_ready (rs := [10]) (by kernel_rfl) (by simp) ?_
       refine AllReadyH.cons (o := ?o12) ?g12 (fun K hK => ?j12) AllReadyH.nil
       case g12 => (simp only [gA, gB, gC]; rfl)
       go_simp
       (go_at_call 55; go_loud (refine (said_sm HIC.out.bt x.s (!x.u) HX64.out (⟨x.k, vw, s + x.q.tmod 3, 0, 0, dg, [], (0, 0), [], [], []⟩ : Msg) ⟨(none, 0), (none, 0), (none, 0), (none, 0)⟩ ⟨Bs.nil _, RowM.none _ _ _, RowM.none _ _ _, RowM.none _ _ _⟩ HSM.out HLN.out).mono ?_; rw [HEQ.out]))
       rintro e w5 ⟨v5, T5, rfl, hf, hb, ht⟩
       obtain ⟨A5, c5, rfl, -⟩ := hf.bs.open
       have HF5 := Lib.hid hf
       have HT5 := Lib.hid ht
       have HB5 := Lib.hid hb
       have HH5 := Lib.hid (show Held T5 bm w5 w.heap.size #[.pointer (some ⟨g, 0, none⟩), .pointer (some ⟨g2, 0, none⟩)] 29 ∧ Held T5 bm w5 wr.heap.size #[.int .i64 x.s, .int .i64 x.k, .int .i64 x.v, .int .i64 x.q, .bool x.o, .bool x.u] 105 ∧ Held T5 bm w5 wa.heap.size #[.int .i64 x.k, .int .i64 vw, .int .i64 (s + x.q.tmod 3), .int .i64 0, .int .i64 0, .string (strB dg), .slice none 0 0, .int .i64 0, .int .i64 0, .slice none 0 0, .slice none 0 0, .slice none 0 0] 57 from ⟨HH.out.1.turn ht, HH.out.2.1.turn ht, HH.out.2.2.turn ht⟩)
       have HC5 := Lib.hid (HIC.out.hcr.turn ht)
       have k2 := rowCell HC5.out.at_ 2 (.slice AV xs.length cV) rfl
       have HO5 := Lib.hid (show w5.ownsRow wD.heap.size 40 2 (.slice AV xs.length cV) xs.length (flatE xs) from own_keep HIC.out.own fun kk hkk => ht.off.block kk (HIC.out.own.lt kk hkk).2 (HIC.out.off kk hkk))
       have k3 := rowCell (HC5.out.below (alloc1B w5 (.cells #[.int .i64 x.s, .slice A5 (encD (mdVote v s vs[k])).length c5] 40))).at_ 2 (.slice AV xs.length cV) rfl
       clear hf hb ht
       have HMB := Lib.hid (show Bth w5 N g bm g2 f c (mdS f c v s (mdL f c v s p L (vs.take k)) vs[k]) T5 from by unfold mdS; rw [HXK.out] at HB5 ⊢; exact HB5.out)
       refine hK.out _ _ ?_ (fun hHeld => ?_)
       · (try dsimp only); exact HKS.out _ _ HH5.out
       clear hK K
       (try simp only [Act.put, sA, sB, sC])
       refine wpAnyH_ready (rs := [11]) (by kernel_rfl) (by simp) ?_
       refine AllReadyH.cons (o := ?o13) ?g13 (fun K hK => ?j13) AllReadyH.nil
       case g13 => (simp only [gA, gB, gC]; rfl)
       go_simp
       refine hK.out _ _ ?_ (fun hHeld => ?_)
       · (try dsimp only); exact HKS.out _ _ ⟨HH5.out.1.below (alloc1B w5 (.cells #[.int .i64 x.s, .slice A5 (encD (mdVote v s vs[k])).length c5] 40)), HH5.out.2.1.below (alloc1B w5 (.cells #[.int .i64 x.s, .slice A5 (encD (mdVote v s vs[k])).length c5] 40)), HH5.out.2.2.below (alloc1B w5 (.cells #[.int .i64 x.s, .slice A5 (encD (mdVote v s vs[k])).length c5] 40))⟩
       clear hK K
       (try simp only [Act.put, sA, sB, sC])
       refine wpAnyH_ready (rs := [12]) (by kernel_rfl) (by simp) ?_
       refine AllReadyH.cons (o := ?o14) ?g14 (fun K hK => ?j14) AllReadyH.nil
       case g14 => (simp only [gA, gB, gC]; rfl)
       refine step_append2 rfl (.tmp 77) (.tmp 87) 31 rfl wD.heap.size 40 i1 (.agg #[.int .i64 0, .slice none 0 0]) 32 Tryz.underlying31 hi1 hz1 hsz1 hby1 rfl (.slice AV xs.length cV) xs.length (flatE xs) rfl (own_belowM HO5.out (alloc1B w5 (.cells #[.int .i64 x.s, .slice A5 (encD (mdVote v s vs[k])).length c5] 40))) w5.heap.size (.int .i64 x.s) (.slice A5 (encD (mdVote v s vs[k])).length c5) rfl (rowCell (heap_alloc_new w5 _) 0 _ rfl) (rowCell (heap_alloc_new w5 _) 1 _ rfl) rfl rfl (by have := HN12.out; unfold maxLen; omega) (by have := HN12.out; omega) (by have := HDS.out; have := HT5.out.off.size; have := HBC.out.size; have := (alloc1B w5 (.cells #[.int .i64 x.s, .slice A5 (encD (mdVote v s vs[k])).length c5] 40)).size; omega) ?_
       intro v4 w4 hown4 hg4 ho4
       obtain ⟨A4, c4, rfl⟩ := own_slice hown4
       have HOW4 := Lib.hid (show w4.ownsRow wD.heap.size 40 2 (.slice A4 (xs.length + 1) c4) (xs.length + 1) (flatE xs ++ [.int .i64 vs[k].s, .slice A5 (encD (mdVote v s vs[k])).length c5]) from by have h := hown4; rw [HXK.out] at h ⊢; exact h)
       have HG4 := Lib.hid hg4
       have HR4 := Lib.hid ho4
       have hvr : ∀ b, b < wD.heap.size ∨ wr.heap.size ≤ b → (Value.slice AV xs.length cV).ownBlock ≠ some b := fun b hb e => by have := HI.out.own.lt b e; omega
       have HH4 := Lib.hid (show Held T5 bm w4 w.heap.size #[.pointer (some ⟨g, 0, none⟩), .pointer (some ⟨g2, 0, none⟩)] 29 ∧ Held T5 bm w4 wr.heap.size #[.int .i64 x.s, .int .i64 x.k, .int .i64 x.v, .int .i64 x.q, .bool x.o, .bool x.u] 105 ∧ Held T5 bm w4 wa.heap.size #[.int .i64 x.k, .int .i64 vw, .int .i64 (s + x.q.tmod 3), .int .i64 0, .int .i64 0, .string (strB dg), .slice none 0 0, .int .i64 0, .int .i64 0, .slice none 0 0, .slice none 0 0, .slice none 0 0] 57 from ⟨(HH5.out.1.below (alloc1B w5 (.cells #[.int .i64 x.s, .slice A5 (encD (mdVote v s vs[k])).length c5] 40))).grown hg4 (hvr _ (by have := HNE.out; omega)), (HH5.out.2.1.below (alloc1B w5 (.cells #[.int .i64 x.s, .slice A5 (encD (mdVote v s vs[k])).length c5] 40))).grown hg4 (hvr _ (by omega)), (HH5.out.2.2.below (alloc1B w5 (.cells #[.int .i64 x.s, .slice A5 (encD (mdVote v s vs[k])).length c5] 40))).grown hg4 (hvr _ (by have := HSz.out; omega))⟩)
       have HC4 := Lib.hid ((HC5.out.below (alloc1B w5 (.cells #[.int .i64 x.s, .slice A5 (encD (mdVote v s vs[k])).length c5] 40))).grown hg4 (hvr _ (by have := HNE.out; omega)))
       have m2 := rowCell HC4.out.at_ 2 (.slice AV xs.length cV) rfl
       have f2 : w4.frozen? ⟨w6.heap.size, 2, none⟩ = false := (by have := HC4.out.at_; simp [World.frozen?, this])
       clear hown4 hg4 ho4 hvr
       refine hK.out _ _ ?_ (fun hHeld => ?_)
       · (try dsimp only); exact HKS.out _ _ HH4.out
       clear hK K
       (try simp only [Act.put, sA, sB, sC])
       refine tk 13 ?_
       (try simp only [Act.put, sA, sB, sC])
       refine wpAnyH_ready (rs := [14]) (by kernel_rfl) (by simp) ?_
       refine AllReadyH.cons (o := ?o16) ?g16 (fun K hK => ?j16) AllReadyH.nil
       case g16 => (simp only [gA, gB, gC]; rfl)
       go_simp
       refine hK.out _ _ ?_ (fun hHeld => ?_)
       · (try dsimp only); exact HKS.out _ _ ⟨HH4.out.1.only ((Only.refl w6.heap.size w4).set 2 (.slice A4 (xs.length + 1) c4)) (by have := HNE.out; omega), HH4.out.2.1.only ((Only.refl w6.heap.size w4).set 2 (.slice A4 (xs.length + 1) c4)) (by have := HNE.out; have := HDS.out; omega), HH4.out.2.2.only ((Only.refl w6.heap.size w4).set 2 (.slice A4 (xs.length + 1) c4)) (by have := HNE.out; have := HDS.out; have := HSz.out; omega)⟩
       clear hK K
       (try simp only [Act.put, sA, sB, sC])
       refine wpAnyH_done (by kernel_rfl) ?_ _
       have HNX := Lib.hid (made_step HIC.out HLT.out ⟨HNE.out.2, by have := HNE.out; omega, HBD.out.2.1, by have := HNE.out; have := HBW.out.au.1.lt; omega, by have := HNE.out; have := HBW.out.au.2.lt; omega⟩ HZ.out.lt (Nat.ne_of_lt HM5.out.lt) (by have := HNE.out; have := HBW.out.au.1.lt; omega) HIC.out.hz.lt HF5.out HT5.out HMB.out (alloc1B w5 (.cells #[.int .i64 x.s, .slice A5 (encD (mdVote v s vs[k])).length c5] 40)) HOW4.out HG4.out HR4.out ((Only.refl w6.heap.size w4).set 2 (.slice A4 (xs.length + 1) c4)) (set_at HC4.out.at_ 2 _))
       go_wp2
       go_roundw
       case rel =>
         refine ⟨k + 1, _, _, T5, HLT.out, by go_num, ?_, HNX.out⟩
         have := HDS.out; have := HT5.out.off.size; have := HBC.out.size; have := (alloc1B w5 (.cells #[.int .i64 x.s, .slice A5 (encD (mdVote v s vs[k])).length c5] 40)).size; have := HG4.out.size; have := (((Only.refl w6.heap.size w4).set 2 (.slice A4 (xs.length + 1) c4))).size; omega
       case measure => simp [intOf]; have := HLT.out; omega
      ·
       go_simp
       (go_at_call 55; go_loud (refine (said_sm HIC.out.bt x.s (!x.u) HX64.out (⟨x.k, vw, s + x.q.tmod 3, 0, 0, dg, [], (0, 0), [], [], []⟩ : Msg) ⟨(none, 0), (none, 0), (none, 0), (none, 0)⟩ ⟨Bs.nil _, RowM.none _ _ _, RowM.none _ _ _, RowM.none _ _ _⟩ HSM.out HLN.out).mono ?_; rw [HEQ.out]))
       rintro e w5 ⟨v5, T5, rfl, hf, hb, ht⟩
       obtain ⟨A5, c5, rfl, -⟩ := hf.bs.open
       have HF5 := Lib.hid hf
       have HT5 := Lib.hid ht
       have HB5 := Lib.hid hb
       have HH5 := Lib.hid (show Held T5 bm w5 w.heap.size #[.pointer (some ⟨g, 0, none⟩), .pointer (some ⟨g2, 0, none⟩)] 29 ∧ Held T5 bm w5 wr.heap.size #[.int .i64 x.s, .int .i64 x.k, .int .i64 x.v, .int .i64 x.q, .bool x.o, .bool x.u] 105 ∧ Held T5 bm w5 wa.heap.size #[.int .i64 x.k, .int .i64 vw, .int .i64 (s + x.q.tmod 3), .int .i64 0, .int .i64 0, .string (strB dg), .slice none 0 0, .int .i64 0, .int .i64 0, .slice none 0 0, .slice none 0 0, .slice none 0 0] 57 from ⟨HH.out.1.turn ht, HH.out.2.1.turn ht, HH.out.2.2.turn ht⟩)
       have HC5 := Lib.hid (HIC.out.hcr.turn ht)
       have k2 := rowCell HC5.out.at_ 2 (.slice AV xs.length cV) rfl
       have HO5 := Lib.hid (show w5.ownsRow wD.heap.size 40 2 (.slice AV xs.length cV) xs.length (flatE xs) from own_keep HIC.out.own fun kk hkk => ht.off.block kk (HIC.out.own.lt kk hkk).2 (HIC.out.off kk hkk))
       have k3 := rowCell (HC5.out.below (alloc1B w5 (.cells #[.int .i64 x.s, .slice A5 (encD (mdVote v s vs[k])).length c5] 40))).at_ 2 (.slice AV xs.length cV) rfl
       clear hf hb ht
       have HMB := Lib.hid (show Bth w5 N g bm g2 f c (mdS f c v s (mdL f c v s p L (vs.take k)) vs[k]) T5 from by unfold mdS; rw [HXK.out] at HB5 ⊢; exact HB5.out)
       refine hK.out _ _ ?_ (fun hHeld => ?_)
       · (try dsimp only); exact HKS.out _ _ HH5.out
       clear hK K
       (try simp only [Act.put, sA, sB, sC])
       refine wpAnyH_ready (rs := [1, 11]) (by kernel_rfl) (by simp) ?_
       refine AllReadyH.cons (o := ?o17) ?g17 (fun K hK => ?j17) (AllReadyH.cons (o := ?o18) ?g18 (fun K hK => ?j18) AllReadyH.nil)
       case g17 => (simp only [gA, gB, gC]; rfl)
       case g18 => (simp only [gA, gB, gC]; rfl)
       ·
        go_simp
        refine hK.out _ _ ?_ (fun hHeld => ?_)
        · (try dsimp only); exact HKS.out _ _ HH5.out
        clear hK K
        (try simp only [Act.put, sA, sB, sC])
        refine wpAnyH_ready (rs := [11]) (by kernel_rfl) (by simp) ?_
        refine AllReadyH.cons (o := ?o19) ?g19 (fun K hK => ?j19) AllReadyH.nil
        case g19 => (simp only [gA, gB, gC]; rfl)
        go_simp
        refine hK.out _ _ ?_ (fun hHeld => ?_)
        · (try dsimp only); exact HKS.out _ _ ⟨HH5.out.1.below (alloc1B w5 (.cells #[.int .i64 x.s, .slice A5 (encD (mdVote v s vs[k])).length c5] 40)), HH5.out.2.1.below (alloc1B w5 (.cells #[.int .i64 x.s, .slice A5 (encD (mdVote v s vs[k])).length c5] 40)), HH5.out.2.2.below (alloc1B w5 (.cells #[.int .i64 x.s, .slice A5 (encD (mdVote v s vs[k])).length c5] 40))⟩
        clear hK K
        (try simp only [Act.put, sA, sB, sC])
        refine wpAnyH_ready (rs := [12]) (by kernel_rfl) (by simp) ?_
        refine AllReadyH.cons (o := ?o20) ?g20 (fun K hK => ?j20) AllReadyH.nil
        case g20 => (simp only [gA, gB, gC]; rfl)
        refine step_append2 rfl (.tmp 77) (.tmp 87) 31 rfl wD.heap.size 40 i1 (.agg #[.int .i64 0, .slice none 0 0]) 32 Tryz.underlying31 hi1 hz1 hsz1 hby1 rfl (.slice AV xs.length cV) xs.length (flatE xs) rfl (own_belowM HO5.out (alloc1B w5 (.cells #[.int .i64 x.s, .slice A5 (encD (mdVote v s vs[k])).length c5] 40))) w5.heap.size (.int .i64 x.s) (.slice A5 (encD (mdVote v s vs[k])).length c5) rfl (rowCell (heap_alloc_new w5 _) 0 _ rfl) (rowCell (heap_alloc_new w5 _) 1 _ rfl) rfl rfl (by have := HN12.out; unfold maxLen; omega) (by have := HN12.out; omega) (by have := HDS.out; have := HT5.out.off.size; have := HBC.out.size; have := (alloc1B w5 (.cells #[.int .i64 x.s, .slice A5 (encD (mdVote v s vs[k])).length c5] 40)).size; omega) ?_
        intro v4 w4 hown4 hg4 ho4
        obtain ⟨A4, c4, rfl⟩ := own_slice hown4
        have HOW4 := Lib.hid (show w4.ownsRow wD.heap.size 40 2 (.slice A4 (xs.length + 1) c4) (xs.length + 1) (flatE xs ++ [.int .i64 vs[k].s, .slice A5 (encD (mdVote v s vs[k])).length c5]) from by have h := hown4; rw [HXK.out] at h ⊢; exact h)
        have HG4 := Lib.hid hg4
        have HR4 := Lib.hid ho4
        have hvr : ∀ b, b < wD.heap.size ∨ wr.heap.size ≤ b → (Value.slice AV xs.length cV).ownBlock ≠ some b := fun b hb e => by have := HI.out.own.lt b e; omega
        have HH4 := Lib.hid (show Held T5 bm w4 w.heap.size #[.pointer (some ⟨g, 0, none⟩), .pointer (some ⟨g2, 0, none⟩)] 29 ∧ Held T5 bm w4 wr.heap.size #[.int .i64 x.s, .int .i64 x.k, .int .i64 x.v, .int .i64 x.q, .bool x.o, .bool x.u] 105 ∧ Held T5 bm w4 wa.heap.size #[.int .i64 x.k, .int .i64 vw, .int .i64 (s + x.q.tmod 3), .int .i64 0, .int .i64 0, .string (strB dg), .slice none 0 0, .int .i64 0, .int .i64 0, .slice none 0 0, .slice none 0 0, .slice none 0 0] 57 from ⟨(HH5.out.1.below (alloc1B w5 (.cells #[.int .i64 x.s, .slice A5 (encD (mdVote v s vs[k])).length c5] 40))).grown hg4 (hvr _ (by have := HNE.out; omega)), (HH5.out.2.1.below (alloc1B w5 (.cells #[.int .i64 x.s, .slice A5 (encD (mdVote v s vs[k])).length c5] 40))).grown hg4 (hvr _ (by omega)), (HH5.out.2.2.below (alloc1B w5 (.cells #[.int .i64 x.s, .slice A5 (encD (mdVote v s vs[k])).length c5] 40))).grown hg4 (hvr _ (by have := HSz.out; omega))⟩)
        have HC4 := Lib.hid ((HC5.out.below (alloc1B w5 (.cells #[.int .i64 x.s, .slice A5 (encD (mdVote v s vs[k])).length c5] 40))).grown hg4 (hvr _ (by have := HNE.out; omega)))
        have m2 := rowCell HC4.out.at_ 2 (.slice AV xs.length cV) rfl
        have f2 : w4.frozen? ⟨w6.heap.size, 2, none⟩ = false := (by have := HC4.out.at_; simp [World.frozen?, this])
        clear hown4 hg4 ho4 hvr
        refine hK.out _ _ ?_ (fun hHeld => ?_)
        · (try dsimp only); exact HKS.out _ _ HH4.out
        clear hK K
        (try simp only [Act.put, sA, sB, sC])
        refine tk 13 ?_
        (try simp only [Act.put, sA, sB, sC])
        refine wpAnyH_ready (rs := [14]) (by kernel_rfl) (by simp) ?_
        refine AllReadyH.cons (o := ?o22) ?g22 (fun K hK => ?j22) AllReadyH.nil
        case g22 => (simp only [gA, gB, gC]; rfl)
        go_simp
        refine hK.out _ _ ?_ (fun hHeld => ?_)
        · (try dsimp only); exact HKS.out _ _ ⟨HH4.out.1.only ((Only.refl w6.heap.size w4).set 2 (.slice A4 (xs.length + 1) c4)) (by have := HNE.out; omega), HH4.out.2.1.only ((Only.refl w6.heap.size w4).set 2 (.slice A4 (xs.length + 1) c4)) (by have := HNE.out; have := HDS.out; omega), HH4.out.2.2.only ((Only.refl w6.heap.size w4).set 2 (.slice A4 (xs.length + 1) c4)) (by have := HNE.out; have := HDS.out; have := HSz.out; omega)⟩
        clear hK K
        (try simp only [Act.put, sA, sB, sC])
        refine wpAnyH_done (by kernel_rfl) ?_ _
        have HNX := Lib.hid (made_step HIC.out HLT.out ⟨HNE.out.2, by have := HNE.out; omega, HBD.out.2.1, by have := HNE.out; have := HBW.out.au.1.lt; omega, by have := HNE.out; have := HBW.out.au.2.lt; omega⟩ HZ.out.lt (Nat.ne_of_lt HM5.out.lt) (by have := HNE.out; have := HBW.out.au.1.lt; omega) HIC.out.hz.lt HF5.out HT5.out HMB.out (alloc1B w5 (.cells #[.int .i64 x.s, .slice A5 (encD (mdVote v s vs[k])).length c5] 40)) HOW4.out HG4.out HR4.out ((Only.refl w6.heap.size w4).set 2 (.slice A4 (xs.length + 1) c4)) (set_at HC4.out.at_ 2 _))
        go_wp2
        go_roundw
        case rel =>
          refine ⟨k + 1, _, _, T5, HLT.out, by go_num, ?_, HNX.out⟩
          have := HDS.out; have := HT5.out.off.size; have := HBC.out.size; have := (alloc1B w5 (.cells #[.int .i64 x.s, .slice A5 (encD (mdVote v s vs[k])).length c5] 40)).size; have := HG4.out.size; have := (((Only.refl w6.heap.size w4).set 2 (.slice A4 (xs.length + 1) c4))).size; omega
        case measure => simp [intOf]; have := HLT.out; omega
       ·
        go_simp
        refine hK.out _ _ ?_ (fun hHeld => ?_)
        · (try dsimp only); exact HKS.out _ _ ⟨HH5.out.1.below (alloc1B w5 (.cells #[.int .i64 x.s, .slice A5 (encD (mdVote v s vs[k])).length c5] 40)), HH5.out.2.1.below (alloc1B w5 (.cells #[.int .i64 x.s, .slice A5 (encD (mdVote v s vs[k])).length c5] 40)), HH5.out.2.2.below (alloc1B w5 (.cells #[.int .i64 x.s, .slice A5 (encD (mdVote v s vs[k])).length c5] 40))⟩
        clear hK K
        (try simp only [Act.put, sA, sB, sC])
        refine wpAnyH_ready (rs := [1]) (by kernel_rfl) (by simp) ?_
        refine AllReadyH.cons (o := ?o23) ?g23 (fun K hK => ?j23) AllReadyH.nil
        case g23 => (simp only [gA, gB, gC]; rfl)
        go_simp
        refine hK.out _ _ ?_ (fun hHeld => ?_)
        · (try dsimp only); exact HKS.out _ _ ⟨HH5.out.1.below (alloc1B w5 (.cells #[.int .i64 x.s, .slice A5 (encD (mdVote v s vs[k])).length c5] 40)), HH5.out.2.1.below (alloc1B w5 (.cells #[.int .i64 x.s, .slice A5 (encD (mdVote v s vs[k])).length c5] 40)), HH5.out.2.2.below (alloc1B w5 (.cells #[.int .i64 x.s, .slice A5 (encD (mdVote v s vs[k])).length c5] 40))⟩
        clear hK K
        (try simp only [Act.put, sA, sB, sC])
        refine wpAnyH_ready (rs := [12]) (by kernel_rfl) (by simp) ?_
        refine AllReadyH.cons (o := ?o24) ?g24 (fun K hK => ?j24) AllReadyH.nil
        case g24 => (simp only [gA, gB, gC]; rfl)
        refine step_append2 rfl (.tmp 77) (.tmp 87) 31 rfl wD.heap.size 40 i1 (.agg #[.int .i64 0, .slice none 0 0]) 32 Tryz.underlying31 hi1 hz1 hsz1 hby1 rfl (.slice AV xs.length cV) xs.length (flatE xs) rfl (own_belowM HO5.out (alloc1B w5 (.cells #[.int .i64 x.s, .slice A5 (encD (mdVote v s vs[k])).length c5] 40))) w5.heap.size (.int .i64 x.s) (.slice A5 (encD (mdVote v s vs[k])).length c5) rfl (rowCell (heap_alloc_new w5 _) 0 _ rfl) (rowCell (heap_alloc_new w5 _) 1 _ rfl) rfl rfl (by have := HN12.out; unfold maxLen; omega) (by have := HN12.out; omega) (by have := HDS.out; have := HT5.out.off.size; have := HBC.out.size; have := (alloc1B w5 (.cells #[.int .i64 x.s, .slice A5 (encD (mdVote v s vs[k])).length c5] 40)).size; omega) ?_
        intro v4 w4 hown4 hg4 ho4
        obtain ⟨A4, c4, rfl⟩ := own_slice hown4
        have HOW4 := Lib.hid (show w4.ownsRow wD.heap.size 40 2 (.slice A4 (xs.length + 1) c4) (xs.length + 1) (flatE xs ++ [.int .i64 vs[k].s, .slice A5 (encD (mdVote v s vs[k])).length c5]) from by have h := hown4; rw [HXK.out] at h ⊢; exact h)
        have HG4 := Lib.hid hg4
        have HR4 := Lib.hid ho4
        have hvr : ∀ b, b < wD.heap.size ∨ wr.heap.size ≤ b → (Value.slice AV xs.length cV).ownBlock ≠ some b := fun b hb e => by have := HI.out.own.lt b e; omega
        have HH4 := Lib.hid (show Held T5 bm w4 w.heap.size #[.pointer (some ⟨g, 0, none⟩), .pointer (some ⟨g2, 0, none⟩)] 29 ∧ Held T5 bm w4 wr.heap.size #[.int .i64 x.s, .int .i64 x.k, .int .i64 x.v, .int .i64 x.q, .bool x.o, .bool x.u] 105 ∧ Held T5 bm w4 wa.heap.size #[.int .i64 x.k, .int .i64 vw, .int .i64 (s + x.q.tmod 3), .int .i64 0, .int .i64 0, .string (strB dg), .slice none 0 0, .int .i64 0, .int .i64 0, .slice none 0 0, .slice none 0 0, .slice none 0 0] 57 from ⟨(HH5.out.1.below (alloc1B w5 (.cells #[.int .i64 x.s, .slice A5 (encD (mdVote v s vs[k])).length c5] 40))).grown hg4 (hvr _ (by have := HNE.out; omega)), (HH5.out.2.1.below (alloc1B w5 (.cells #[.int .i64 x.s, .slice A5 (encD (mdVote v s vs[k])).length c5] 40))).grown hg4 (hvr _ (by omega)), (HH5.out.2.2.below (alloc1B w5 (.cells #[.int .i64 x.s, .slice A5 (encD (mdVote v s vs[k])).length c5] 40))).grown hg4 (hvr _ (by have := HSz.out; omega))⟩)
        have HC4 := Lib.hid ((HC5.out.below (alloc1B w5 (.cells #[.int .i64 x.s, .slice A5 (encD (mdVote v s vs[k])).length c5] 40))).grown hg4 (hvr _ (by have := HNE.out; omega)))
        have m2 := rowCell HC4.out.at_ 2 (.slice AV xs.length cV) rfl
        have f2 : w4.frozen? ⟨w6.heap.size, 2, none⟩ = false := (by have := HC4.out.at_; simp [World.frozen?, this])
        clear hown4 hg4 ho4 hvr
        refine hK.out _ _ ?_ (fun hHeld => ?_)
        · (try dsimp only); exact HKS.out _ _ HH4.out
        clear hK K
        (try simp only [Act.put, sA, sB, sC])
        refine tk 13 ?_
        (try simp only [Act.put, sA, sB, sC])
        refine wpAnyH_ready (rs := [14]) (by kernel_rfl) (by simp) ?_
        refine AllReadyH.cons (o := ?o26) ?g26 (fun K hK => ?j26) AllReadyH.nil
        case g26 => (simp only [gA, gB, gC]; rfl)
        go_simp
        refine hK.out _ _ ?_ (fun hHeld => ?_)
        · (try dsimp only); exact HKS.out _ _ ⟨HH4.out.1.only ((Only.refl w6.heap.size w4).set 2 (.slice A4 (xs.length + 1) c4)) (by have := HNE.out; omega), HH4.out.2.1.only ((Only.refl w6.heap.size w4).set 2 (.slice A4 (xs.length + 1) c4)) (by have := HNE.out; have := HDS.out; omega), HH4.out.2.2.only ((Only.refl w6.heap.size w4).set 2 (.slice A4 (xs.length + 1) c4)) (by have := HNE.out; have := HDS.out; have := HSz.out; omega)⟩
        clear hK K
        (try simp only [Act.put, sA, sB, sC])
        refine wpAnyH_done (by kernel_rfl) ?_ _
        have HNX := Lib.hid (made_step HIC.out HLT.out ⟨HNE.out.2, by have := HNE.out; omega, HBD.out.2.1, by have := HNE.out; have := HBW.out.au.1.lt; omega, by have := HNE.out; have := HBW.out.au.2.lt; omega⟩ HZ.out.lt (Nat.ne_of_lt HM5.out.lt) (by have := HNE.out; have := HBW.out.au.1.lt; omega) HIC.out.hz.lt HF5.out HT5.out HMB.out (alloc1B w5 (.cells #[.int .i64 x.s, .slice A5 (encD (mdVote v s vs[k])).length c5] 40)) HOW4.out HG4.out HR4.out ((Only.refl w6.heap.size w4).set 2 (.slice A4 (xs.length + 1) c4)) (set_at HC4.out.at_ 2 _))
        go_wp2
        go_roundw
        case rel =>
          refine ⟨k + 1, _, _, T5, HLT.out, by go_num, ?_, HNX.out⟩
          have := HDS.out; have := HT5.out.off.size; have := HBC.out.size; have := (alloc1B w5 (.cells #[.int .i64 x.s, .slice A5 (encD (mdVote v s vs[k])).length c5] 40)).size; have := HG4.out.size; have := (((Only.refl w6.heap.size w4).set 2 (.slice A4 (xs.length + 1) c4))).size; omega
        case measure => simp [intOf]; have := HLT.out; omega
    · obtain rfl : k = vs.length := by omega
      have hltI : ¬ (vs.length : Int) < (vs.length : Int) := by omega
      have q3 := rowCell HI.out.hc.at_ 3 (.slice A vs.length cc) rfl
      obtain ⟨A9, c9, rfl⟩ := own_slice HI.out.own
      rw [HI.out.xl] at HI
      go_wp2_with (first
        | (refine wpList_storeAll rfl 50 _ _ rfl (w.heap.size + 2) _ _ rfl rfl HI.out.hz.at_ rfl (by kernel_rfl) (by kernel_rfl) ?_; intro w9 hz hh ho; have HQ := Lib.hid hh; have HO9 := Lib.hid ho; clear hz hh ho)
        | (refine wpList_load_mid rfl 50 _ rfl w6.heap.size 0 rfl _ _ (heap_all HI.out.hcr.at_) Tryz.underlying50 rfl (by kernel_rfl) ?_))
      have k0 := rowCell HQ.out 0 (.int .i64 (mdP f p v)) rfl
      have k1 := rowCell HQ.out 1 (.slice A2 (encD (mdPre v s)).length c2) rfl
      have k2 := rowCell HQ.out 2 (.slice A9 vs.length c9) rfl
      refine bodyPost_ret (v := .agg #[.int .i64 (mdP f p v), .slice A2 (encD (mdPre v s)).length c2, .slice A9 vs.length c9]) ?_ rfl ?_
      · simp [results, Tryz.results23, go_sem, k0, k1, k2]
      · obtain ⟨A8, c8, e8, h8⟩ := made_end HI.out HO9.out (by have := HBW.out.au.1.lt; omega) HBD.out.1 (fun kk hk => by have := HI.out.l2 kk hk; omega) (fun j hj kk hk => by have := HI.out.lj j hj kk hk; omega)
        injection e8 with e8 _ e9
        rw [e8, e9]
        exact h8

def aw1 : Msg := ⟨1, 0, 0, 1000, 1, [], [111, 112], (0, 0), [], [], []⟩
def awL1 : List UInt8 := encD aw1
def awD : List UInt8 := batB [(1000, awL1)]
def aw2 : Msg := ⟨2, 0, 1, 0, 0, awD, [], (0, 0), [(1000, awL1)], [], []⟩
def awL2 : List UInt8 := encD aw2
def aw3 : Msg := ⟨3, 0, 1, 0, 0, awD, [], (0, 0), [], [], []⟩
def awL3 : List UInt8 := encD aw3
def awK : Kn := ⟨1, 1, [(1000, awL1), (0, awL2), (0, awL3), (1, awL3), (2, awL3)]⟩
theorem awE1 : awL1.length = 30 := by kernel_rfl
theorem awS1 : signT 1 1 1000 awL1 [] = [(1000, awL1)] := by kernel_rfl
theorem awS2 : signT 1 1 0 awL2 [(1000, awL1)] = [(1000, awL1), (0, awL2)] := by kernel_rfl
theorem awS3 : signT 1 1 0 awL3 [(1000, awL1), (0, awL2)] = [(1000, awL1), (0, awL2), (0, awL3)] := by kernel_rfl
theorem awS4 : signT 1 1 1 awL3 [(1000, awL1), (0, awL2), (0, awL3)] = [(1000, awL1), (0, awL2), (0, awL3), (1, awL3)] := by kernel_rfl
theorem awS5 : signT 1 1 2 awL3 [(1000, awL1), (0, awL2), (0, awL3), (1, awL3)] = [(1000, awL1), (0, awL2), (0, awL3), (1, awL3), (2, awL3)] := by kernel_rfl
theorem awR : reqA awK (1000, awL1) = ((1000, 1, [111, 112]), 0) := by kernel_rfl
theorem awP1 : prepA awK ((0, awL2), [(1, awL3), (2, awL3)]) = (aw2, 0) := by kernel_rfl
theorem awP2 : prepA awK ((0, awL2), [(1, awL3)]) = (msg0, 32) := by kernel_rfl
theorem awP3 : prepA awK ((0, awL2), [(1, awL3), (1, awL3)]) = (msg0, 33) := by kernel_rfl
theorem awP4 : prepA awK ((0, awL2), [(0, awL3), (1, awL3), (2, awL3)]) = (msg0, 133) := by kernel_rfl
theorem awN : awL2.length ≤ 1000 ∧ awL3.length ≤ 1000 ∧ awD.length ≤ 1000 := by decide +kernel
theorem awM1 : SmD aw1 := ⟨by decide, by decide, ⟨by decide, fun e he => by cases he⟩, ⟨by decide, fun e he => by cases he⟩, rfl⟩
theorem awM2 : SmD aw2 := ⟨Nat.le_trans awN.2.2 (by decide), by decide, ⟨by decide, fun e he => by
  rw [List.mem_singleton.1 he]
  show awL1.length ≤ _
  rw [awE1]
  decide⟩, ⟨by decide, fun e he => by cases he⟩, rfl⟩
theorem awM3 : SmD aw3 := ⟨Nat.le_trans awN.2.2 (by decide), by decide, ⟨by decide, fun e he => by cases he⟩, ⟨by decide, fun e he => by cases he⟩, rfl⟩
theorem awBig : BigE [(1000, awL1)] := ⟨by decide, fun e he => by
  rw [List.mem_singleton.1 he]
  show awL1.length ≤ _
  rw [awE1]
  decide⟩

theorem slice_env1 (br : Nat) (w : World) : (Instr.slice 31 (.slice (some ⟨br, 0, none⟩) 3 3) (some (.int .i64 1)) none none).run Tryz.prog w = .ok (.slice (some ⟨br, 2, none⟩) 2 2) w := by rfl
theorem slice_env2 (br : Nat) (w : World) : (Instr.slice 31 (.slice (some ⟨br, 0, none⟩) 3 3) (some (.int .i64 1)) (some (.int .i64 2)) none).run Tryz.prog w = .ok (.slice (some ⟨br, 2, none⟩) 1 2) w := by rfl
set_option maxHeartbeats 8000000 in
theorem awake13_any (w : World) : Calls Tryz.prog 21 #[] w (AskB true w) := by
  have HG1 := Lib.hid (fun (W : World) (g bm g2 : Nat) (T : Nat → Prop) (P : Plc) (h : Bth W w.heap.size g bm g2 1 1 [] T) (hm : MsgK W aw1 P) => show Calls Tryz.prog 38 #[.agg #[.pointer (some ⟨g, 0, none⟩), .pointer (some ⟨g2, 0, none⟩)], .int .i64 1000, agM aw1 P] W (SaidP w.heap.size g bm g2 1 1 1000 awL1 [(1000, awL1)] T W) from by
    have h1 := sign_any w.heap.size g bm g2 1 1 _ T 1000 aw1 P awL1 W h (by unfold ok64; omega) (by have := awN; have := awE1; omega) (by simp) (fun W' hb => rEncode_any aw1 P W' (hm.below hb) awM1)
    rwa [awS1] at h1)
  have HG2 := Lib.hid (fun (W : World) (g bm g2 : Nat) (T : Nat → Prop) (P : Plc) (h : Bth W w.heap.size g bm g2 1 1 [(1000, awL1)] T) (hm : MsgK W aw2 P) => show Calls Tryz.prog 38 #[.agg #[.pointer (some ⟨g, 0, none⟩), .pointer (some ⟨g2, 0, none⟩)], .int .i64 0, agM aw2 P] W (SaidP w.heap.size g bm g2 1 1 0 awL2 [(1000, awL1), (0, awL2)] T W) from by
    have h1 := sign_any w.heap.size g bm g2 1 1 _ T 0 aw2 P awL2 W h (by unfold ok64; omega) (by have := awN; have := awE1; omega) (by simp) (fun W' hb => rEncode_any aw2 P W' (hm.below hb) awM2)
    rwa [awS2] at h1)
  have HG3 := Lib.hid (fun (W : World) (g bm g2 : Nat) (T : Nat → Prop) (P : Plc) (h : Bth W w.heap.size g bm g2 1 1 [(1000, awL1), (0, awL2)] T) (hm : MsgK W aw3 P) => show Calls Tryz.prog 38 #[.agg #[.pointer (some ⟨g, 0, none⟩), .pointer (some ⟨g2, 0, none⟩)], .int .i64 0, agM aw3 P] W (SaidP w.heap.size g bm g2 1 1 0 awL3 [(1000, awL1), (0, awL2), (0, awL3)] T W) from by
    have h1 := sign_any w.heap.size g bm g2 1 1 _ T 0 aw3 P awL3 W h (by unfold ok64; omega) (by have := awN; have := awE1; omega) (by simp) (fun W' hb => rEncode_any aw3 P W' (hm.below hb) awM3)
    rwa [awS3] at h1)
  have HG4 := Lib.hid (fun (W : World) (g bm g2 : Nat) (T : Nat → Prop) (P : Plc) (h : Bth W w.heap.size g bm g2 1 1 [(1000, awL1), (0, awL2), (0, awL3)] T) (hm : MsgK W aw3 P) => show Calls Tryz.prog 38 #[.agg #[.pointer (some ⟨g, 0, none⟩), .pointer (some ⟨g2, 0, none⟩)], .int .i64 1, agM aw3 P] W (SaidP w.heap.size g bm g2 1 1 1 awL3 [(1000, awL1), (0, awL2), (0, awL3), (1, awL3)] T W) from by
    have h1 := sign_any w.heap.size g bm g2 1 1 _ T 1 aw3 P awL3 W h (by unfold ok64; omega) (by have := awN; have := awE1; omega) (by simp) (fun W' hb => rEncode_any aw3 P W' (hm.below hb) awM3)
    rwa [awS4] at h1)
  have HG5 := Lib.hid (fun (W : World) (g bm g2 : Nat) (T : Nat → Prop) (P : Plc) (h : Bth W w.heap.size g bm g2 1 1 [(1000, awL1), (0, awL2), (0, awL3), (1, awL3)] T) (hm : MsgK W aw3 P) => show Calls Tryz.prog 38 #[.agg #[.pointer (some ⟨g, 0, none⟩), .pointer (some ⟨g2, 0, none⟩)], .int .i64 2, agM aw3 P] W (SaidP w.heap.size g bm g2 1 1 2 awL3 [(1000, awL1), (0, awL2), (0, awL3), (1, awL3), (2, awL3)] T W) from by
    have h1 := sign_any w.heap.size g bm g2 1 1 _ T 2 aw3 P awL3 W h (by unfold ok64; omega) (by have := awN; have := awE1; omega) (by simp) (fun W' hb => rEncode_any aw3 P W' (hm.below hb) awM3)
    rwa [awS5] at h1)
  have hcv : ∀ (w : World) (C : Array Value) (n c b : Nat), b = w.heap.size → (convert 33 33 (.slice (some ⟨b, 0, none⟩) n c)).run Tryz.prog (w.alloc (.cells C 5)) = .ok (.slice (some ⟨b, 0, none⟩) n c) (w.alloc (.cells C 5 (C.size, C.size + 1))) := by
    intro w C n c b hb
    subst hb
    exact Lib.run_convert_bytes_const (P := Tryz.prog) w 33 5 C n c Tryz.underlying33 Tryz.underlying5
  go_enter Tryz.func21, Tryz.ntmps21
  go_upto_region 2 with (first
    | (go_at_call 15; go_loud (refine (begun_any 1 1 _).mono ?_; rintro e w1 ⟨g, bm, g2, T, rfl, hb, hbel⟩; rw [show clF 1 = 1 from rfl, show clC 1 = 1 from rfl] at hb; have HBT := Lib.hid hb; have HB := Lib.hid hbel; clear hb hbel)))
  have HX := Lib.hid (Held.new (cs := #[.pointer (some ⟨g, 0, none⟩), .pointer (some ⟨g2, 0, none⟩)]) (t := 29) HBT.out)
  have HBT := Lib.hid (HBT.out.below (alloc1B w1 (.cells #[.pointer (some ⟨g, 0, none⟩), .pointer (some ⟨g2, 0, none⟩)] 29)))
  have HB := Lib.hid (bel2M HB.out (alloc1B w1 (.cells #[.pointer (some ⟨g, 0, none⟩), .pointer (some ⟨g2, 0, none⟩)] 29)))
  generalize hwA : w1.alloc _ = wA at *
  have x0 := rowCell HX.out.at_ 0 (.pointer (some ⟨g, 0, none⟩)) rfl
  have x1 := rowCell HX.out.at_ 1 (.pointer (some ⟨g2, 0, none⟩)) rfl
  clear hwA
  have HB := Lib.hid (HB.out.mono (Nat.le_refl w.heap.size))
  go_upto_region 3 with (first
    | (go_at_call 38; go_loud (refine (HG1.out _ g bm g2 T ⟨(some ⟨wA.heap.size, 0, none⟩, 2), (none, 0), (none, 0), (none, 0)⟩ (HBT.out.below (alloc1B wA _)) ⟨Bs.lit wA [111, 112] (by decide) (by decide) _ _ rfl rfl _ rfl _, RowM.none _ _ _, RowM.none _ _ _, RowM.none _ _ _⟩).mono ?_; have hbt0 := HBT.out; rintro e w2 ⟨v1, T1, rfl, hf, hb, ht⟩; obtain ⟨A1, c1, rfl, -⟩ := hf.bs.open; have HV1 := Lib.hid hf.held; have HBT := Lib.hid hb; have HX := Lib.hid ((HX.out.below (alloc1B wA _)).turn ht); have HB := Lib.hid ((bel2M HB.out (alloc1B wA _)).trans (ht.lowB (hbt0.below (alloc1B wA _)))); clear hf hb ht hbt0)))
  have HE1 := Lib.hid (Held.new (cs := #[.int .i64 1000, .slice A1 awL1.length c1]) (t := 40) HBT.out)
  have HX := Lib.hid (HX.out.below (alloc1B _ (.cells #[.int .i64 1000, .slice A1 awL1.length c1] 40)))
  have HV1 := Lib.hid (HV1.out.below (alloc1B _ (.cells #[.int .i64 1000, .slice A1 awL1.length c1] 40)))
  have HBT := Lib.hid (HBT.out.below (alloc1B _ (.cells #[.int .i64 1000, .slice A1 awL1.length c1] 40)))
  have HB := Lib.hid (bel2M HB.out (alloc1B _ (.cells #[.int .i64 1000, .slice A1 awL1.length c1] 40)))
  generalize hwn : w2.alloc _ = wB at *
  clear hwn
  have HLG := Lib.hid HBT.out.au.1.lt
  have HLX := Lib.hid HX.out.lt
  have HLE := Lib.hid HE1.out.lt
  have HVL := Lib.hid (fun k hk => (HV1.out.own k hk).1)
  have HLW := Lib.hid HB.out.size
  have e0 := rowCell HE1.out.at_ 0 (.int .i64 1000) rfl
  have e1 := rowCell HE1.out.at_ 1 (.slice A1 awL1.length c1) rfl
  go_upto_region 4 with fail
  have HRW := Lib.hid (Held.new (cs := #[.int .i64 1000, .slice A1 awL1.length c1]) (t := 40) HBT.out)
  have HX := Lib.hid (HX.out.below (alloc1B _ (.cells #[.int .i64 1000, .slice A1 awL1.length c1] 40)))
  have HE1 := Lib.hid (HE1.out.below (alloc1B _ (.cells #[.int .i64 1000, .slice A1 awL1.length c1] 40)))
  have HV1 := Lib.hid (HV1.out.below (alloc1B _ (.cells #[.int .i64 1000, .slice A1 awL1.length c1] 40)))
  have HBT := Lib.hid (HBT.out.below (alloc1B _ (.cells #[.int .i64 1000, .slice A1 awL1.length c1] 40)))
  have HB := Lib.hid (bel2M HB.out (alloc1B _ (.cells #[.int .i64 1000, .slice A1 awL1.length c1] 40)))
  have HM := Lib.hid (Held.new (cs := #[.int .i64 2, .int .i64 0, .int .i64 1, .int .i64 0, .int .i64 0, .string ⟨#[]⟩, .slice none 0 0, .int .i64 0, .int .i64 0, .slice (some ⟨wB.heap.size, 0, none⟩) 1 1, .slice none 0 0, .slice none 0 0]) (t := 57) HBT.out)
  have HX := Lib.hid (HX.out.below (alloc1B _ (.cells #[.int .i64 2, .int .i64 0, .int .i64 1, .int .i64 0, .int .i64 0, .string ⟨#[]⟩, .slice none 0 0, .int .i64 0, .int .i64 0, .slice (some ⟨wB.heap.size, 0, none⟩) 1 1, .slice none 0 0, .slice none 0 0] 57)))
  have HE1 := Lib.hid (HE1.out.below (alloc1B _ (.cells #[.int .i64 2, .int .i64 0, .int .i64 1, .int .i64 0, .int .i64 0, .string ⟨#[]⟩, .slice none 0 0, .int .i64 0, .int .i64 0, .slice (some ⟨wB.heap.size, 0, none⟩) 1 1, .slice none 0 0, .slice none 0 0] 57)))
  have HRW := Lib.hid (HRW.out.below (alloc1B _ (.cells #[.int .i64 2, .int .i64 0, .int .i64 1, .int .i64 0, .int .i64 0, .string ⟨#[]⟩, .slice none 0 0, .int .i64 0, .int .i64 0, .slice (some ⟨wB.heap.size, 0, none⟩) 1 1, .slice none 0 0, .slice none 0 0] 57)))
  have HV1 := Lib.hid (HV1.out.below (alloc1B _ (.cells #[.int .i64 2, .int .i64 0, .int .i64 1, .int .i64 0, .int .i64 0, .string ⟨#[]⟩, .slice none 0 0, .int .i64 0, .int .i64 0, .slice (some ⟨wB.heap.size, 0, none⟩) 1 1, .slice none 0 0, .slice none 0 0] 57)))
  have HBT := Lib.hid (HBT.out.below (alloc1B _ (.cells #[.int .i64 2, .int .i64 0, .int .i64 1, .int .i64 0, .int .i64 0, .string ⟨#[]⟩, .slice none 0 0, .int .i64 0, .int .i64 0, .slice (some ⟨wB.heap.size, 0, none⟩) 1 1, .slice none 0 0, .slice none 0 0] 57)))
  have HB := Lib.hid (bel2M HB.out (alloc1B _ (.cells #[.int .i64 2, .int .i64 0, .int .i64 1, .int .i64 0, .int .i64 0, .string ⟨#[]⟩, .slice none 0 0, .int .i64 0, .int .i64 0, .slice (some ⟨wB.heap.size, 0, none⟩) 1 1, .slice none 0 0, .slice none 0 0] 57)))
  have hz1 : (wB.alloc (.cells #[.int .i64 1000, .slice A1 awL1.length c1] 40)).heap.size = wB.heap.size + 1 := by simp
  rw [hz1] at HM
  generalize hwn : (wB.alloc _).alloc _ = wC at *
  clear hwn hz1
  have m9 := rowCell HM.out.at_ 9 (.slice (some ⟨wB.heap.size, 0, none⟩) 1 1) rfl
  have HEK := Lib.hid (show EnvK wC (some ⟨wB.heap.size, 0, none⟩) 1 [(1000, awL1)] from envK_row 0 HRW.out.at_ (by simp) (by omega) fun j hj => by
    obtain rfl : j = 0 := by simpa using hj
    exact ⟨rfl, _, rfl, HV1.out.bs⟩)
  go_upto_region 5 with (first
    | (go_at_call 37; go_loud (refine (show Calls _ _ _ wC (Tells awD wC) from rhBatch_any (some ⟨wB.heap.size, 0, none⟩) 1 [(1000, awL1)] wC HEK.out awBig).mono ?_; rintro e w4 ⟨rfl, hb⟩; have HX := Lib.hid (HX.out.below hb); have HE1 := Lib.hid (HE1.out.below hb); have HRW := Lib.hid (HRW.out.below hb); have HM := Lib.hid (HM.out.below hb); have HV1 := Lib.hid (HV1.out.below hb); have HBT := Lib.hid (HBT.out.below hb); have HB := Lib.hid (bel2M HB.out hb); have m5 := rowCell HM.out.at_ 5 (.string ⟨#[]⟩) rfl; have f5 : w4.frozen? ⟨wB.heap.size + 1, 5, none⟩ = false := (by have := HM.out.at_; simp [World.frozen?, this]); clear hb)))
  have ho4 : Only (wB.heap.size + 1) w4 (w4.setCell ⟨wB.heap.size + 1, 5, none⟩ (.string (strB awD))) := (Only.refl _ _).set 5 _
  have HM5 := Lib.hid (show Held T1 bm (w4.setCell ⟨wB.heap.size + 1, 5, none⟩ (.string (strB awD))) (wB.heap.size + 1) #[.int .i64 2, .int .i64 0, .int .i64 1, .int .i64 0, .int .i64 0, .string (strB awD), .slice none 0 0, .int .i64 0, .int .i64 0, .slice (some ⟨wB.heap.size, 0, none⟩) 1 1, .slice none 0 0, .slice none 0 0] 57 from ⟨set_at HM.out.at_ 5 _, HM.out.off⟩)
  have HX := Lib.hid (HX.out.only ho4 (by have := HLX.out; omega))
  have HE1 := Lib.hid (HE1.out.only ho4 (by have := HLE.out; omega))
  have HRW := Lib.hid (HRW.out.only ho4 (by omega))
  have HV1 := Lib.hid (HV1.out.only ho4 (fun k hk => by have := HVL.out k hk; omega))
  have HBT := Lib.hid (HBT.out.only ho4 (fun h => HM.out.off (.inl h)) (by have := HLG.out; omega) (fun h => HM.out.off (.inr h)))
  have HB := Lib.hid (onlyBelow HB.out ho4 (by have := HLW.out; omega) (Nat.le_refl _))
  generalize w4.setCell _ _ = w5 at *
  clear HM HEK m9 m5 f5 ho4 e0 e1 x0 x1
  have x0 := rowCell HX.out.at_ 0 (.pointer (some ⟨g, 0, none⟩)) rfl
  have x1 := rowCell HX.out.at_ 1 (.pointer (some ⟨g2, 0, none⟩)) rfl
  go_upto_region 6 with (first
    | (go_at_call 38; go_loud (refine (HG2.out _ g bm g2 T1 ⟨(none, 0), (some ⟨wB.heap.size, 0, none⟩, 1), (none, 0), (none, 0)⟩ HBT.out ⟨Bs.nil _, envK_row 0 HRW.out.at_ (by simp [aw2]) (show (1 : Nat) ≤ 1000 by decide) (fun j hj => (by obtain rfl : j = 0 := (by simpa [aw2] using hj); exact ⟨rfl, _, rfl, HV1.out.bs⟩)), RowM.none _ _ _, RowM.none _ _ _⟩).mono ?_; have hbt0 := HBT.out; rintro e w6 ⟨v2, T2, rfl, hf, hb, ht⟩; obtain ⟨A2, c2, rfl, -⟩ := hf.bs.open; have HV2 := Lib.hid hf.held; have HBT := Lib.hid hb; have HX := Lib.hid (HX.out.turn ht); have HE1 := Lib.hid (HE1.out.turn ht); have HRW := Lib.hid (HRW.out.turn ht); have HM5 := Lib.hid (HM5.out.turn ht); have HV1 := Lib.hid (HV1.out.turn ht); have HB := Lib.hid (HB.out.trans (ht.lowB hbt0)); clear hf hb ht hbt0))
    | (refine wpList_load_mid rfl 57 _ rfl (wB.heap.size + 1) 0 rfl _ _ (heap_all HM5.out.at_) Tryz.underlying57 rfl (by kernel_rfl) ?_))
  have HE2 := Lib.hid (Held.new (cs := #[.int .i64 0, .slice A2 awL2.length c2]) (t := 40) HBT.out)
  have HX := Lib.hid (HX.out.below (alloc1B _ (.cells #[.int .i64 0, .slice A2 awL2.length c2] 40)))
  have HE1 := Lib.hid (HE1.out.below (alloc1B _ (.cells #[.int .i64 0, .slice A2 awL2.length c2] 40)))
  have HRW := Lib.hid (HRW.out.below (alloc1B _ (.cells #[.int .i64 0, .slice A2 awL2.length c2] 40)))
  have HM5 := Lib.hid (HM5.out.below (alloc1B _ (.cells #[.int .i64 0, .slice A2 awL2.length c2] 40)))
  have HV1 := Lib.hid (HV1.out.below (alloc1B _ (.cells #[.int .i64 0, .slice A2 awL2.length c2] 40)))
  have HV2 := Lib.hid (HV2.out.below (alloc1B _ (.cells #[.int .i64 0, .slice A2 awL2.length c2] 40)))
  have HBT := Lib.hid (HBT.out.below (alloc1B _ (.cells #[.int .i64 0, .slice A2 awL2.length c2] 40)))
  have HB := Lib.hid (bel2M HB.out (alloc1B _ (.cells #[.int .i64 0, .slice A2 awL2.length c2] 40)))
  generalize hwn : w6.alloc _ = wD at *
  clear hwn x0 x1
  have m5 := rowCell HM5.out.at_ 5 (.string (strB awD)) rfl
  go_upto_region 7 with fail
  have HM3 := Lib.hid (Held.new (cs := #[.int .i64 3, .int .i64 0, .int .i64 1, .int .i64 0, .int .i64 0, .string (strB awD), .slice none 0 0, .int .i64 0, .int .i64 0, .slice none 0 0, .slice none 0 0, .slice none 0 0]) (t := 57) HBT.out)
  have HX := Lib.hid (HX.out.below (alloc1B _ (.cells #[.int .i64 3, .int .i64 0, .int .i64 1, .int .i64 0, .int .i64 0, .string (strB awD), .slice none 0 0, .int .i64 0, .int .i64 0, .slice none 0 0, .slice none 0 0, .slice none 0 0] 57)))
  have HE1 := Lib.hid (HE1.out.below (alloc1B _ (.cells #[.int .i64 3, .int .i64 0, .int .i64 1, .int .i64 0, .int .i64 0, .string (strB awD), .slice none 0 0, .int .i64 0, .int .i64 0, .slice none 0 0, .slice none 0 0, .slice none 0 0] 57)))
  have HRW := Lib.hid (HRW.out.below (alloc1B _ (.cells #[.int .i64 3, .int .i64 0, .int .i64 1, .int .i64 0, .int .i64 0, .string (strB awD), .slice none 0 0, .int .i64 0, .int .i64 0, .slice none 0 0, .slice none 0 0, .slice none 0 0] 57)))
  have HM5 := Lib.hid (HM5.out.below (alloc1B _ (.cells #[.int .i64 3, .int .i64 0, .int .i64 1, .int .i64 0, .int .i64 0, .string (strB awD), .slice none 0 0, .int .i64 0, .int .i64 0, .slice none 0 0, .slice none 0 0, .slice none 0 0] 57)))
  have HE2 := Lib.hid (HE2.out.below (alloc1B _ (.cells #[.int .i64 3, .int .i64 0, .int .i64 1, .int .i64 0, .int .i64 0, .string (strB awD), .slice none 0 0, .int .i64 0, .int .i64 0, .slice none 0 0, .slice none 0 0, .slice none 0 0] 57)))
  have HV1 := Lib.hid (HV1.out.below (alloc1B _ (.cells #[.int .i64 3, .int .i64 0, .int .i64 1, .int .i64 0, .int .i64 0, .string (strB awD), .slice none 0 0, .int .i64 0, .int .i64 0, .slice none 0 0, .slice none 0 0, .slice none 0 0] 57)))
  have HV2 := Lib.hid (HV2.out.below (alloc1B _ (.cells #[.int .i64 3, .int .i64 0, .int .i64 1, .int .i64 0, .int .i64 0, .string (strB awD), .slice none 0 0, .int .i64 0, .int .i64 0, .slice none 0 0, .slice none 0 0, .slice none 0 0] 57)))
  have HBT := Lib.hid (HBT.out.below (alloc1B _ (.cells #[.int .i64 3, .int .i64 0, .int .i64 1, .int .i64 0, .int .i64 0, .string (strB awD), .slice none 0 0, .int .i64 0, .int .i64 0, .slice none 0 0, .slice none 0 0, .slice none 0 0] 57)))
  have HB := Lib.hid (bel2M HB.out (alloc1B _ (.cells #[.int .i64 3, .int .i64 0, .int .i64 1, .int .i64 0, .int .i64 0, .string (strB awD), .slice none 0 0, .int .i64 0, .int .i64 0, .slice none 0 0, .slice none 0 0, .slice none 0 0] 57)))
  generalize hwn : wD.alloc _ = wE at *
  clear hwn m5
  have HLG := Lib.hid HBT.out.au.1.lt
  have HK7 := Lib.hid (show ∀ (W : World) (T : Nat → Prop), Held T bm W w1.heap.size #[.pointer (some ⟨g, 0, none⟩), .pointer (some ⟨g2, 0, none⟩)] 29 → Held T bm W wD.heap.size #[.int .i64 3, .int .i64 0, .int .i64 1, .int .i64 0, .int .i64 0, .string (strB awD), .slice none 0 0, .int .i64 0, .int .i64 0, .slice none 0 0, .slice none 0 0, .slice none 0 0] 57 → (fun W => W.cell? ⟨w1.heap.size, 0, none⟩ = some (.pointer (some ⟨g, 0, none⟩)) ∧ W.cell? ⟨w1.heap.size, 1, none⟩ = some (.pointer (some ⟨g2, 0, none⟩)) ∧ W.cell? ⟨wD.heap.size, 0, none⟩ = some (.int .i64 3) ∧ W.cell? ⟨wD.heap.size, 1, none⟩ = some (.int .i64 0) ∧ W.cell? ⟨wD.heap.size, 2, none⟩ = some (.int .i64 1) ∧ W.cell? ⟨wD.heap.size, 3, none⟩ = some (.int .i64 0) ∧ W.cell? ⟨wD.heap.size, 4, none⟩ = some (.int .i64 0) ∧ W.cell? ⟨wD.heap.size, 5, none⟩ = some (.string (strB awD)) ∧ W.cell? ⟨wD.heap.size, 6, none⟩ = some (.slice none 0 0) ∧ W.cell? ⟨wD.heap.size, 7, none⟩ = some (.int .i64 0) ∧ W.cell? ⟨wD.heap.size, 8, none⟩ = some (.int .i64 0) ∧ W.cell? ⟨wD.heap.size, 9, none⟩ = some (.slice none 0 0) ∧ W.cell? ⟨wD.heap.size, 10, none⟩ = some (.slice none 0 0) ∧ W.cell? ⟨wD.heap.size, 11, none⟩ = some (.slice none 0 0)) W from fun W T h1 h2 => ⟨rowCell h1.at_ 0 _ rfl, rowCell h1.at_ 1 _ rfl, rowCell h2.at_ 0 _ rfl, rowCell h2.at_ 1 _ rfl, rowCell h2.at_ 2 _ rfl, rowCell h2.at_ 3 _ rfl, rowCell h2.at_ 4 _ rfl, rowCell h2.at_ 5 _ rfl, rowCell h2.at_ 6 _ rfl, rowCell h2.at_ 7 _ rfl, rowCell h2.at_ 8 _ rfl, rowCell h2.at_ 9 _ rfl, rowCell h2.at_ 10 _ rfl, rowCell h2.at_ 11 _ rfl⟩)
  have HTa := Lib.hid (show Turn T2 bm wE wE.drew T2 from Turn.below (Below.refl _ _).drew)
  have HXa := Lib.hid (HX.out.turn HTa.out)
  have HMa := Lib.hid (HM3.out.turn HTa.out)
  have HBa := Lib.hid (HBT.out.below (show Below wE.heap.size wE wE.drew from (Below.refl _ _).drew))
  have HS7 := Lib.hid (HK7.out _ _ HXa.out HMa.out)
  go_cut [6] from 37 to 46 (fun s6 wx => ∃ br T5 A3 c3 A4 c4 A5 c5, s6 = .slice (some ⟨br, 0, none⟩) 3 3 ∧ Bth wx w.heap.size g bm g2 1 1 [(1000, awL1), (0, awL2), (0, awL3), (1, awL3), (2, awL3)] T5 ∧ Turn T2 bm wE wx T5 ∧ Held T5 bm wx br #[.int .i64 0, .slice A3 awL3.length c3, .int .i64 1, .slice A4 awL3.length c4, .int .i64 2, .slice A5 awL3.length c5] 40 ∧ HeldV T5 bm wx (.slice A3 awL3.length c3) awL3 ∧ HeldV T5 bm wx (.slice A4 awL3.length c4) awL3 ∧ HeldV T5 bm wx (.slice A5 awL3.length c5) awL3)
  case first =>
    go_region_held3 (fun W => W.cell? ⟨w1.heap.size, 0, none⟩ = some (.pointer (some ⟨g, 0, none⟩)) ∧ W.cell? ⟨w1.heap.size, 1, none⟩ = some (.pointer (some ⟨g2, 0, none⟩)) ∧ W.cell? ⟨wD.heap.size, 0, none⟩ = some (.int .i64 3) ∧ W.cell? ⟨wD.heap.size, 1, none⟩ = some (.int .i64 0) ∧ W.cell? ⟨wD.heap.size, 2, none⟩ = some (.int .i64 1) ∧ W.cell? ⟨wD.heap.size, 3, none⟩ = some (.int .i64 0) ∧ W.cell? ⟨wD.heap.size, 4, none⟩ = some (.int .i64 0) ∧ W.cell? ⟨wD.heap.size, 5, none⟩ = some (.string (strB awD)) ∧ W.cell? ⟨wD.heap.size, 6, none⟩ = some (.slice none 0 0) ∧ W.cell? ⟨wD.heap.size, 7, none⟩ = some (.int .i64 0) ∧ W.cell? ⟨wD.heap.size, 8, none⟩ = some (.int .i64 0) ∧ W.cell? ⟨wD.heap.size, 9, none⟩ = some (.slice none 0 0) ∧ W.cell? ⟨wD.heap.size, 10, none⟩ = some (.slice none 0 0) ∧ W.cell? ⟨wD.heap.size, 11, none⟩ = some (.slice none 0 0)) (first | exact HS7.out | exact HS7b.out | exact HS7c.out | exact HS7d.out | exact HK7.out _ _ (HXd.out.below (alloc1B _ _)) (HMd.out.below (alloc1B _ _))) (first
      | (go_at_call 38; go_loud (refine (HG3.out _ g bm g2 T2 ⟨(none, 0), (none, 0), (none, 0), (none, 0)⟩ HBa.out ⟨Bs.nil _, RowM.none _ _ _, RowM.none _ _ _, RowM.none _ _ _⟩).mono ?_; rintro e w7 ⟨v3, T3, rfl, hf, hb, ht⟩; obtain ⟨A3, c3, rfl, -⟩ := hf.bs.open; have HV3 := Lib.hid hf.held; have HBb := Lib.hid hb; have HTb := Lib.hid (HTa.out.trans ht); have HXb := Lib.hid (HXa.out.turn ht); have HMb := Lib.hid (HMa.out.turn ht); have HS7b := Lib.hid (HK7.out _ _ HXb.out HMb.out); clear hf hb ht HBa))
      | (go_at_call 38; go_loud (refine (HG4.out _ g bm g2 T3 ⟨(none, 0), (none, 0), (none, 0), (none, 0)⟩ HBb.out ⟨Bs.nil _, RowM.none _ _ _, RowM.none _ _ _, RowM.none _ _ _⟩).mono ?_; rintro e w8 ⟨v4, T4, rfl, hf, hb, ht⟩; obtain ⟨A4, c4, rfl, -⟩ := hf.bs.open; have HV4 := Lib.hid hf.held; have HV3 := Lib.hid (HV3.out.turn ht); have HBc := Lib.hid hb; have HTc := Lib.hid (HTb.out.trans ht); have HXc := Lib.hid (HXb.out.turn ht); have HMc := Lib.hid (HMb.out.turn ht); have HS7c := Lib.hid (HK7.out _ _ HXc.out HMc.out); clear hf hb ht HBb))
      | (go_at_call 38; go_loud (refine (HG5.out _ g bm g2 T4 ⟨(none, 0), (none, 0), (none, 0), (none, 0)⟩ HBc.out ⟨Bs.nil _, RowM.none _ _ _, RowM.none _ _ _, RowM.none _ _ _⟩).mono ?_; rintro e w9 ⟨v5, T5, rfl, hf, hb, ht⟩; obtain ⟨A5, c5, rfl, -⟩ := hf.bs.open; have HV5 := Lib.hid hf.held; have HV3 := Lib.hid (HV3.out.turn ht); have HV4 := Lib.hid (HV4.out.turn ht); have HBd := Lib.hid hb; have HTd := Lib.hid (HTc.out.trans ht); have HXd := Lib.hid (HXc.out.turn ht); have HMd := Lib.hid (HMc.out.turn ht); have HS7d := Lib.hid (HK7.out _ _ HXd.out HMd.out); clear hf hb ht HBc)))
    all_goals go_wp2_with fail
    all_goals go_meet
    all_goals exact ⟨_, T5, A3, c3, A4, c4, A5, c5, rfl, HBd.out.below (alloc1B _ _), HTd.out.trans (Turn.below (alloc1B _ _)), Held.new HBd.out, HV3.out.below (alloc1B _ _), HV4.out.below (alloc1B _ _), HV5.out.below (alloc1B _ _)⟩
  case rest =>
  obtain ⟨br, T5, A3, c3, A4, c4, A5, c5, rfl, hB5, hT5, hR5, hv3, hv4, hv5⟩ := hcut
  generalize wc = wF at *
  have HXF := Lib.hid (HX.out.turn hT5)
  have HE1F := Lib.hid (HE1.out.turn hT5)
  have HE2F := Lib.hid (HE2.out.turn hT5)
  have HV1 := Lib.hid (HV1.out.turn hT5)
  have HV2 := Lib.hid (HV2.out.turn hT5)
  have HBF0 := Lib.hid (HB.out.trans (hT5.lowB HBT.out))
  have HAU := Lib.hid (show AuK wF g bm awK from hB5.au)
  have HR5 := Lib.hid hR5
  have HV3 := Lib.hid hv3
  have HV4 := Lib.hid hv4
  have HV5 := Lib.hid hv5
  clear hB5 hT5 hR5 hv3 hv4 hv5 HBT HTa HXa HMa HBa HS7 HK7 HM5 HM3 HRW HG1 HG2 HG3 HG4 HG5
  have HC0 := Lib.hid (Below.refl wF.heap.size wF)
  have hsl1 : ∀ W, (Instr.slice 31 (.slice (some ⟨br, 0, none⟩) 3 3) (some (.int .i64 1)) none none).run Tryz.prog W = .ok (.slice (some ⟨br, 2, none⟩) 2 2) W := fun W => slice_env1 br W
  have hsl2 : ∀ W, (Instr.slice 31 (.slice (some ⟨br, 0, none⟩) 3 3) (some (.int .i64 1)) (some (.int .i64 2)) none).run Tryz.prog W = .ok (.slice (some ⟨br, 2, none⟩) 1 2) W := fun W => slice_env2 br W
  have HEV := Lib.hid (show EnvK wF (some ⟨br, 0, none⟩) 3 [(0, awL3), (1, awL3), (2, awL3)] from envK_row 0 HR5.out.at_ (by simp) (by omega) fun j hj => by
    have hj3 : j < 3 := by simpa using hj
    rcases (show j = 0 ∨ j = 1 ∨ j = 2 by omega) with rfl | rfl | rfl
    · exact ⟨rfl, _, rfl, HV3.out.bs⟩
    · exact ⟨rfl, _, rfl, HV4.out.bs⟩
    · exact ⟨rfl, _, rfl, HV5.out.bs⟩)
  have HEV1 := Lib.hid (show EnvK wF (some ⟨br, 2, none⟩) 2 [(1, awL3), (2, awL3)] from envK_row 2 HR5.out.at_ (by simp) (by omega) fun j hj => by
    have hj3 : j < 2 := by simpa using hj
    rcases (show j = 0 ∨ j = 1 by omega) with rfl | rfl
    · exact ⟨rfl, _, rfl, HV4.out.bs⟩
    · exact ⟨rfl, _, rfl, HV5.out.bs⟩)
  have HEV2 := Lib.hid (show EnvK wF (some ⟨br, 2, none⟩) 2 [(1, awL3)] from envK_row 2 HR5.out.at_ (by simp) (by omega) fun j hj => by
    obtain rfl : j = 0 := by simpa using hj
    exact ⟨rfl, _, rfl, HV4.out.bs⟩)
  have HOK := Lib.hid (show ∀ l : List (Int × List UInt8), (∀ e ∈ l, (e.1 = 0 ∨ e.1 = 1 ∨ e.1 = 2) ∧ e.2 = awL3) → OkEs l from fun l h e he => ⟨by have := (h e he).1; unfold ok64; omega, by rw [(h e he).2]; have := awN.2.1; omega⟩)
  have HPG := Lib.hid (fun (l : List (Int × List UInt8)) (x : Msg × Int) (A : Option Addr) (cc : Nat) (W : World) (hb : Below wF.heap.size wF W) (hl : EnvK W A cc l) (ho : ∀ e ∈ l, (e.1 = 0 ∨ e.1 = 1 ∨ e.1 = 2) ∧ e.2 = awL3) (hx : prepA awK ((0, awL2), l) = x) => show Calls Tryz.prog 24 #[.pointer (some ⟨g, 0, none⟩), .agg #[.int .i64 0, .slice A2 awL2.length c2, .slice A l.length cc]] W (DecN x W) from by
    rw [← hx]
    exact aPrep (HAU.out.below hb (Nat.le_refl _)) ((0, awL2), l) _ A cc (HV2.out.bs.below hb (Nat.le_refl _)) hl (show ok64 0 by unfold ok64; omega) (by have := awN.1; show awL2.length ≤ _; omega) (HOK.out l ho))
  have HP1 := Lib.hid (fun W (hb : Below wF.heap.size wF W) => HPG.out [(1, awL3), (2, awL3)] _ (some ⟨br, 2, none⟩) 2 W hb (HEV1.out.below hb) (by intro e he; simp at he; rcases he with rfl | rfl <;> simp) awP1)
  have HP2 := Lib.hid (fun W (hb : Below wF.heap.size wF W) => HPG.out [(1, awL3)] _ (some ⟨br, 2, none⟩) 2 W hb (HEV2.out.below hb) (by intro e he; simp at he; rcases he with rfl; simp) awP2)
  have HP4 := Lib.hid (fun W (hb : Below wF.heap.size wF W) => HPG.out [(0, awL3), (1, awL3), (2, awL3)] _ (some ⟨br, 0, none⟩) 3 W hb (HEV.out.below hb) (by intro e he; simp at he; rcases he with rfl | rfl | rfl <;> simp) awP4)
  have HK8 := Lib.hid (show ∀ W, Below wF.heap.size wF W → (fun W => Below wF.heap.size wF W ∧ W.cell? ⟨w1.heap.size, 0, none⟩ = some (.pointer (some ⟨g, 0, none⟩)) ∧ W.cell? ⟨w6.heap.size, 0, none⟩ = some (.int .i64 0) ∧ W.cell? ⟨w6.heap.size, 1, none⟩ = some (.slice A2 awL2.length c2)) W from fun W h => ⟨h, cellB (rowCell HXF.out.at_ 0 _ rfl) h, cellB (rowCell HE2F.out.at_ 0 _ rfl) h, cellB (rowCell HE2F.out.at_ 1 _ rfl) h⟩)
  have HRQ := Lib.hid (fun W (hb : Below wF.heap.size wF W) => show Calls Tryz.prog 17 #[.pointer (some ⟨g, 0, none⟩), .agg #[.int .i64 1000, .slice A1 awL1.length c1]] W (ReqN ((1000, 1, [111, 112]), 0) W) from by
    have h1 := aReq (HAU.out.below hb (Nat.le_refl _)) (1000, awL1) _ (HV1.out.bs.below hb (Nat.le_refl _)) (by unfold ok64; omega) (by show awL1.length ≤ _; rw [awE1]; decide)
    rw [awR] at h1
    exact h1)
  have HP3 := Lib.hid (fun W b (hb : Below wF.heap.size wF W) (hr : W.heap[b]? = some (.cells #[.int .i64 1, .slice A4 awL3.length c4, .int .i64 1, .slice A4 awL3.length c4] 40 (0, 0))) => HPG.out [(1, awL3), (1, awL3)] _ (some ⟨b, 0, none⟩) 2 W hb (envK_row 0 hr (by simp) (by omega) fun j hj => by
    have hj3 : j < 2 := by simpa using hj
    rcases (show j = 0 ∨ j = 1 by omega) with rfl | rfl
    · exact ⟨rfl, _, rfl, HV4.out.bs.below hb (Nat.le_refl _)⟩
    · exact ⟨rfl, _, rfl, HV4.out.bs.below hb (Nat.le_refl _)⟩) (by intro e he; simp at he; rcases he with rfl; simp) awP3)
  obtain ⟨xm, hxm⟩ : ∃ x : Msg, x = aw2 := ⟨_, rfl⟩
  have HXS := Lib.hid (show xm.s = 1 by rw [hxm]; rfl)
  rw [← hxm] at HP1
  obtain ⟨xz, hxz⟩ : ∃ x : Msg, x = msg0 := ⟨_, rfl⟩
  rw [← hxz] at HP2 HP3 HP4
  clear hxm hxz HEV HEV1 HEV2 HOK HPG HAU HV1 HV2 HV3 HV4 HV5
  generalize awL1.length = n1 at *
  generalize awL2.length = n2 at *
  generalize awL3.length = n3 at *
  have HBF := Lib.hid (Below.refl wF.heap.size wF)
  go_upto_region 8 with fail
  go_cut [7, 8] from 48 to 56 (fun sb se wx => ∃ bb PP, sb = .pointer (some ⟨bb, 0, none⟩) ∧ se = .int .i64 0 ∧ wx.heap[bb]? = some (.cells (msC xm PP) 57 (0, 0)) ∧ Below wF.heap.size wF wx)
  case first =>
    have HBn := Lib.hid (show Below wF.heap.size wF wF.drew from (Below.refl _ _).drew)
    refine wp_region_held_drew (S := (fun W => Below wF.heap.size wF W ∧ W.cell? ⟨w1.heap.size, 0, none⟩ = some (.pointer (some ⟨g, 0, none⟩)) ∧ W.cell? ⟨w6.heap.size, 0, none⟩ = some (.int .i64 0) ∧ W.cell? ⟨w6.heap.size, 1, none⟩ = some (.slice A2 n2 c2))) (by kernel_rfl) (HK8.out _ (bel2M HBF.out HBn.out)) (fun hHeld => ?_)
    refine tk 0 ?_
    (try simp only [Act.put, sA, sB, sC])
    refine tk 1 ?_
    (try simp only [Act.put, sA, sB, sC])
    refine tk 2 ?_
    (try simp only [Act.put, sA, sB, sC])
    refine tk 3 ?_
    (try simp only [Act.put, sA, sB, sC])
    refine tk 4 ?_
    (try simp only [Act.put, sA, sB, sC])
    refine tk 5 ?_
    (try simp only [Act.put, sA, sB, sC])
    refine wpAnyH_ready (rs := [6, 10]) (by kernel_rfl) (by simp) ?_
    refine AllReadyH.cons (o := ?o7) ?g7 (fun K hK => ?j7) (AllReadyH.cons (o := ?o8) ?g8 (fun K hK => ?j8) AllReadyH.nil)
    case g7 => (simp only [gA, gB, gC]; rfl)
    case g8 => (simp only [gA, gB, gC]; rfl)
    ·
     go_simp
     (go_at_call 24; refine (HP1.out _ (bel2M HBF.out HBn.out)).mono ?_)
     rintro e w2 ⟨P, rfl, hk, hb⟩
     have HBn := Lib.hid (bel2M HBn.out hb)
     refine hK.out _ _ ?_ (fun hHeld => ?_)
     · (try dsimp only); exact HK8.out _ (bel2M HBF.out HBn.out)
     clear hK K
     (try simp only [Act.put, sA, sB, sC])
     refine tk 7 ?_
     (try simp only [Act.put, sA, sB, sC])
     refine tk 8 ?_
     (try simp only [Act.put, sA, sB, sC])
     refine tk 9 ?_
     (try simp only [Act.put, sA, sB, sC])
     refine wpAnyH_ready (rs := [10]) (by kernel_rfl) (by simp) ?_
     refine AllReadyH.cons (o := ?o12) ?g12 (fun K hK => ?j12) AllReadyH.nil
     case g12 => (simp only [gA, gB, gC]; rfl)
     refine step_alloc rfl 57 rfl #[.int .i64 0, .int .i64 0, .int .i64 0, .int .i64 0, .int .i64 0, .string ⟨#[]⟩, .slice none 0 0, .int .i64 0, .int .i64 0, .slice none 0 0, .slice none 0 0, .slice none 0 0] 57 (fun W => by go_simp) ?_
     intro bk wk hz hbk hge
     have HZ := Lib.hid hz
     have HGE := Lib.hid (Nat.le_trans HBn.out.size hge)
     have HBn := Lib.hid (bel2M HBn.out hbk)
     refine hK.out _ _ ?_ (fun hHeld => ?_)
     · (try dsimp only); exact HK8.out _ (bel2M HBF.out HBn.out)
     clear hK K
     (try simp only [Act.put, sA, sB, sC])
     refine wpAnyH_ready (rs := [11]) (by kernel_rfl) (by simp) ?_
     refine AllReadyH.cons (o := ?o13) ?g13 (fun K hK => ?j13) AllReadyH.nil
     case g13 => (simp only [gA, gB, gC]; rfl)
     refine step_store rfl 57 (.tmp 7) (.tmp 55) rfl bk #[.int .i64 xm.k, .int .i64 xm.v, .int .i64 xm.s, .int .i64 xm.c, .int .i64 xm.t, .string (strB xm.d), .slice P.x.1 xm.x.length P.x.2, .int .i64 xm.r.1, .int .i64 xm.r.2, .slice P.b.1 xm.b.length P.b.2, .slice P.p.1 xm.p.length P.p.2, .slice P.q.1 xm.q.length P.q.2] #[.int .i64 0, .int .i64 0, .int .i64 0, .int .i64 0, .int .i64 0, .string ⟨#[]⟩, .slice none 0 0, .int .i64 0, .int .i64 0, .slice none 0 0, .slice none 0 0, .slice none 0 0] rfl rfl HZ.out rfl (by kernel_rfl) (by intro u hu; simp only [List.mem_cons, List.not_mem_nil, or_false] at hu; rcases hu with rfl | rfl | rfl | rfl | rfl | rfl | rfl | rfl | rfl | rfl | rfl | rfl <;> rfl) ?_
     intro w3 hz3 ho3
     have HZ3 := Lib.hid hz3
     have HBn := Lib.hid (onlyBelow HBn.out ho3 HGE.out (Nat.le_refl _))
     refine hK.out _ _ ?_ (fun hHeld => ?_)
     · (try dsimp only); exact HK8.out _ (bel2M HBF.out HBn.out)
     clear hK K
     (try simp only [Act.put, sA, sB, sC])
     refine wpAnyH_ready (rs := [12]) (by kernel_rfl) (by simp) ?_
     refine AllReadyH.cons (o := ?o14) ?g14 (fun K hK => ?j14) AllReadyH.nil
     case g14 => (simp only [gA, gB, gC]; rfl)
     go_simp
     refine hK.out _ _ ?_ (fun hHeld => ?_)
     · (try dsimp only); exact HK8.out _ (bel2M HBF.out HBn.out)
     clear hK K
     (try simp only [Act.put, sA, sB, sC])
     refine wpAnyH_done (by kernel_rfl) ?_ _
     go_wp2_with fail
     go_meet
     exact ⟨bk, P, rfl, rfl, HZ3.out, HBn.out⟩
    ·
     refine step_alloc rfl 57 rfl #[.int .i64 0, .int .i64 0, .int .i64 0, .int .i64 0, .int .i64 0, .string ⟨#[]⟩, .slice none 0 0, .int .i64 0, .int .i64 0, .slice none 0 0, .slice none 0 0, .slice none 0 0] 57 (fun W => by go_simp) ?_
     intro bk wk hz hbk hge
     have HZ := Lib.hid hz
     have HGE := Lib.hid (Nat.le_trans HBn.out.size hge)
     have HBn := Lib.hid (bel2M HBn.out hbk)
     refine hK.out _ _ ?_ (fun hHeld => ?_)
     · (try dsimp only); exact HK8.out _ (bel2M HBF.out HBn.out)
     clear hK K
     (try simp only [Act.put, sA, sB, sC])
     refine wpAnyH_ready (rs := [6]) (by kernel_rfl) (by simp) ?_
     refine AllReadyH.cons (o := ?o15) ?g15 (fun K hK => ?j15) AllReadyH.nil
     case g15 => (simp only [gA, gB, gC]; rfl)
     go_simp
     (go_at_call 24; refine (HP1.out _ (bel2M HBF.out HBn.out)).mono ?_)
     rintro e w2 ⟨P, rfl, hk, hb⟩
     have HBn := Lib.hid (bel2M HBn.out hb)
     have HZ := Lib.hid (heapB HZ.out hb)
     refine hK.out _ _ ?_ (fun hHeld => ?_)
     · (try dsimp only); exact HK8.out _ (bel2M HBF.out HBn.out)
     clear hK K
     (try simp only [Act.put, sA, sB, sC])
     refine tk 7 ?_
     (try simp only [Act.put, sA, sB, sC])
     refine tk 8 ?_
     (try simp only [Act.put, sA, sB, sC])
     refine tk 9 ?_
     (try simp only [Act.put, sA, sB, sC])
     refine wpAnyH_ready (rs := [11]) (by kernel_rfl) (by simp) ?_
     refine AllReadyH.cons (o := ?o19) ?g19 (fun K hK => ?j19) AllReadyH.nil
     case g19 => (simp only [gA, gB, gC]; rfl)
     refine step_store rfl 57 (.tmp 7) (.tmp 55) rfl bk #[.int .i64 xm.k, .int .i64 xm.v, .int .i64 xm.s, .int .i64 xm.c, .int .i64 xm.t, .string (strB xm.d), .slice P.x.1 xm.x.length P.x.2, .int .i64 xm.r.1, .int .i64 xm.r.2, .slice P.b.1 xm.b.length P.b.2, .slice P.p.1 xm.p.length P.p.2, .slice P.q.1 xm.q.length P.q.2] #[.int .i64 0, .int .i64 0, .int .i64 0, .int .i64 0, .int .i64 0, .string ⟨#[]⟩, .slice none 0 0, .int .i64 0, .int .i64 0, .slice none 0 0, .slice none 0 0, .slice none 0 0] rfl rfl HZ.out rfl (by kernel_rfl) (by intro u hu; simp only [List.mem_cons, List.not_mem_nil, or_false] at hu; rcases hu with rfl | rfl | rfl | rfl | rfl | rfl | rfl | rfl | rfl | rfl | rfl | rfl <;> rfl) ?_
     intro w3 hz3 ho3
     have HZ3 := Lib.hid hz3
     have HBn := Lib.hid (onlyBelow HBn.out ho3 HGE.out (Nat.le_refl _))
     refine hK.out _ _ ?_ (fun hHeld => ?_)
     · (try dsimp only); exact HK8.out _ (bel2M HBF.out HBn.out)
     clear hK K
     (try simp only [Act.put, sA, sB, sC])
     refine wpAnyH_ready (rs := [12]) (by kernel_rfl) (by simp) ?_
     refine AllReadyH.cons (o := ?o20) ?g20 (fun K hK => ?j20) AllReadyH.nil
     case g20 => (simp only [gA, gB, gC]; rfl)
     go_simp
     refine hK.out _ _ ?_ (fun hHeld => ?_)
     · (try dsimp only); exact HK8.out _ (bel2M HBF.out HBn.out)
     clear hK K
     (try simp only [Act.put, sA, sB, sC])
     refine wpAnyH_done (by kernel_rfl) ?_ _
     go_wp2_with fail
     go_meet
     exact ⟨bk, P, rfl, rfl, HZ3.out, HBn.out⟩
  case rest =>
  obtain ⟨b7, P7, rfl, rfl, hb7, hB7⟩ := hcut
  have HBF := Lib.hid hB7
  have HQ7 := Lib.hid hb7
  clear hb7 hB7 HP1
  generalize wc = wG at *
  go_upto_region 9 with fail
  go_cut [9, 10] from 58 to 66 (fun sb se wx => ∃ bb PP, sb = .pointer (some ⟨bb, 0, none⟩) ∧ se = .int .i64 32 ∧ wx.heap[bb]? = some (.cells (msC xz PP) 57 (0, 0)) ∧ Below wG.heap.size wG wx)
  case first =>
    have HBn := Lib.hid (show Below wG.heap.size wG wG.drew from (Below.refl _ _).drew)
    refine wp_region_held_drew (S := (fun W => Below wF.heap.size wF W ∧ W.cell? ⟨w1.heap.size, 0, none⟩ = some (.pointer (some ⟨g, 0, none⟩)) ∧ W.cell? ⟨w6.heap.size, 0, none⟩ = some (.int .i64 0) ∧ W.cell? ⟨w6.heap.size, 1, none⟩ = some (.slice A2 n2 c2))) (by kernel_rfl) (HK8.out _ (bel2M HBF.out HBn.out)) (fun hHeld => ?_)
    refine tk 0 ?_
    (try simp only [Act.put, sA, sB, sC])
    refine tk 1 ?_
    (try simp only [Act.put, sA, sB, sC])
    refine tk 2 ?_
    (try simp only [Act.put, sA, sB, sC])
    refine tk 3 ?_
    (try simp only [Act.put, sA, sB, sC])
    refine tk 4 ?_
    (try simp only [Act.put, sA, sB, sC])
    refine tk 5 ?_
    (try simp only [Act.put, sA, sB, sC])
    refine wpAnyH_ready (rs := [6, 10]) (by kernel_rfl) (by simp) ?_
    refine AllReadyH.cons (o := ?o27) ?g27 (fun K hK => ?j27) (AllReadyH.cons (o := ?o28) ?g28 (fun K hK => ?j28) AllReadyH.nil)
    case g27 => (simp only [gA, gB, gC]; rfl)
    case g28 => (simp only [gA, gB, gC]; rfl)
    ·
     go_simp
     (go_at_call 24; refine (HP2.out _ (bel2M HBF.out HBn.out)).mono ?_)
     rintro e w2 ⟨P, rfl, hk, hb⟩
     have HBn := Lib.hid (bel2M HBn.out hb)
     refine hK.out _ _ ?_ (fun hHeld => ?_)
     · (try dsimp only); exact HK8.out _ (bel2M HBF.out HBn.out)
     clear hK K
     (try simp only [Act.put, sA, sB, sC])
     refine tk 7 ?_
     (try simp only [Act.put, sA, sB, sC])
     refine tk 8 ?_
     (try simp only [Act.put, sA, sB, sC])
     refine tk 9 ?_
     (try simp only [Act.put, sA, sB, sC])
     refine wpAnyH_ready (rs := [10]) (by kernel_rfl) (by simp) ?_
     refine AllReadyH.cons (o := ?o32) ?g32 (fun K hK => ?j32) AllReadyH.nil
     case g32 => (simp only [gA, gB, gC]; rfl)
     refine step_alloc rfl 57 rfl #[.int .i64 0, .int .i64 0, .int .i64 0, .int .i64 0, .int .i64 0, .string ⟨#[]⟩, .slice none 0 0, .int .i64 0, .int .i64 0, .slice none 0 0, .slice none 0 0, .slice none 0 0] 57 (fun W => by go_simp) ?_
     intro bk wk hz hbk hge
     have HZ := Lib.hid hz
     have HGE := Lib.hid (Nat.le_trans HBn.out.size hge)
     have HBn := Lib.hid (bel2M HBn.out hbk)
     refine hK.out _ _ ?_ (fun hHeld => ?_)
     · (try dsimp only); exact HK8.out _ (bel2M HBF.out HBn.out)
     clear hK K
     (try simp only [Act.put, sA, sB, sC])
     refine wpAnyH_ready (rs := [11]) (by kernel_rfl) (by simp) ?_
     refine AllReadyH.cons (o := ?o33) ?g33 (fun K hK => ?j33) AllReadyH.nil
     case g33 => (simp only [gA, gB, gC]; rfl)
     refine step_store rfl 57 (.tmp 9) (.tmp 65) rfl bk #[.int .i64 xz.k, .int .i64 xz.v, .int .i64 xz.s, .int .i64 xz.c, .int .i64 xz.t, .string (strB xz.d), .slice P.x.1 xz.x.length P.x.2, .int .i64 xz.r.1, .int .i64 xz.r.2, .slice P.b.1 xz.b.length P.b.2, .slice P.p.1 xz.p.length P.p.2, .slice P.q.1 xz.q.length P.q.2] #[.int .i64 0, .int .i64 0, .int .i64 0, .int .i64 0, .int .i64 0, .string ⟨#[]⟩, .slice none 0 0, .int .i64 0, .int .i64 0, .slice none 0 0, .slice none 0 0, .slice none 0 0] rfl rfl HZ.out rfl (by kernel_rfl) (by intro u hu; simp only [List.mem_cons, List.not_mem_nil, or_false] at hu; rcases hu with rfl | rfl | rfl | rfl | rfl | rfl | rfl | rfl | rfl | rfl | rfl | rfl <;> rfl) ?_
     intro w3 hz3 ho3
     have HZ3 := Lib.hid hz3
     have HBn := Lib.hid (onlyBelow HBn.out ho3 HGE.out (Nat.le_refl _))
     refine hK.out _ _ ?_ (fun hHeld => ?_)
     · (try dsimp only); exact HK8.out _ (bel2M HBF.out HBn.out)
     clear hK K
     (try simp only [Act.put, sA, sB, sC])
     refine wpAnyH_ready (rs := [12]) (by kernel_rfl) (by simp) ?_
     refine AllReadyH.cons (o := ?o34) ?g34 (fun K hK => ?j34) AllReadyH.nil
     case g34 => (simp only [gA, gB, gC]; rfl)
     go_simp
     refine hK.out _ _ ?_ (fun hHeld => ?_)
     · (try dsimp only); exact HK8.out _ (bel2M HBF.out HBn.out)
     clear hK K
     (try simp only [Act.put, sA, sB, sC])
     refine wpAnyH_done (by kernel_rfl) ?_ _
     go_wp2_with fail
     go_meet
     exact ⟨bk, P, rfl, rfl, HZ3.out, HBn.out⟩
    ·
     refine step_alloc rfl 57 rfl #[.int .i64 0, .int .i64 0, .int .i64 0, .int .i64 0, .int .i64 0, .string ⟨#[]⟩, .slice none 0 0, .int .i64 0, .int .i64 0, .slice none 0 0, .slice none 0 0, .slice none 0 0] 57 (fun W => by go_simp) ?_
     intro bk wk hz hbk hge
     have HZ := Lib.hid hz
     have HGE := Lib.hid (Nat.le_trans HBn.out.size hge)
     have HBn := Lib.hid (bel2M HBn.out hbk)
     refine hK.out _ _ ?_ (fun hHeld => ?_)
     · (try dsimp only); exact HK8.out _ (bel2M HBF.out HBn.out)
     clear hK K
     (try simp only [Act.put, sA, sB, sC])
     refine wpAnyH_ready (rs := [6]) (by kernel_rfl) (by simp) ?_
     refine AllReadyH.cons (o := ?o35) ?g35 (fun K hK => ?j35) AllReadyH.nil
     case g35 => (simp only [gA, gB, gC]; rfl)
     go_simp
     (go_at_call 24; refine (HP2.out _ (bel2M HBF.out HBn.out)).mono ?_)
     rintro e w2 ⟨P, rfl, hk, hb⟩
     have HBn := Lib.hid (bel2M HBn.out hb)
     have HZ := Lib.hid (heapB HZ.out hb)
     refine hK.out _ _ ?_ (fun hHeld => ?_)
     · (try dsimp only); exact HK8.out _ (bel2M HBF.out HBn.out)
     clear hK K
     (try simp only [Act.put, sA, sB, sC])
     refine tk 7 ?_
     (try simp only [Act.put, sA, sB, sC])
     refine tk 8 ?_
     (try simp only [Act.put, sA, sB, sC])
     refine tk 9 ?_
     (try simp only [Act.put, sA, sB, sC])
     refine wpAnyH_ready (rs := [11]) (by kernel_rfl) (by simp) ?_
     refine AllReadyH.cons (o := ?o39) ?g39 (fun K hK => ?j39) AllReadyH.nil
     case g39 => (simp only [gA, gB, gC]; rfl)
     refine step_store rfl 57 (.tmp 9) (.tmp 65) rfl bk #[.int .i64 xz.k, .int .i64 xz.v, .int .i64 xz.s, .int .i64 xz.c, .int .i64 xz.t, .string (strB xz.d), .slice P.x.1 xz.x.length P.x.2, .int .i64 xz.r.1, .int .i64 xz.r.2, .slice P.b.1 xz.b.length P.b.2, .slice P.p.1 xz.p.length P.p.2, .slice P.q.1 xz.q.length P.q.2] #[.int .i64 0, .int .i64 0, .int .i64 0, .int .i64 0, .int .i64 0, .string ⟨#[]⟩, .slice none 0 0, .int .i64 0, .int .i64 0, .slice none 0 0, .slice none 0 0, .slice none 0 0] rfl rfl HZ.out rfl (by kernel_rfl) (by intro u hu; simp only [List.mem_cons, List.not_mem_nil, or_false] at hu; rcases hu with rfl | rfl | rfl | rfl | rfl | rfl | rfl | rfl | rfl | rfl | rfl | rfl <;> rfl) ?_
     intro w3 hz3 ho3
     have HZ3 := Lib.hid hz3
     have HBn := Lib.hid (onlyBelow HBn.out ho3 HGE.out (Nat.le_refl _))
     refine hK.out _ _ ?_ (fun hHeld => ?_)
     · (try dsimp only); exact HK8.out _ (bel2M HBF.out HBn.out)
     clear hK K
     (try simp only [Act.put, sA, sB, sC])
     refine wpAnyH_ready (rs := [12]) (by kernel_rfl) (by simp) ?_
     refine AllReadyH.cons (o := ?o40) ?g40 (fun K hK => ?j40) AllReadyH.nil
     case g40 => (simp only [gA, gB, gC]; rfl)
     go_simp
     refine hK.out _ _ ?_ (fun hHeld => ?_)
     · (try dsimp only); exact HK8.out _ (bel2M HBF.out HBn.out)
     clear hK K
     (try simp only [Act.put, sA, sB, sC])
     refine wpAnyH_done (by kernel_rfl) ?_ _
     go_wp2_with fail
     go_meet
     exact ⟨bk, P, rfl, rfl, HZ3.out, HBn.out⟩
  case rest =>
  obtain ⟨b9, P9, rfl, rfl, -, hB9⟩ := hcut
  have HBF := Lib.hid (bel2M HBF.out hB9)
  have HQ7 := Lib.hid (heapB HQ7.out hB9)
  clear hB9 HP2
  generalize wc = wH at *
  go_upto_region 10 with fail
  go_cut [11, 12] from 68 to 81 (fun sb se wx => ∃ bb PP, sb = .pointer (some ⟨bb, 0, none⟩) ∧ se = .int .i64 33 ∧ wx.heap[bb]? = some (.cells (msC xz PP) 57 (0, 0)) ∧ Below wH.heap.size wH wx)
  case first =>
    have HBn := Lib.hid (show Below wH.heap.size wH wH.drew from (Below.refl _ _).drew)
    have HK10 := Lib.hid (show ∀ W, Below wF.heap.size wF W → (fun W => Below wF.heap.size wF W ∧ W.cell? ⟨w1.heap.size, 0, none⟩ = some (.pointer (some ⟨g, 0, none⟩)) ∧ W.cell? ⟨w6.heap.size, 0, none⟩ = some (.int .i64 0) ∧ W.cell? ⟨w6.heap.size, 1, none⟩ = some (.slice A2 n2 c2) ∧ W.cell? ⟨br, 2, none⟩ = some (.int .i64 1) ∧ W.cell? ⟨br, 3, none⟩ = some (.slice A4 n3 c4)) W from fun W h => ⟨h, cellB (rowCell HXF.out.at_ 0 _ rfl) h, cellB (rowCell HE2F.out.at_ 0 _ rfl) h, cellB (rowCell HE2F.out.at_ 1 _ rfl) h, cellB (rowCell HR5.out.at_ 2 _ rfl) h, cellB (rowCell HR5.out.at_ 3 _ rfl) h⟩)
    refine wp_region_held_drew (S := (fun W => Below wF.heap.size wF W ∧ W.cell? ⟨w1.heap.size, 0, none⟩ = some (.pointer (some ⟨g, 0, none⟩)) ∧ W.cell? ⟨w6.heap.size, 0, none⟩ = some (.int .i64 0) ∧ W.cell? ⟨w6.heap.size, 1, none⟩ = some (.slice A2 n2 c2) ∧ W.cell? ⟨br, 2, none⟩ = some (.int .i64 1) ∧ W.cell? ⟨br, 3, none⟩ = some (.slice A4 n3 c4))) (by kernel_rfl) (HK10.out _ (bel2M HBF.out HBn.out)) (fun hHeld => ?_)
    refine tk 0 ?_
    (try simp only [Act.put, sA, sB, sC])
    refine tk 1 ?_
    (try simp only [Act.put, sA, sB, sC])
    refine tk 2 ?_
    (try simp only [Act.put, sA, sB, sC])
    refine tk 3 ?_
    (try simp only [Act.put, sA, sB, sC])
    refine tk 4 ?_
    (try simp only [Act.put, sA, sB, sC])
    refine tk 5 ?_
    (try simp only [Act.put, sA, sB, sC])
    refine tk 6 ?_
    (try simp only [Act.put, sA, sB, sC])
    refine tk 7 ?_
    (try simp only [Act.put, sA, sB, sC])
    refine tk 8 ?_
    (try simp only [Act.put, sA, sB, sC])
    refine wpAnyH_ready (rs := [9, 15]) (by kernel_rfl) (by simp) ?_
    refine AllReadyH.cons (o := ?o50) ?g50 (fun K hK => ?j50) (AllReadyH.cons (o := ?o51) ?g51 (fun K hK => ?j51) AllReadyH.nil)
    case g50 => (simp only [gA, gB, gC]; rfl)
    case g51 => (simp only [gA, gB, gC]; rfl)
    ·
     go_simp
     refine hK.out _ _ ?_ (fun hHeld => ?_)
     · (try dsimp only); (have HBr := Lib.hid (bel2M HBn.out (alloc1B wH.drew (.cells #[.int .i64 1, .slice A4 n3 c4, .int .i64 1, .slice A4 n3 c4] 40)))); exact HK10.out _ (bel2M HBF.out HBr.out)
     clear hK K
     (try simp only [Act.put, sA, sB, sC])
     have HRW := Lib.hid (heap_alloc_new wH.drew (.cells #[.int .i64 1, .slice A4 n3 c4, .int .i64 1, .slice A4 n3 c4] 40))
     replace HBn := Lib.hid (bel2M HBn.out (alloc1B wH.drew (.cells #[.int .i64 1, .slice A4 n3 c4, .int .i64 1, .slice A4 n3 c4] 40)))
     refine tk 10 ?_
     (try simp only [Act.put, sA, sB, sC])
     refine wpAnyH_ready (rs := [11, 15]) (by kernel_rfl) (by simp) ?_
     refine AllReadyH.cons (o := ?o53) ?g53 (fun K hK => ?j53) (AllReadyH.cons (o := ?o54) ?g54 (fun K hK => ?j54) AllReadyH.nil)
     case g53 => (simp only [gA, gB, gC]; rfl)
     case g54 => (simp only [gA, gB, gC]; rfl)
     ·
      go_simp
      (go_at_call 24; refine (HP3.out _ _ (bel2M HBF.out HBn.out) HRW.out).mono ?_)
      rintro e w2 ⟨P, rfl, hk, hb⟩
      have HBn := Lib.hid (bel2M HBn.out hb)
      refine hK.out _ _ ?_ (fun hHeld => ?_)
      · (try dsimp only); exact HK10.out _ (bel2M HBF.out HBn.out)
      clear hK K
      (try simp only [Act.put, sA, sB, sC])
      refine tk 12 ?_
      (try simp only [Act.put, sA, sB, sC])
      refine tk 13 ?_
      (try simp only [Act.put, sA, sB, sC])
      refine tk 14 ?_
      (try simp only [Act.put, sA, sB, sC])
      refine wpAnyH_ready (rs := [15]) (by kernel_rfl) (by simp) ?_
      refine AllReadyH.cons (o := ?o58) ?g58 (fun K hK => ?j58) AllReadyH.nil
      case g58 => (simp only [gA, gB, gC]; rfl)
      refine step_alloc rfl 57 rfl #[.int .i64 0, .int .i64 0, .int .i64 0, .int .i64 0, .int .i64 0, .string ⟨#[]⟩, .slice none 0 0, .int .i64 0, .int .i64 0, .slice none 0 0, .slice none 0 0, .slice none 0 0] 57 (fun W => by go_simp) ?_
      intro bk wk hz hbk hge
      have HZ := Lib.hid hz
      have HGE := Lib.hid (Nat.le_trans HBn.out.size hge)
      have HBn := Lib.hid (bel2M HBn.out hbk)
      refine hK.out _ _ ?_ (fun hHeld => ?_)
      · (try dsimp only); exact HK10.out _ (bel2M HBF.out HBn.out)
      clear hK K
      (try simp only [Act.put, sA, sB, sC])
      refine wpAnyH_ready (rs := [16]) (by kernel_rfl) (by simp) ?_
      refine AllReadyH.cons (o := ?o59) ?g59 (fun K hK => ?j59) AllReadyH.nil
      case g59 => (simp only [gA, gB, gC]; rfl)
      refine step_store rfl 57 (.tmp 11) (.tmp 80) rfl bk #[.int .i64 xz.k, .int .i64 xz.v, .int .i64 xz.s, .int .i64 xz.c, .int .i64 xz.t, .string (strB xz.d), .slice P.x.1 xz.x.length P.x.2, .int .i64 xz.r.1, .int .i64 xz.r.2, .slice P.b.1 xz.b.length P.b.2, .slice P.p.1 xz.p.length P.p.2, .slice P.q.1 xz.q.length P.q.2] #[.int .i64 0, .int .i64 0, .int .i64 0, .int .i64 0, .int .i64 0, .string ⟨#[]⟩, .slice none 0 0, .int .i64 0, .int .i64 0, .slice none 0 0, .slice none 0 0, .slice none 0 0] rfl rfl HZ.out rfl (by kernel_rfl) (by intro u hu; simp only [List.mem_cons, List.not_mem_nil, or_false] at hu; rcases hu with rfl | rfl | rfl | rfl | rfl | rfl | rfl | rfl | rfl | rfl | rfl | rfl <;> rfl) ?_
      intro w3 hz3 ho3
      have HZ3 := Lib.hid hz3
      have HBn := Lib.hid (onlyBelow HBn.out ho3 HGE.out (Nat.le_refl _))
      refine hK.out _ _ ?_ (fun hHeld => ?_)
      · (try dsimp only); exact HK10.out _ (bel2M HBF.out HBn.out)
      clear hK K
      (try simp only [Act.put, sA, sB, sC])
      refine wpAnyH_ready (rs := [17]) (by kernel_rfl) (by simp) ?_
      refine AllReadyH.cons (o := ?o60) ?g60 (fun K hK => ?j60) AllReadyH.nil
      case g60 => (simp only [gA, gB, gC]; rfl)
      go_simp
      refine hK.out _ _ ?_ (fun hHeld => ?_)
      · (try dsimp only); exact HK10.out _ (bel2M HBF.out HBn.out)
      clear hK K
      (try simp only [Act.put, sA, sB, sC])
      refine wpAnyH_done (by kernel_rfl) ?_ _
      go_wp2_with fail
      go_meet
      exact ⟨bk, P, rfl, rfl, HZ3.out, HBn.out⟩
     ·
      refine step_alloc rfl 57 rfl #[.int .i64 0, .int .i64 0, .int .i64 0, .int .i64 0, .int .i64 0, .string ⟨#[]⟩, .slice none 0 0, .int .i64 0, .int .i64 0, .slice none 0 0, .slice none 0 0, .slice none 0 0] 57 (fun W => by go_simp) ?_
      intro bk wk hz hbk hge
      have HZ := Lib.hid hz
      have HGE := Lib.hid (Nat.le_trans HBn.out.size hge)
      have HBn := Lib.hid (bel2M HBn.out hbk)
      have HRW := Lib.hid (heapB HRW.out hbk)
      refine hK.out _ _ ?_ (fun hHeld => ?_)
      · (try dsimp only); exact HK10.out _ (bel2M HBF.out HBn.out)
      clear hK K
      (try simp only [Act.put, sA, sB, sC])
      refine wpAnyH_ready (rs := [11]) (by kernel_rfl) (by simp) ?_
      refine AllReadyH.cons (o := ?o61) ?g61 (fun K hK => ?j61) AllReadyH.nil
      case g61 => (simp only [gA, gB, gC]; rfl)
      go_simp
      (go_at_call 24; refine (HP3.out _ _ (bel2M HBF.out HBn.out) HRW.out).mono ?_)
      rintro e w2 ⟨P, rfl, hk, hb⟩
      have HBn := Lib.hid (bel2M HBn.out hb)
      have HZ := Lib.hid (heapB HZ.out hb)
      refine hK.out _ _ ?_ (fun hHeld => ?_)
      · (try dsimp only); exact HK10.out _ (bel2M HBF.out HBn.out)
      clear hK K
      (try simp only [Act.put, sA, sB, sC])
      refine tk 12 ?_
      (try simp only [Act.put, sA, sB, sC])
      refine tk 13 ?_
      (try simp only [Act.put, sA, sB, sC])
      refine tk 14 ?_
      (try simp only [Act.put, sA, sB, sC])
      refine wpAnyH_ready (rs := [16]) (by kernel_rfl) (by simp) ?_
      refine AllReadyH.cons (o := ?o65) ?g65 (fun K hK => ?j65) AllReadyH.nil
      case g65 => (simp only [gA, gB, gC]; rfl)
      refine step_store rfl 57 (.tmp 11) (.tmp 80) rfl bk #[.int .i64 xz.k, .int .i64 xz.v, .int .i64 xz.s, .int .i64 xz.c, .int .i64 xz.t, .string (strB xz.d), .slice P.x.1 xz.x.length P.x.2, .int .i64 xz.r.1, .int .i64 xz.r.2, .slice P.b.1 xz.b.length P.b.2, .slice P.p.1 xz.p.length P.p.2, .slice P.q.1 xz.q.length P.q.2] #[.int .i64 0, .int .i64 0, .int .i64 0, .int .i64 0, .int .i64 0, .string ⟨#[]⟩, .slice none 0 0, .int .i64 0, .int .i64 0, .slice none 0 0, .slice none 0 0, .slice none 0 0] rfl rfl HZ.out rfl (by kernel_rfl) (by intro u hu; simp only [List.mem_cons, List.not_mem_nil, or_false] at hu; rcases hu with rfl | rfl | rfl | rfl | rfl | rfl | rfl | rfl | rfl | rfl | rfl | rfl <;> rfl) ?_
      intro w3 hz3 ho3
      have HZ3 := Lib.hid hz3
      have HBn := Lib.hid (onlyBelow HBn.out ho3 HGE.out (Nat.le_refl _))
      refine hK.out _ _ ?_ (fun hHeld => ?_)
      · (try dsimp only); exact HK10.out _ (bel2M HBF.out HBn.out)
      clear hK K
      (try simp only [Act.put, sA, sB, sC])
      refine wpAnyH_ready (rs := [17]) (by kernel_rfl) (by simp) ?_
      refine AllReadyH.cons (o := ?o66) ?g66 (fun K hK => ?j66) AllReadyH.nil
      case g66 => (simp only [gA, gB, gC]; rfl)
      go_simp
      refine hK.out _ _ ?_ (fun hHeld => ?_)
      · (try dsimp only); exact HK10.out _ (bel2M HBF.out HBn.out)
      clear hK K
      (try simp only [Act.put, sA, sB, sC])
      refine wpAnyH_done (by kernel_rfl) ?_ _
      go_wp2_with fail
      go_meet
      exact ⟨bk, P, rfl, rfl, HZ3.out, HBn.out⟩
    ·
     refine step_alloc rfl 57 rfl #[.int .i64 0, .int .i64 0, .int .i64 0, .int .i64 0, .int .i64 0, .string ⟨#[]⟩, .slice none 0 0, .int .i64 0, .int .i64 0, .slice none 0 0, .slice none 0 0, .slice none 0 0] 57 (fun W => by go_simp) ?_
     intro bk wk hz hbk hge
     have HZ := Lib.hid hz
     have HGE := Lib.hid (Nat.le_trans HBn.out.size hge)
     have HBn := Lib.hid (bel2M HBn.out hbk)
     refine hK.out _ _ ?_ (fun hHeld => ?_)
     · (try dsimp only); exact HK10.out _ (bel2M HBF.out HBn.out)
     clear hK K
     (try simp only [Act.put, sA, sB, sC])
     refine wpAnyH_ready (rs := [9]) (by kernel_rfl) (by simp) ?_
     refine AllReadyH.cons (o := ?o67) ?g67 (fun K hK => ?j67) AllReadyH.nil
     case g67 => (simp only [gA, gB, gC]; rfl)
     go_simp
     refine hK.out _ _ ?_ (fun hHeld => ?_)
     · (try dsimp only); (have HBr := Lib.hid (bel2M HBn.out (alloc1B wk (.cells #[.int .i64 1, .slice A4 n3 c4, .int .i64 1, .slice A4 n3 c4] 40)))); exact HK10.out _ (bel2M HBF.out HBr.out)
     clear hK K
     (try simp only [Act.put, sA, sB, sC])
     have HRW := Lib.hid (heap_alloc_new wk (.cells #[.int .i64 1, .slice A4 n3 c4, .int .i64 1, .slice A4 n3 c4] 40))
     have HZ := Lib.hid (heapB HZ.out (alloc1B wk (.cells #[.int .i64 1, .slice A4 n3 c4, .int .i64 1, .slice A4 n3 c4] 40)))
     replace HBn := Lib.hid (bel2M HBn.out (alloc1B wk (.cells #[.int .i64 1, .slice A4 n3 c4, .int .i64 1, .slice A4 n3 c4] 40)))
     refine tk 10 ?_
     (try simp only [Act.put, sA, sB, sC])
     refine wpAnyH_ready (rs := [11]) (by kernel_rfl) (by simp) ?_
     refine AllReadyH.cons (o := ?o69) ?g69 (fun K hK => ?j69) AllReadyH.nil
     case g69 => (simp only [gA, gB, gC]; rfl)
     go_simp
     (go_at_call 24; refine (HP3.out _ _ (bel2M HBF.out HBn.out) HRW.out).mono ?_)
     rintro e w2 ⟨P, rfl, hk, hb⟩
     have HBn := Lib.hid (bel2M HBn.out hb)
     have HZ := Lib.hid (heapB HZ.out hb)
     refine hK.out _ _ ?_ (fun hHeld => ?_)
     · (try dsimp only); exact HK10.out _ (bel2M HBF.out HBn.out)
     clear hK K
     (try simp only [Act.put, sA, sB, sC])
     refine tk 12 ?_
     (try simp only [Act.put, sA, sB, sC])
     refine tk 13 ?_
     (try simp only [Act.put, sA, sB, sC])
     refine tk 14 ?_
     (try simp only [Act.put, sA, sB, sC])
     refine wpAnyH_ready (rs := [16]) (by kernel_rfl) (by simp) ?_
     refine AllReadyH.cons (o := ?o73) ?g73 (fun K hK => ?j73) AllReadyH.nil
     case g73 => (simp only [gA, gB, gC]; rfl)
     refine step_store rfl 57 (.tmp 11) (.tmp 80) rfl bk #[.int .i64 xz.k, .int .i64 xz.v, .int .i64 xz.s, .int .i64 xz.c, .int .i64 xz.t, .string (strB xz.d), .slice P.x.1 xz.x.length P.x.2, .int .i64 xz.r.1, .int .i64 xz.r.2, .slice P.b.1 xz.b.length P.b.2, .slice P.p.1 xz.p.length P.p.2, .slice P.q.1 xz.q.length P.q.2] #[.int .i64 0, .int .i64 0, .int .i64 0, .int .i64 0, .int .i64 0, .string ⟨#[]⟩, .slice none 0 0, .int .i64 0, .int .i64 0, .slice none 0 0, .slice none 0 0, .slice none 0 0] rfl rfl HZ.out rfl (by kernel_rfl) (by intro u hu; simp only [List.mem_cons, List.not_mem_nil, or_false] at hu; rcases hu with rfl | rfl | rfl | rfl | rfl | rfl | rfl | rfl | rfl | rfl | rfl | rfl <;> rfl) ?_
     intro w3 hz3 ho3
     have HZ3 := Lib.hid hz3
     have HBn := Lib.hid (onlyBelow HBn.out ho3 HGE.out (Nat.le_refl _))
     refine hK.out _ _ ?_ (fun hHeld => ?_)
     · (try dsimp only); exact HK10.out _ (bel2M HBF.out HBn.out)
     clear hK K
     (try simp only [Act.put, sA, sB, sC])
     refine wpAnyH_ready (rs := [17]) (by kernel_rfl) (by simp) ?_
     refine AllReadyH.cons (o := ?o74) ?g74 (fun K hK => ?j74) AllReadyH.nil
     case g74 => (simp only [gA, gB, gC]; rfl)
     go_simp
     refine hK.out _ _ ?_ (fun hHeld => ?_)
     · (try dsimp only); exact HK10.out _ (bel2M HBF.out HBn.out)
     clear hK K
     (try simp only [Act.put, sA, sB, sC])
     refine wpAnyH_done (by kernel_rfl) ?_ _
     go_wp2_with fail
     go_meet
     exact ⟨bk, P, rfl, rfl, HZ3.out, HBn.out⟩
  case rest =>
  obtain ⟨b11, P11, rfl, rfl, -, hB11⟩ := hcut
  have HBF := Lib.hid (bel2M HBF.out hB11)
  have HQ7 := Lib.hid (heapB HQ7.out hB11)
  clear hB11 HP3
  generalize wc = wI at *
  obtain ⟨-, k0, k1, k2⟩ := HK8.out _ HBF.out
  go_wp2_with (first
    | (go_at_call 24; go_loud (refine (HP4.out _ HBF.out).mono ?_; rintro e w11 ⟨P4, rfl, hk4, hb⟩; have HBN := Lib.hid (bel2M (bel2M HBF.out hb) (alloc1B w11 (.cells (msC xz P4) 57))); have HQ7 := Lib.hid (heapB (heapB HQ7.out hb) (alloc1B w11 (.cells (msC xz P4) 57))); obtain ⟨-, k0, -, -⟩ := HK8.out _ HBN.out; have j0 := cellB (rowCell HE1F.out.at_ 0 (.int .i64 1000) rfl) HBN.out; have j1 := cellB (rowCell HE1F.out.at_ 1 (.slice A1 n1 c1) rfl) HBN.out; clear hb hk4))
    | (go_at_call 17; go_loud (refine (HRQ.out _ HBN.out).mono ?_; rintro e w12 ⟨A6, c6, rfl, hk6, hb⟩; have HBO := Lib.hid (bel2M (bel2M HBN.out hb) (alloc1B w12 (.cells #[.int .i64 1000, .int .i64 1, .slice A6 2 c6] 35))); have HQ7 := Lib.hid (heapB (heapB HQ7.out hb) (alloc1B w12 (.cells #[.int .i64 1000, .int .i64 1, .slice A6 2 c6] 35))); have s7 := rowCell HQ7.out 2 (.int .i64 xm.s) rfl; rw [HXS.out] at s7; have i1 := rowCell (heap_alloc_new w12 (.cells #[.int .i64 1000, .int .i64 1, .slice A6 2 c6] 35)) 1 (.int .i64 1) rfl; have i2 := rowCell (heap_alloc_new w12 (.cells #[.int .i64 1000, .int .i64 1, .slice A6 2 c6] 35)) 2 (.slice A6 2 c6) rfl; have hst : (convert 33 9 (.slice A6 2 c6)).run Tryz.prog (w12.alloc (.cells #[.int .i64 1000, .int .i64 1, .slice A6 2 c6] 35)) = .ok (.string ⟨#[111, 112]⟩) (w12.alloc (.cells #[.int .i64 1000, .int .i64 1, .slice A6 2 c6] 35)) := run_str (hk6 _ (kpb_below (alloc1B w12 (.cells #[.int .i64 1000, .int .i64 1, .slice A6 2 c6] 35)))); clear hb hk6)))
  go_ret
  exact ⟨rfl, bel2M HBF0.out HBO.out⟩

theorem bne_of {n : Int} (h : n ≠ 0) : (n != 0) = true := by simpa using h
set_option maxHeartbeats 8000000 in
theorem CertForged_any (F C v s p : Int) (A : Option Addr) (cc : Nat) (vs : List Vt) (w : World) (hvs : VtK w A cc vs) (hp : ok64 p) (hok : ∀ x ∈ vs, ok64 x.s) : Calls Tryz.prog 7 #[.agg #[.int .i64 F, .int .i64 C], .agg #[.int .i64 v, .int .i64 s, .int .i64 p, .slice A vs.length cc]] w (AskB true w) := by
  obtain ⟨x1, x2, x3⟩ := box2B w #[.int .i64 F, .int .i64 C] #[.int .i64 v, .int .i64 s, .int .i64 p, .slice A vs.length cc] 23 48
  have HBN := Lib.hid (fun W => bounds_any v s p A vs.length cc W)
  have HAW := Lib.hid (fun W => awake13_any W)
  rcases hb : bndC v s vs.length with _ | _
  · rw [hb] at HBN
    clear hb
    go_enter Tryz.func7, Tryz.ntmps7
    go_upto_region 1 with fail
    generalize hw0 : (w.alloc _).alloc _ = w0 at *
    have HB := Lib.hid x3
    have c0 := rowCell x2 0 (.int .i64 v) rfl
    have c1 := rowCell x2 1 (.int .i64 s) rfl
    have c2 := rowCell x2 2 (.int .i64 p) rfl
    have c3 := rowCell x2 3 (.slice A vs.length cc) rfl
    clear x1 x2 x3 hw0
    go_wp2_with (first
      | (go_at_call 22; refine (HBN.out _).mono ?_; rintro e w1 ⟨rfl, hb⟩; have HB1 := Lib.hid (bel2M HB.out hb); clear hb)
      | (go_at_call 21; refine (HAW.out _).mono ?_; rintro e w2 ⟨rfl, hb⟩; have HB2 := Lib.hid (bel2M HB1.out hb); clear hb))
    go_ret
    exact ⟨rfl, HB2.out⟩
  rw [hb] at HBN
  have HBI := Lib.hid (bnd_iff hb)
  have HVS := Lib.hid hvs
  have HP := Lib.hid hp
  have HOK := Lib.hid hok
  have HLW := Lib.hid (show w.heap.size + 1 < ((w.alloc (.cells #[.int .i64 F, .int .i64 C] 23)).alloc (.cells #[.int .i64 v, .int .i64 s, .int .i64 p, .slice A vs.length cc] 48)).heap.size from (Array.getElem?_eq_some_iff.1 x2).1)
  clear hb hvs hp hok
  go_enter Tryz.func7, Tryz.ntmps7
  go_upto_region 1 with fail
  generalize hw0 : (w.alloc _).alloc _ = w0 at *
  have HS0 := Lib.hid x1
  have HC0 := Lib.hid x2
  have HB0 := Lib.hid x3
  have c0 := rowCell x2 0 (.int .i64 v) rfl
  have c1 := rowCell x2 1 (.int .i64 s) rfl
  have c2 := rowCell x2 2 (.int .i64 p) rfl
  have c3 := rowCell x2 3 (.slice A vs.length cc) rfl
  clear x1 x2 x3 hw0
  go_upto_region 4 with (first
    | (go_at_call 22; refine (HBN.out _).mono ?_; rintro e w1 ⟨rfl, hb⟩; have HB1 := Lib.hid (bel2M HB0.out hb); have HS1 := Lib.hid (heapB HS0.out hb); have HC1 := Lib.hid (heapB HC0.out hb); have HL1 := Lib.hid (show w.heap.size + 1 < w1.heap.size from Nat.lt_of_lt_of_le HLW.out hb.size); have s0 := rowCell HS1.out 0 (.int .i64 F) rfl; have s1 := rowCell HS1.out 1 (.int .i64 C) rfl; clear hb)
    | (go_at_call 15; go_loud (refine (begun_any F C _).mono ?_; rintro e wB ⟨g, bm, g2, T, rfl, hbt, hbb⟩; have HBT := Lib.hid hbt; have HB2 := Lib.hid (bel2M HB1.out hbb); have HS2 := Lib.hid (heapB HS1.out hbb); have HC2 := Lib.hid (heapB HC1.out hbb); clear hbt hbb)))
  have HX := Lib.hid (Held.new (cs := #[.pointer (some ⟨g, 0, none⟩), .pointer (some ⟨g2, 0, none⟩)]) (t := 29) HBT.out)
  have HBT := Lib.hid (HBT.out.below (alloc1B wB (.cells #[.pointer (some ⟨g, 0, none⟩), .pointer (some ⟨g2, 0, none⟩)] 29)))
  have HB3 := Lib.hid (bel2M HB2.out (alloc1B wB (.cells #[.pointer (some ⟨g, 0, none⟩), .pointer (some ⟨g2, 0, none⟩)] 29)))
  have HS3 := Lib.hid (heapB HS2.out (alloc1B wB (.cells #[.pointer (some ⟨g, 0, none⟩), .pointer (some ⟨g2, 0, none⟩)] 29)))
  have HC3 := Lib.hid (heapB HC2.out (alloc1B wB (.cells #[.pointer (some ⟨g, 0, none⟩), .pointer (some ⟨g2, 0, none⟩)] 29)))
  generalize hwn : wB.alloc _ = wC at *
  clear hwn c0 c1 c2 c3 s0 s1
  have HVT := Lib.hid (show ∀ W, Below w1.heap.size wC W → VtK W A cc vs from fun W hW => HVS.out.below (HB3.out.trans (hW.mono (by have := HL1.out; omega))))
  have x0 := rowCell HX.out.at_ 0 (.pointer (some ⟨g, 0, none⟩)) rfl
  have x1 := rowCell HX.out.at_ 1 (.pointer (some ⟨g2, 0, none⟩)) rfl
  have q0 := rowCell HC3.out 0 (.int .i64 v) rfl
  have q1 := rowCell HC3.out 1 (.int .i64 s) rfl
  have q2 := rowCell HC3.out 2 (.int .i64 p) rfl
  have q3 := rowCell HC3.out 3 (.slice A vs.length cc) rfl
  go_upto_region 5 with (go_at_call 23; go_loud (refine (made_any w1.heap.size g bm g2 (clF F) (clC C) [] T v s p vs A cc wC HBT.out HVT.out ⟨HBI.out.1, HBI.out.2.1⟩ ⟨HBI.out.2.2.1, HBI.out.2.2.2.1⟩ HBI.out.2.2.2.2 HP.out HOK.out (Nat.zero_le _)).mono ?_; rintro e wM ⟨bv, A2, c2, T2, rfl, hbv, hrow, hbt, ht, -⟩; obtain ⟨BA, bc, rfl, -⟩ := hbv.bs.open; have HLO := Lib.hid (ht.lowB HBT.out); have HV := Lib.hid hbv.bs; have HE := Lib.hid (show EnvK wM A2 c2 (vs.map (mdV v s)) from hrow.1.to fun _ _ => EnvC.p); clear hbv hrow hbt ht))
  have HSM := Lib.hid ((HLO.out.block w.heap.size (by have := HL1.out; omega)).trans HS3.out)
  have HCM := Lib.hid ((HLO.out.block (w.heap.size + 1) (by have := HL1.out; omega)).trans HC3.out)
  have HBM := Lib.hid (HB3.out.trans (HLO.out.mono (show w.heap.size ≤ w1.heap.size by have := HL1.out; omega)))
  have HSM := Lib.hid (heapB HSM.out (alloc1B wM (.cells #[.int .i64 (mdP (clF F) p v), .slice BA (encD (mdPre v s)).length bc, .slice A2 vs.length c2] 50)))
  have HCM := Lib.hid (heapB HCM.out (alloc1B wM (.cells #[.int .i64 (mdP (clF F) p v), .slice BA (encD (mdPre v s)).length bc, .slice A2 vs.length c2] 50)))
  have HV := Lib.hid (HV.out.below (alloc1B wM (.cells #[.int .i64 (mdP (clF F) p v), .slice BA (encD (mdPre v s)).length bc, .slice A2 vs.length c2] 50)) (Nat.le_refl _))
  have HE := Lib.hid (HE.out.below (alloc1B wM (.cells #[.int .i64 (mdP (clF F) p v), .slice BA (encD (mdPre v s)).length bc, .slice A2 vs.length c2] 50)))
  have HK := Lib.hid (heap_alloc_new wM (.cells #[.int .i64 (mdP (clF F) p v), .slice BA (encD (mdPre v s)).length bc, .slice A2 vs.length c2] 50))
  have HBM := Lib.hid (bel2M HBM.out (alloc1B wM (.cells #[.int .i64 (mdP (clF F) p v), .slice BA (encD (mdPre v s)).length bc, .slice A2 vs.length c2] 50)))
  generalize hwn : wM.alloc _ = wK at *
  clear hwn x0 x1 q0 q1 q2 q3
  have s0 := rowCell HSM.out 0 (.int .i64 F) rfl
  have s1 := rowCell HSM.out 1 (.int .i64 C) rfl
  go_upto_region 6 with (go_at_call 36; go_loud (refine (New3_any F C _).mono ?_; rintro e wA ⟨ga, ba, rfl, -, -, hA, hbA⟩; have HAU := Lib.hid hA; have HBA := Lib.hid hbA; clear hA hbA))
  have HCM := Lib.hid (heapB HCM.out HBA.out)
  have HV := Lib.hid (HV.out.below HBA.out (Nat.le_refl _))
  have HE := Lib.hid (HE.out.below HBA.out)
  have HK := Lib.hid (heapB HK.out HBA.out)
  have HBM := Lib.hid (bel2M HBM.out HBA.out)
  clear s0 s1
  have hag : agC ((mdP (clF F) p v, encD (mdPre v s)), vs.map (mdV v s)) (.slice BA (encD (mdPre v s)).length bc) A2 c2 = .agg #[.int .i64 (mdP (clF F) p v), .slice BA (encD (mdPre v s)).length bc, .slice A2 vs.length c2] := by show Value.agg #[_, _, .slice A2 (vs.map (mdV v s)).length c2] = _; rw [List.length_map]
  have hmp : ok64 (mdP (clF F) p v) := mdP_ok HP.out ⟨HBI.out.1, HBI.out.2.1⟩ HAU.out.1.2
  have hc0 : ∀ e, chkA ⟨clF F, clC C, []⟩ e ≠ 0 := fun e => chk_nobody _ _ e
  have h1 := fun W (hb : Below wA.heap.size wA W) => aPrep (K := ⟨clF F, clC C, []⟩) (HAU.out.below hb (Nat.le_refl _)) ((mdP (clF F) p v, encD (mdPre v s)), vs.map (mdV v s)) (.slice BA (encD (mdPre v s)).length bc) A2 c2 (HV.out.below hb (Nat.le_refl _)) (HE.out.below hb) hmp (Nat.le_trans (mdPre_len v s) (by decide)) (md_okes HOK.out)
  have h2 := fun W (hb : Below wA.heap.size wA W) => aComm (K := ⟨clF F, clC C, []⟩) (HAU.out.below hb (Nat.le_refl _)) ((mdP (clF F) p v, encD (mdPre v s)), vs.map (mdV v s)) (.slice BA (encD (mdPre v s)).length bc) A2 c2 (HV.out.below hb (Nat.le_refl _)) (HE.out.below hb) hmp (Nat.le_trans (mdPre_len v s) (by decide)) (md_okes HOK.out)
  have h3 := fun W (hb : Below wA.heap.size wA W) => aStab (K := ⟨clF F, clC C, []⟩) (HAU.out.below hb (Nat.le_refl _)) s A2 c2 (vs.map (mdV v s)) (HE.out.below hb) (md_okes HOK.out)
  have h4 := fun W (hb : Below wA.heap.size wA W) => aReq (K := ⟨clF F, clC C, []⟩) (HAU.out.below hb (Nat.le_refl _)) (mdP (clF F) p v, encD (mdPre v s)) (.slice BA (encD (mdPre v s)).length bc) (HV.out.below hb (Nat.le_refl _)) hmp (Nat.le_trans (mdPre_len v s) (by decide))
  have h5 := fun W (hb : Below wA.heap.size wA W) => nilPrep_any ((mdP (clF F) p v, encD (mdPre v s)), vs.map (mdV v s)) (.slice BA (encD (mdPre v s)).length bc) A2 c2 W (HV.out.below hb (Nat.le_refl _)) (HE.out.below hb) hmp
  have e1 := bne_of (prepA_no (c := ((mdP (clF F) p v, encD (mdPre v s)), vs.map (mdV v s))) (hc0 _))
  have e2 := bne_of (commA_no (c := ((mdP (clF F) p v, encD (mdPre v s)), vs.map (mdV v s))) (hc0 _))
  have e3 := bne_of (stab_not (s := s) (l := vs.map (mdV v s)) (by have := HBI.out.2.2.1; omega) HAU.out.1.2.1 hc0)
  have e4 := bne_of (reqA_no (e := (mdP (clF F) p v, encD (mdPre v s))) (hc0 _))
  simp only [hag] at h1 h2 h5
  simp only [List.length_map] at h3
  have HQ1 := Lib.hid h1
  have HQ2 := Lib.hid h2
  have HQ3 := Lib.hid h3
  have HQ4 := Lib.hid h4
  have HQ5 := Lib.hid h5
  clear hag hmp hc0 h1 h2 h3 h4 h5
  generalize prepA _ _ = z1 at *
  generalize commA _ _ = z2 at *
  generalize stabA _ _ _ = z3 at *
  generalize reqA _ _ = z4 at *
  obtain ⟨m1, y1⟩ := z1
  obtain ⟨m2, y2⟩ := z2
  obtain ⟨d3, y3⟩ := z3
  obtain ⟨⟨a4, t4, l4⟩, y4⟩ := z4
  simp only at e1 e2 e3 e4
  have HKK := Lib.hid (show ∀ W, Below wA.heap.size wA W → W.cell? ⟨wM.heap.size, 0, none⟩ = some (.int .i64 (mdP (clF F) p v)) ∧ W.cell? ⟨wM.heap.size, 1, none⟩ = some (.slice BA (encD (mdPre v s)).length bc) ∧ W.cell? ⟨wM.heap.size, 2, none⟩ = some (.slice A2 vs.length c2) ∧ W.cell? ⟨w.heap.size + 1, 1, none⟩ = some (.int .i64 s) from fun W hb => ⟨rowCell (heapB HK.out hb) 0 _ rfl, rowCell (heapB HK.out hb) 1 _ rfl, rowCell (heapB HK.out hb) 2 _ rfl, rowCell (heapB HCM.out hb) 1 _ rfl⟩)
  have HBW := Lib.hid (Below.refl wA.heap.size wA)
  generalize mdP (clF F) p v = pr at *
  generalize (encD (mdPre v s)).length = ln at *
  clear HK HCM HV HE HAU
  obtain ⟨k0, k1, k2, k3⟩ := HKK.out _ HBW.out
  go_upto_region 7 with (go_at_call 24; go_loud (refine (HQ1.out _ HBW.out).mono ?_; rintro e w5 ⟨P5, rfl, -, hb⟩; have HBW := Lib.hid (bel2M HBW.out hb); clear hb))
  have HBW := Lib.hid (bel2M HBW.out (alloc1B w5 (.cells (msC m1 P5) 57)))
  generalize hwn : w5.alloc _ = u5 at *
  clear hwn k0 k1 k2 k3
  obtain ⟨k0, k1, k2, k3⟩ := HKK.out _ HBW.out
  go_upto_region 8 with (go_at_call 26; go_loud (refine (HQ2.out _ HBW.out).mono ?_; rintro e w6 ⟨P6, rfl, -, hb⟩; have HBW := Lib.hid (bel2M HBW.out hb); clear hb))
  have HBW := Lib.hid (bel2M HBW.out (alloc1B w6 (.cells (msC m2 P6) 57)))
  generalize hwn : w6.alloc _ = u6 at *
  clear hwn k0 k1 k2 k3
  obtain ⟨k0, k1, k2, k3⟩ := HKK.out _ HBW.out
  go_upto_region 9 with (go_at_call 29; go_loud (refine (HQ3.out _ HBW.out).mono ?_; rintro e w7 ⟨rfl, hb⟩; have HBW := Lib.hid (bel2M HBW.out hb); clear hb))
  clear k0 k1 k2 k3
  obtain ⟨k0, k1, k2, k3⟩ := HKK.out _ HBW.out
  go_upto_region 10 with (go_at_call 17; go_loud (refine (HQ4.out _ HBW.out).mono ?_; rintro e w8 ⟨A8, c8, rfl, -, hb⟩; have HBW := Lib.hid (bel2M HBW.out hb); clear hb))
  have HBW := Lib.hid (bel2M HBW.out (alloc1B w8 (.cells #[.int .i64 a4, .int .i64 t4, .slice A8 l4.length c8] 35)))
  generalize hwn : w8.alloc _ = u8 at *
  clear hwn k0 k1 k2 k3
  obtain ⟨k0, k1, k2, k3⟩ := HKK.out _ HBW.out
  go_upto_region 11 with (go_at_call 24; go_loud (refine (HQ5.out _ HBW.out).mono ?_; rintro e w9 ⟨P9, rfl, -, hb⟩; have HBW := Lib.hid (bel2M HBW.out hb); clear hb))
  have HBW := Lib.hid (bel2M HBW.out (alloc1B w9 (.cells (msC msg0 P9) 57)))
  generalize hwn : w9.alloc _ = u9 at *
  clear hwn k0 k1 k2 k3
  go_wp2_with (go_at_call 21; refine (HAW.out _).mono ?_; rintro e wz ⟨rfl, hb⟩; have HBW := Lib.hid (bel2M HBW.out hb); clear hb)
  go_ret
  exact ⟨rfl, bel2M HBM.out HBW.out⟩

end Go.Proofs.YtjkbmmhnlhaapaaGreat

namespace Go.Proofs.YtjkbmmhnlhaapaaGreat
open Go.RowKit Go.ChangeShapes Go.WideShapes Go.ChangeAt
set_option linter.unusedVariables false
set_option maxRecDepth 20000

section
variable {H : Type} {enc : TypeId × Value → H} {W : World} {sp : Nat → Bool} {hd : Bool} {base : Nat} {v : Value} {d : DataW H} {ps : List MemPlace}

theorem open_size (hv : Value.okWide Tryz.prog W .any base 23 v) (h : DataW.Trod enc Tryz.prog W 0 sp hd 23 v d ps) : ∃ F C : Int, v = .agg #[.int .i64 F, .int .i64 C] := by
  obtain ⟨cs, rfl, hsz⟩ := okWide_struct Tryz.underlying23 hv
  obtain ⟨fuel, hf⟩ := h
  obtain ⟨ys, m, -, -, -, hys, hfs⟩ := DataW.trod_struct Tryz.underlying23 hf
  have k0 : Tryz.prog.cellsOf 23 = 2 := by kernel_rfl
  have k1 : Tryz.prog.cellsOf 3 = 1 := by kernel_rfl
  rw [k0] at hsz
  obtain ⟨l⟩ := cs
  match l, hsz with
  | [c0, c1], _ =>
    match ys, hys with
    | [y0, y1], _ =>
      have g0 := hfs 0 _ rfl
      have g1 := hfs 1 _ rfl
      simp [k1, Value.cells] at g0 g1
      obtain ⟨z0, e0, -, -⟩ := DataW.trod_int Tryz.underlying3 g0
      obtain ⟨z1, e1, -, -⟩ := DataW.trod_int Tryz.underlying3 g1
      injection e0 with e0
      injection e1 with e1
      exact ⟨z0, z1, by rw [e0, e1]⟩

end
end Go.Proofs.YtjkbmmhnlhaapaaGreat

namespace Go.Proofs.YtjkbmmhnlhaapaaGreat
open Go.RowKit Go.ChangeShapes Go.WideShapes Go.ChangeAt
set_option linter.unusedVariables false
set_option linter.unusedSimpArgs false
set_option maxRecDepth 20000

section
variable {H : Type} {enc : TypeId × Value → H} {W : World} {sp : Nat → Bool} {hd : Bool} {base : Nat} {v : Value} {d : DataW H} {ps : List MemPlace}
abbrev OkVt (z : Vt) : Prop := ok64 z.s ∧ ok64 z.k ∧ ok64 z.v ∧ ok64 z.q
theorem part_vt (n : Nat) (cs : List Value) (x : DataW H × List MemPlace) (p : Addr) (ht : DataW.trod enc Tryz.prog W 0 sp hd n 105 cs = some x) (hlen : cs.length = 6) (hat : ∀ i, i < 6 → W.cell? (p.add i) = cs[i]?) : ∃ z, VtP W p z ∧ OkVt z := by
  obtain ⟨ys, m, -, -, -, hys, hfs⟩ := DataW.trod_struct Tryz.underlying105 ht
  match cs, hlen with
  | [c0, c1, c2, c3, c4, c5], _ =>
    match ys, hys with
    | [y0, y1, y2, y3, y4, y5], _ =>
      have k1 : Tryz.prog.cellsOf 3 = 1 := by kernel_rfl
      have k2 : Tryz.prog.cellsOf 4 = 1 := by kernel_rfl
      have g0 := hfs 0 _ rfl
      have g1 := hfs 1 _ rfl
      have g2 := hfs 2 _ rfl
      have g3 := hfs 3 _ rfl
      have g4 := hfs 4 _ rfl
      have g5 := hfs 5 _ rfl
      simp [k1, k2] at g0 g1 g2 g3 g4 g5
      obtain ⟨z0, e0, -, w0⟩ := DataW.trod_int Tryz.underlying3 g0
      obtain ⟨z1, e1, -, w1⟩ := DataW.trod_int Tryz.underlying3 g1
      obtain ⟨z2, e2, -, w2⟩ := DataW.trod_int Tryz.underlying3 g2
      obtain ⟨z3, e3, -, w3⟩ := DataW.trod_int Tryz.underlying3 g3
      obtain ⟨z4, e4, -⟩ := DataW.trod_bool Tryz.underlying4 g4
      obtain ⟨z5, e5, -⟩ := DataW.trod_bool Tryz.underlying4 g5
      simp at e0 e1 e2 e3 e4 e5
      subst e0 e1 e2 e3 e4 e5
      have e0 := hat 0 (by omega)
      have e1 := hat 1 (by omega)
      have e2 := hat 2 (by omega)
      have e3 := hat 3 (by omega)
      have e4 := hat 4 (by omega)
      have e5 := hat 5 (by omega)
      exact ⟨⟨z0, z1, z2, z3, z4, z5⟩, ⟨by simpa [Addr.add_zero'] using e0, by simpa [Addr.add_succ'] using e1, by simpa [Addr.add_succ'] using e2, by simpa [Addr.add_succ'] using e3, by simpa [Addr.add_succ'] using e4, by simpa [Addr.add_succ'] using e5⟩, inM_of w0, inM_of w1, inM_of w2, inM_of w3⟩
theorem open_cas (hv : Value.okWide Tryz.prog W .any base 48 v) (h : DataW.Trod enc Tryz.prog W 0 sp hd 48 v d ps) :
    ∃ (cv cs cp : Int) (A : Option Addr) (cc : Nat) (vs : List Vt), v = .agg #[.int .i64 cv, .int .i64 cs, .int .i64 cp, .slice A vs.length cc] ∧ VtK W A cc vs ∧ ok64 cv ∧ ok64 cs ∧ ok64 cp ∧ ∀ x ∈ vs, OkVt x := by
  obtain ⟨cs, rfl, hsz⟩ := okWide_struct Tryz.underlying48 hv
  obtain ⟨fuel, hf⟩ := h
  have k0 : Tryz.prog.cellsOf 48 = 4 := by kernel_rfl
  rw [k0] at hsz
  obtain ⟨ys, m, -, -, -, hys, hfs⟩ := DataW.trod_struct Tryz.underlying48 hf
  obtain ⟨l⟩ := cs
  match l, hsz with
  | [c0, c1, c2, c3], _ =>
    match ys, hys with
    | [y0, y1, y2, y3], _ =>
      have k1 : Tryz.prog.cellsOf 3 = 1 := by kernel_rfl
      have k2 : Tryz.prog.cellsOf 46 = 1 := by kernel_rfl
      have g0 := hfs 0 _ rfl
      have g1 := hfs 1 _ rfl
      have g2 := hfs 2 _ rfl
      have g3 := hfs 3 _ rfl
      simp [k1, k2, Value.cells] at g0 g1 g2 g3
      obtain ⟨z0, e0, -, w0⟩ := DataW.trod_int Tryz.underlying3 g0
      obtain ⟨z1, e1, -, w1⟩ := DataW.trod_int Tryz.underlying3 g1
      obtain ⟨z2, e2, -, w2⟩ := DataW.trod_int Tryz.underlying3 g2
      obtain ⟨vs, A, cc, e3, hl, hl2⟩ := row_ofM ⟨⟨0, 0, 0, 0, false, false⟩⟩ VtP OkVt Tryz.underlying46 (by kernel_rfl) (fun p x h => World.block_lt_of_cell? _ _ h.1) part_vt g3
      simp at e0 e1 e2
      subst e0 e1 e2 e3
      exact ⟨z0, z1, z2, A, cc, vs, rfl, hl, inM_of w0, inM_of w1, inM_of w2, hl2⟩
end
end Go.Proofs.YtjkbmmhnlhaapaaGreat

namespace Go.Proofs.YtjkbmmhnlhaapaaGreat
open Go.RowKit
set_option linter.unusedVariables false
set_option linter.unusedSimpArgs false
set_option maxRecDepth 20000

set_option maxHeartbeats 8000000 in
theorem CertMany_any (F C v s p : Int) (A : Option Addr) (cc : Nat) (vs : List Vt) (w : World) (hvs : VtK w A cc vs) (hp : ok64 p) (hok : ∀ x ∈ vs, ok64 x.s) : Calls Tryz.prog 6 #[.agg #[.int .i64 F, .int .i64 C], .agg #[.int .i64 v, .int .i64 s, .int .i64 p, .slice A vs.length cc]] w (AskB true w) := by
  obtain ⟨x1, x2, x3⟩ := box2B w #[.int .i64 F, .int .i64 C] #[.int .i64 v, .int .i64 s, .int .i64 p, .slice A vs.length cc] 23 48
  have HBN := Lib.hid (fun W => bounds_any v s p A vs.length cc W)
  have HAW := Lib.hid (fun W => awake13_any W)
  rcases hb : bndC v s vs.length with _ | _
  · rw [hb] at HBN
    clear hb
    go_enter Tryz.func6, Tryz.ntmps6
    go_upto_region 1 with fail
    generalize hw0 : (w.alloc _).alloc _ = w0 at *
    have HB := Lib.hid x3
    have c0 := rowCell x2 0 (.int .i64 v) rfl
    have c1 := rowCell x2 1 (.int .i64 s) rfl
    have c2 := rowCell x2 2 (.int .i64 p) rfl
    have c3 := rowCell x2 3 (.slice A vs.length cc) rfl
    clear x1 x2 x3 hw0
    go_wp2_with (first
      | (go_at_call 22; refine (HBN.out _).mono ?_; rintro e w1 ⟨rfl, hb⟩; have HB1 := Lib.hid (bel2M HB.out hb); clear hb)
      | (go_at_call 21; refine (HAW.out _).mono ?_; rintro e w2 ⟨rfl, hb⟩; have HB2 := Lib.hid (bel2M HB1.out hb); clear hb))
    go_ret
    exact ⟨rfl, HB2.out⟩
  rw [hb] at HBN
  have HBI := Lib.hid (bnd_iff hb)
  have HVS := Lib.hid hvs
  have HP := Lib.hid hp
  have HOK := Lib.hid hok
  have HLW := Lib.hid (show w.heap.size + 1 < ((w.alloc (.cells #[.int .i64 F, .int .i64 C] 23)).alloc (.cells #[.int .i64 v, .int .i64 s, .int .i64 p, .slice A vs.length cc] 48)).heap.size from (Array.getElem?_eq_some_iff.1 x2).1)
  clear hb hvs hp hok
  go_enter Tryz.func6, Tryz.ntmps6
  go_upto_region 1 with fail
  generalize hw0 : (w.alloc _).alloc _ = w0 at *
  have HS0 := Lib.hid x1
  have HC0 := Lib.hid x2
  have HB0 := Lib.hid x3
  have c0 := rowCell x2 0 (.int .i64 v) rfl
  have c1 := rowCell x2 1 (.int .i64 s) rfl
  have c2 := rowCell x2 2 (.int .i64 p) rfl
  have c3 := rowCell x2 3 (.slice A vs.length cc) rfl
  clear x1 x2 x3 hw0
  go_upto_region 4 with (first
    | (go_at_call 22; refine (HBN.out _).mono ?_; rintro e w1 ⟨rfl, hb⟩; have HB1 := Lib.hid (bel2M HB0.out hb); have HS1 := Lib.hid (heapB HS0.out hb); have HC1 := Lib.hid (heapB HC0.out hb); have HL1 := Lib.hid (show w.heap.size + 1 < w1.heap.size from Nat.lt_of_lt_of_le HLW.out hb.size); have s0 := rowCell HS1.out 0 (.int .i64 F) rfl; have s1 := rowCell HS1.out 1 (.int .i64 C) rfl; clear hb)
    | (go_at_call 15; go_loud (refine (begun_any F C _).mono ?_; rintro e wB ⟨g, bm, g2, T, rfl, hbt, hbb⟩; have HBT := Lib.hid hbt; have HB2 := Lib.hid (bel2M HB1.out hbb); have HS2 := Lib.hid (heapB HS1.out hbb); have HC2 := Lib.hid (heapB HC1.out hbb); clear hbt hbb)))
  have HX := Lib.hid (Held.new (cs := #[.pointer (some ⟨g, 0, none⟩), .pointer (some ⟨g2, 0, none⟩)]) (t := 29) HBT.out)
  have HBT := Lib.hid (HBT.out.below (alloc1B wB (.cells #[.pointer (some ⟨g, 0, none⟩), .pointer (some ⟨g2, 0, none⟩)] 29)))
  have HB3 := Lib.hid (bel2M HB2.out (alloc1B wB (.cells #[.pointer (some ⟨g, 0, none⟩), .pointer (some ⟨g2, 0, none⟩)] 29)))
  have HS3 := Lib.hid (heapB HS2.out (alloc1B wB (.cells #[.pointer (some ⟨g, 0, none⟩), .pointer (some ⟨g2, 0, none⟩)] 29)))
  have HC3 := Lib.hid (heapB HC2.out (alloc1B wB (.cells #[.pointer (some ⟨g, 0, none⟩), .pointer (some ⟨g2, 0, none⟩)] 29)))
  generalize hwn : wB.alloc _ = wC at *
  clear hwn c0 c1 c2 c3 s0 s1
  have HVT := Lib.hid (show ∀ W, Below w1.heap.size wC W → VtK W A cc vs from fun W hW => HVS.out.below (HB3.out.trans (hW.mono (by have := HL1.out; omega))))
  have x0 := rowCell HX.out.at_ 0 (.pointer (some ⟨g, 0, none⟩)) rfl
  have x1 := rowCell HX.out.at_ 1 (.pointer (some ⟨g2, 0, none⟩)) rfl
  have q0 := rowCell HC3.out 0 (.int .i64 v) rfl
  have q1 := rowCell HC3.out 1 (.int .i64 s) rfl
  have q2 := rowCell HC3.out 2 (.int .i64 p) rfl
  have q3 := rowCell HC3.out 3 (.slice A vs.length cc) rfl
  go_upto_region 5 with (go_at_call 23; go_loud (refine (made_any w1.heap.size g bm g2 (clF F) (clC C) [] T v s p vs A cc wC HBT.out HVT.out ⟨HBI.out.1, HBI.out.2.1⟩ ⟨HBI.out.2.2.1, HBI.out.2.2.2.1⟩ HBI.out.2.2.2.2 HP.out HOK.out (Nat.zero_le _)).mono ?_; rintro e wM ⟨bv, A2, c2, T2, rfl, hbv, hrow, hbt, ht, -⟩; obtain ⟨BA, bc, rfl, -⟩ := hbv.bs.open; have HLO := Lib.hid (ht.lowB HBT.out); have HV := Lib.hid hbv.bs; have HE := Lib.hid (show EnvK wM A2 c2 (vs.map (mdV v s)) from hrow.1.to fun _ _ => EnvC.p); have HBT := Lib.hid hbt; have HX := Lib.hid (HX.out.turn ht); clear hbv hrow hbt ht))
  have HSM := Lib.hid ((HLO.out.block w.heap.size (by have := HL1.out; omega)).trans HS3.out)
  have HCM := Lib.hid ((HLO.out.block (w.heap.size + 1) (by have := HL1.out; omega)).trans HC3.out)
  have HBM := Lib.hid (HB3.out.trans (HLO.out.mono (show w.heap.size ≤ w1.heap.size by have := HL1.out; omega)))
  have HSM := Lib.hid (heapB HSM.out (alloc1B wM (.cells #[.int .i64 (mdP (clF F) p v), .slice BA (encD (mdPre v s)).length bc, .slice A2 vs.length c2] 50)))
  have HCM := Lib.hid (heapB HCM.out (alloc1B wM (.cells #[.int .i64 (mdP (clF F) p v), .slice BA (encD (mdPre v s)).length bc, .slice A2 vs.length c2] 50)))
  have HV := Lib.hid (HV.out.below (alloc1B wM (.cells #[.int .i64 (mdP (clF F) p v), .slice BA (encD (mdPre v s)).length bc, .slice A2 vs.length c2] 50)) (Nat.le_refl _))
  have HE := Lib.hid (HE.out.below (alloc1B wM (.cells #[.int .i64 (mdP (clF F) p v), .slice BA (encD (mdPre v s)).length bc, .slice A2 vs.length c2] 50)))
  have HK := Lib.hid (heap_alloc_new wM (.cells #[.int .i64 (mdP (clF F) p v), .slice BA (encD (mdPre v s)).length bc, .slice A2 vs.length c2] 50))
  have HBM := Lib.hid (bel2M HBM.out (alloc1B wM (.cells #[.int .i64 (mdP (clF F) p v), .slice BA (encD (mdPre v s)).length bc, .slice A2 vs.length c2] 50)))
  have HXB := Lib.hid (HX.out.below (alloc1B wM (.cells #[.int .i64 (mdP (clF F) p v), .slice BA (encD (mdPre v s)).length bc, .slice A2 vs.length c2] 50))).at_
  have HAU := Lib.hid (HBT.out.au.below (alloc1B wM (.cells #[.int .i64 (mdP (clF F) p v), .slice BA (encD (mdPre v s)).length bc, .slice A2 vs.length c2] 50)) (Nat.le_refl _))
  generalize hwn : wM.alloc _ = wK at *
  clear hwn x0 x1 q0 q1 q2 q3
  have hag : agC ((mdP (clF F) p v, encD (mdPre v s)), vs.map (mdV v s)) (.slice BA (encD (mdPre v s)).length bc) A2 c2 = .agg #[.int .i64 (mdP (clF F) p v), .slice BA (encD (mdPre v s)).length bc, .slice A2 vs.length c2] := by show Value.agg #[_, _, .slice A2 (vs.map (mdV v s)).length c2] = _; rw [List.length_map]
  have hmp : ok64 (mdP (clF F) p v) := mdP_ok HP.out ⟨HBI.out.1, HBI.out.2.1⟩ HAU.out.1.2
  have h2 := fun W (hb : Below wK.heap.size wK W) => aComm (K := ⟨clF F, clC C, mdL (clF F) (clC C) v s p [] vs⟩) (HAU.out.below hb (Nat.le_refl _)) ((mdP (clF F) p v, encD (mdPre v s)), vs.map (mdV v s)) (.slice BA (encD (mdPre v s)).length bc) A2 c2 (HV.out.below hb (Nat.le_refl _)) (HE.out.below hb) hmp (Nat.le_trans (mdPre_len v s) (by decide)) (md_okes HOK.out)
  simp only [hag] at h2
  have HQ := Lib.hid h2
  have HYES := Lib.hid (show (commA ⟨clF F, clC C, mdL (clF F) (clC C) v s p [] vs⟩ ((mdP (clF F) p v, encD (mdPre v s)), vs.map (mdV v s))).2 = 0 → (commA ⟨clF F, clC C, mdL (clF F) (clC C) v s p [] vs⟩ ((mdP (clF F) p v, encD (mdPre v s)), vs.map (mdV v s))).1 = mdPre v s ∧ 2 * clF F + 1 ≤ vs.length ∧ cntP (clF F) (vs.map (·.s)) = vs.length ∧ ∀ j (hj : j < vs.length), checkE (clF F) (clC C) vs[j].s (encD ⟨4, (commA ⟨clF F, clC C, mdL (clF F) (clC C) v s p [] vs⟩ ((mdP (clF F) p v, encD (mdPre v s)), vs.map (mdV v s))).1.v, (commA ⟨clF F, clC C, mdL (clF F) (clC C) v s p [] vs⟩ ((mdP (clF F) p v, encD (mdPre v s)), vs.map (mdV v s))).1.s, 0, 0, (commA ⟨clF F, clC C, mdL (clF F) (clC C) v s p [] vs⟩ ((mdP (clF F) p v, encD (mdPre v s)), vs.map (mdV v s))).1.d, [], (0, 0), [], [], []⟩) (mdL (clF F) (clC C) v s p [] vs) = 0 from fun h0 => by
    obtain ⟨a1, a2, a3, a4, a5⟩ := many_yes (K := ⟨clF F, clC C, mdL (clF F) (clC C) v s p [] vs⟩) (c := ((mdP (clF F) p v, encD (mdPre v s)), vs.map (mdV v s))) HAU.out.1.2.1 h0
    obtain ⟨-, b2, -, b4, -⟩ := pre_yes a1
    have hd := (dec_encD (mdPre_ok ⟨HBI.out.1, HBI.out.2.1⟩ ⟨HBI.out.2.2.1, HBI.out.2.2.2.1⟩) (mdM2 v s) b2).1
    refine ⟨a2.trans (b4.trans hd), ?_, ?_, fun j hj => ?_⟩
    · rw [List.length_map] at a3
      exact a3
    · rw [List.length_map] at a4
      have he : (vs.map (mdV v s)).map (·.1) = vs.map (·.s) := by rw [List.map_map]; rfl
      rw [← he]
      exact a4
    · exact a5 (mdV v s vs[j]) (List.mem_map_of_mem (List.getElem_mem hj)))
  have HKK := Lib.hid (show ∀ W, Below wK.heap.size wK W → W.cell? ⟨wM.heap.size, 0, none⟩ = some (.int .i64 (mdP (clF F) p v)) ∧ W.cell? ⟨wM.heap.size, 1, none⟩ = some (.slice BA (encD (mdPre v s)).length bc) ∧ W.cell? ⟨wM.heap.size, 2, none⟩ = some (.slice A2 vs.length c2) ∧ W.cell? ⟨wB.heap.size, 0, none⟩ = some (.pointer (some ⟨g, 0, none⟩)) from fun W hb => ⟨rowCell (heapB HK.out hb) 0 _ rfl, rowCell (heapB HK.out hb) 1 _ rfl, rowCell (heapB HK.out hb) 2 _ rfl, rowCell (heapB HXB.out hb) 0 _ rfl⟩)
  clear hag hmp h2
  generalize commA _ _ = z1 at *
  obtain ⟨m1, y1⟩ := z1
  simp only at HQ HYES
  obtain ⟨k0, k1, k2, k3⟩ := HKK.out wK (Below.refl _ _)
  have HBW := Lib.hid (Below.refl wK.heap.size wK)
  generalize hpr : mdP (clF F) p v = pr at *
  generalize hln : (encD (mdPre v s)).length = ln at *
  clear hpr hln
  go_upto_region 6 with (go_at_call 26; go_loud (refine (HQ.out _ HBW.out).mono ?_; rintro e w5 ⟨P5, rfl, -, hb⟩; have HBW := Lib.hid (bel2M HBW.out hb); clear hb))
  have HB5 := Lib.hid (alloc1B w5 (.cells (msC m1 P5) 57))
  have HM5 := Lib.hid (heap_alloc_new w5 (.cells (msC m1 P5) 57))
  have HBW := Lib.hid (bel2M HBW.out HB5.out)
  generalize hwn : w5.alloc _ = wL at *
  clear hwn k0 k1 k2 k3 HB5
  by_cases hy : y1 = 0
  · subst hy
    obtain ⟨hm, hn, hc, hch⟩ := HYES.out rfl
    have HMQ := Lib.hid hm
    have HN := Lib.hid hn
    have HC := Lib.hid hc
    have HCH := Lib.hid hch
    have HN12 := Lib.hid HBI.out.2.2.2.2
    have HSM2 := Lib.hid (show SmD (⟨4, m1.v, m1.s, 0, 0, m1.d, [], (0, 0), [], [], []⟩ : Msg) from ⟨by show m1.d.length ≤ _; rw [HMQ.out]; exact Nat.le_trans mdE1.2 (by decide), by show (0 : Nat) ≤ _; omega, ⟨by show (0 : Nat) ≤ _; omega, fun e he => by cases he⟩, ⟨by show (0 : Nat) ≤ _; omega, fun e he => by cases he⟩, rfl⟩)
    have HLEN := Lib.hid (show (encD (⟨4, m1.v, m1.s, 0, 0, m1.d, [], (0, 0), [], [], []⟩ : Msg)).length ≤ 1000000000 from by have := encD_len HSM2.out; omega)
    clear hm hn hc hch
    obtain ⟨i0, hi, hz0, hz1, hz2⟩ := info_parts intinfo
    go_wp2
    go_loopw [9, 10] (fun lv i wr => ∃ k : Nat, k ≤ vs.length ∧ i = .int .i64 k ∧ wr.ownsRow wL.heap.size 3 1 lv k (((vs.map (·.s)).take k).map ic) ∧ Below wL.heap.size wL wr) (fun _ i _ => vs.length - (intOf i).toNat)
    case atStart => exact ⟨0, Nat.zero_le _, rfl, World.ownsRow_nil _ _ _ _, Below.refl _ _⟩
    case round =>
      obtain ⟨k, hk, rfl, hown, hbel⟩ := hrel
      have HBR := Lib.hid (bel2M HBW.out hbel)
      have HOW := Lib.hid hown
      have HBL := Lib.hid hbel
      have HVO := Lib.hid (own_slice hown)
      obtain ⟨AL, cL, rfl⟩ := HVO.out
      clear hown hbel HVO
      obtain ⟨k0, k1, k2, k3⟩ := HKK.out wr HBR.out
      by_cases hlt : k < vs.length
      · have hltI : (k : Int) < (vs.length : Int) := by omega
        have HLT := Lib.hid hlt
        have hkb : k + 1 ≤ 1000000 := by have := HN12.out; omega
        obtain ⟨ad, bvk, rfl, hbl, e0, -, -⟩ := env_open (HE.out.below HBR.out) k (by rw [List.length_map]; exact hlt)
        rw [List.getElem_map] at e0
        have HE0 := Lib.hid (show wr.cell? (ad.add (k * 2)) = some (.int .i64 vs[k].s) from e0)
        have HCK := Lib.hid (HCH.out k hlt)
        have HS64 := Lib.hid (HOK.out _ (List.getElem_mem hlt))
        have HTK := Lib.hid (show (vs.map (·.s)).take (k + 1) = (vs.map (·.s)).take k ++ [vs[k].s] from by rw [List.take_succ_eq_append_getElem (by rw [List.length_map]; exact hlt), List.getElem_map]; rfl)
        have m0 := rowCell (heapB HM5.out HBL.out) 1 (.int .i64 m1.v) rfl
        have m2 := rowCell (heapB HM5.out HBL.out) 2 (.int .i64 m1.s) rfl
        have m5 := rowCell (heapB HM5.out HBL.out) 5 (.string (strB m1.d)) rfl
        clear e0 hbl
        generalize hsk : vs[k].s = sk at *
        clear hsk
        go_upto_region 13 with (go_at_call 31; go_loud (refine (rEncode_any (⟨4, m1.v, m1.s, 0, 0, m1.d, [], (0, 0), [], [], []⟩ : Msg) ⟨(none, 0), (none, 0), (none, 0), (none, 0)⟩ _ ⟨Bs.nil _, RowM.none _ _ _, RowM.none _ _ _, RowM.none _ _ _⟩ HSM2.out).mono ?_; rintro e w6 ⟨v6, rfl, ho6, hb6⟩; obtain ⟨A6, c6, rfl⟩ := own_slice ho6; have HV6 := Lib.hid (own_bs ho6); have HB6 := Lib.hid hb6; clear ho6 hb6))
        clear m0 m2 m5
        have HST := Lib.hid (show ∀ W, Below w6.heap.size w6 W → (fun W => W.cell? ⟨wB.heap.size, 0, none⟩ = some (.pointer (some ⟨g, 0, none⟩)) ∧ W.cell? ⟨wM.heap.size, 2, none⟩ = some (.slice (some ad) vs.length c2) ∧ W.cell? (ad.add (k * 2)) = some (.int .i64 sk)) W from fun W hb => ⟨(HKK.out W (bel2M HBR.out (bel2M HB6.out hb))).2.2.2, (HKK.out W (bel2M HBR.out (bel2M HB6.out hb))).2.2.1, cellB HE0.out (bel2M HB6.out hb)⟩)
        have HBC := Lib.hid (show Below w6.heap.size w6 w6.drew from (Below.refl _ _).drew)
        go_region_held3 (fun W => W.cell? ⟨wB.heap.size, 0, none⟩ = some (.pointer (some ⟨g, 0, none⟩)) ∧ W.cell? ⟨wM.heap.size, 2, none⟩ = some (.slice (some ad) vs.length c2) ∧ W.cell? (ad.add (k * 2)) = some (.int .i64 sk)) (exact HST.out _ HBC.out) (first
          | (go_at_call 32; refine (Check_any g bm (clF F) (clC C) sk _ (encD (⟨4, m1.v, m1.s, 0, 0, m1.d, [], (0, 0), [], [], []⟩ : Msg)) (mdL (clF F) (clC C) v s p [] vs) _ (HAU.out.below (bel2M HBR.out (bel2M HB6.out HBC.out)) (Nat.le_refl _)) HS64.out (HV6.out.below HBC.out (Nat.le_refl _)) HLEN.out).mono ?_; rw [HCK.out]; rintro e w7 ⟨rfl, hb7⟩; replace HBC := Lib.hid (bel2M HBC.out hb7); clear hb7))
        obtain ⟨k0, k1, k2, k3⟩ := HKK.out _ (bel2M HBR.out (bel2M HB6.out HBC.out))
        have ek := (HST.out _ HBC.out).2.2
        have HOWB := Lib.hid (own_belowM (own_belowM HOW.out (bel2M HB6.out HBC.out)) (alloc1B _ (.cells #[.int .i64 sk] 3)))
        have HBQ := Lib.hid (show Below wL.heap.size wL _ from bel2M HBL.out (bel2M (bel2M HB6.out HBC.out) (alloc1B _ (.cells #[.int .i64 sk] 3))))
        go_wp2_with (at_builtin; refine wpList_append_rd _ rfl (.tmp 58) (.tmp 65) 67 rfl wL.heap.size 3 i0 (.int .i64 0) 8 Tryz.underlying67 hi hz0 hz1 hz2 rfl _ _ _ rfl HOWB.out _ _ rfl (Rd.one _ _ _) (by intro u hu; simp at hu; subst hu; rfl) (by have := HN12.out; have := HLT.out; simp; unfold maxLen; omega) (by have := HN12.out; have := HLT.out; simp; omega) HBQ.out.size ?_; intro v8 w8 hown8 hg8; have HB8 := Lib.hid (HBQ.out.grown hg8 HBQ.out.size (fun g hg => (HOWB.out.lt g hg).1)); have HO8 := Lib.hid (show w8.ownsRow wL.heap.size 3 1 v8 (k + 1) (((vs.map (·.s)).take (k + 1)).map ic) from by rw [HTK.out]; simpa [ic] using hown8); clear hown8 hg8)
        go_roundw
        case rel => exact ⟨k + 1, HLT.out, by go_num, HO8.out, HB8.out⟩
        case measure => simp [intOf]; have := HLT.out; omega
      · obtain rfl : k = vs.length := by omega
        have hltI : ¬ (vs.length : Int) < (vs.length : Int) := by omega
        have hNs : Ns wr (.slice AL vs.length cL) (vs.map (·.s)) := by
          have h := HOW.out
          rw [List.take_of_length_le (by rw [List.length_map]; exact Nat.le_refl _)] at h
          exact Rd.of_own h
        have HNS := Lib.hid hNs
        clear hNs
        have HCO := Lib.hid (fun W (hb : Below wr.heap.size wr W) => show Calls Tryz.prog 33 #[.pointer (some ⟨g, 0, none⟩), .slice AL vs.length cL] W (Says (.int .i64 (vs.length : Nat)) W) from by
          have h := auCount_any g bm (clF F) (clC C) _ _ W (HAU.out.below (bel2M HBR.out hb) (Nat.le_refl _)).1 (HNS.out.below hb (Nat.le_refl _))
          rw [HC.out] at h
          exact h)
        have HQU := Lib.hid (fun W (hb : Below wr.heap.size wr W) => Quorum_any (HAU.out.below (bel2M HBR.out hb) (Nat.le_refl _)).1)
        have HFF := Lib.hid (fun W (hb : Below wr.heap.size wr W) => F_any (HAU.out.below (bel2M HBR.out hb) (Nat.le_refl _)).1)
        have HSE := Lib.hid (show ∀ W, Below wr.heap.size wr W → (fun W => W.cell? ⟨wB.heap.size, 0, none⟩ = some (.pointer (some ⟨g, 0, none⟩)) ∧ W.cell? ⟨w5.heap.size, 1, none⟩ = some (.int .i64 m1.v) ∧ W.cell? ⟨w5.heap.size, 2, none⟩ = some (.int .i64 m1.s) ∧ W.cell? ⟨w.heap.size + 1, 0, none⟩ = some (.int .i64 v) ∧ W.cell? ⟨w.heap.size + 1, 1, none⟩ = some (.int .i64 s)) W from fun W hb => ⟨(HKK.out W (bel2M HBR.out hb)).2.2.2, rowCell (heapB HM5.out (bel2M HBL.out hb)) 1 _ rfl, rowCell (heapB HM5.out (bel2M HBL.out hb)) 2 _ rfl, rowCell (heapB HCM.out (bel2M HBR.out hb)) 0 _ rfl, rowCell (heapB HCM.out (bel2M HBR.out hb)) 1 _ rfl⟩)
        have hf0 := HAU.out.1.2.1
        have hd1 : decide (2 * clF F + 1 ≤ (vs.length : Int)) = true := by simpa using HN.out
        have hd2 : decide (clF F < (vs.length : Int)) = true := by have := HN.out; simp only [decide_eq_true_eq]; omega
        have hd3 : (m1.v == v) = true := by rw [HMQ.out]; simp [mdPre]
        have hd4 : (m1.s == s) = true := by rw [HMQ.out]; simp [mdPre]
        have HBC := Lib.hid (show Below wr.heap.size wr wr.drew from (Below.refl _ _).drew)
        go_upto_region 16 with fail
        clear k0 k1 k2 k3 hf0
        go_region_held3 (fun W => W.cell? ⟨wB.heap.size, 0, none⟩ = some (.pointer (some ⟨g, 0, none⟩)) ∧ W.cell? ⟨w5.heap.size, 1, none⟩ = some (.int .i64 m1.v) ∧ W.cell? ⟨w5.heap.size, 2, none⟩ = some (.int .i64 m1.s) ∧ W.cell? ⟨w.heap.size + 1, 0, none⟩ = some (.int .i64 v) ∧ W.cell? ⟨w.heap.size + 1, 1, none⟩ = some (.int .i64 s)) (exact HSE.out _ HBC.out) (first
          | (go_at_call 33; refine (HCO.out _ HBC.out).mono ?_; rintro e w' ⟨rfl, rfl⟩)
          | (go_at_call 34; refine (HQU.out _ HBC.out).mono ?_; rintro e w' ⟨rfl, rfl⟩)
          | (go_at_call 35; refine (HFF.out _ HBC.out).mono ?_; rintro e w' ⟨rfl, rfl⟩)
          | (go_at_call 21; refine (HAW.out _).mono ?_; rintro e wz ⟨rfl, hb⟩; replace HBC := Lib.hid (bel2M HBC.out hb); clear hb))
        go_wp2
        go_ret
        exact ⟨rfl, bel2M HBM.out (bel2M HBR.out HBC.out)⟩
  · have hq := bne_of hy
    clear hy
    go_wp2_with (go_at_call 21; refine (HAW.out _).mono ?_; rintro e wz ⟨rfl, hb⟩; have HBW := Lib.hid (bel2M HBW.out hb); clear hb)
    go_ret
    exact ⟨rfl, bel2M HBM.out HBW.out⟩

end Go.Proofs.YtjkbmmhnlhaapaaGreat
