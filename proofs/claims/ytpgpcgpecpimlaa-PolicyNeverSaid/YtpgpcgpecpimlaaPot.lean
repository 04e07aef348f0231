/-
  What a Put and a Delete leave of other tenants; a bucket asked for.
-/
import Derived.Test.YtpgpcgpecpimlaaPof
import Derived.Test.YtpgpcgpecpimlaaPoa
import Derived.Test.YtpgpcgpecpimlaaPo2
import Derived.Deep.RegionLaw
namespace Go.Proofs.Ytpgpcgpecpimlaa
open Go.RowKit
set_option linter.unusedSimpArgs false
set_option linter.unusedVariables false

theorem fnd_lay_same (x : TnE) : ∀ L, fnd x.id (layR x L) = some x
  | [] => by simp [fnd, layR]
  | y :: r => by
    have ih := fnd_lay_same x r
    unfold layR
    by_cases hy : y.id < x.id
    · rw [if_pos hy]
      unfold fnd at ih ⊢
      rw [List.find?_cons_of_neg (by simp; omega)]
      exact ih
    · rw [if_neg hy]
      split
      · simp [fnd]
      · simp [fnd]
theorem fnd_lay_ne (x : TnE) (key : Int) (h : key ≠ x.id) : ∀ L, fnd key (layR x L) = fnd key L
  | [] => by
    unfold fnd layR
    rw [List.find?_cons_of_neg (by simp; omega)]
  | y :: r => by
    have ih := fnd_lay_ne x key h r
    unfold layR
    by_cases hy : y.id < x.id
    · rw [if_pos hy]
      unfold fnd at ih ⊢
      by_cases hk : y.id = key
      · rw [List.find?_cons_of_pos (by simp [hk]), List.find?_cons_of_pos (by simp [hk])]
      · rw [List.find?_cons_of_neg (by simp [hk]), List.find?_cons_of_neg (by simp [hk])]
        exact ih
    · rw [if_neg hy]
      by_cases he : y.id = x.id
      · rw [if_pos he]
        unfold fnd
        rw [List.find?_cons_of_neg (by simp; omega), List.find?_cons_of_neg (by simp; omega)]
      · rw [if_neg he]
        unfold fnd
        rw [List.find?_cons_of_neg (by simp; omega)]
theorem fnd_flt_same (id : Int) (L : List TnE) : fnd id (L.filter fun y => !decide (y.id = id)) = none := by
  refine List.find?_eq_none.2 fun z hz => ?_
  have := (List.mem_filter.1 hz).2
  simpa using this
theorem fnd_flt_ne (id key : Int) (h : key ≠ id) : ∀ L : List TnE, fnd key (L.filter fun y => !decide (y.id = id)) = fnd key L
  | [] => rfl
  | y :: r => by
    have ih := fnd_flt_ne id key h r
    unfold fnd at ih ⊢
    by_cases hy : y.id = id
    · rw [List.filter_cons_of_neg (by simp [hy]), List.find?_cons_of_neg (by simp; omega)]
      exact ih
    · rw [List.filter_cons_of_pos (by simp [hy])]
      by_cases hk : y.id = key
      · rw [List.find?_cons_of_pos (by simp [hk]), List.find?_cons_of_pos (by simp [hk])]
      · rw [List.find?_cons_of_neg (by simp [hk]), List.find?_cons_of_neg (by simp [hk])]
        exact ih
theorem chkF_mono : ∀ (L : List TnE) (a b : Int), a ≤ b → chkF b L = true → chkF a L = true
  | [], _, _, _, _ => rfl
  | y :: r, a, b, h, hb => by
    unfold chkF at hb ⊢
    simp only [Bool.and_eq_true, decide_eq_true_eq] at hb ⊢
    exact ⟨⟨by omega, hb.1.2⟩, hb.2⟩
theorem chkF_flt (p : TnE → Bool) : ∀ (L : List TnE) (a : Int), chkF a L = true → chkF a (L.filter p) = true
  | [], _, _ => rfl
  | y :: r, a, h => by
    unfold chkF at h
    simp only [Bool.and_eq_true, decide_eq_true_eq] at h
    have ih := chkF_flt p r y.id h.2
    cases hp : p y
    · rw [List.filter_cons_of_neg (by simp [hp])]
      exact chkF_mono _ a y.id (by omega) ih
    · rw [List.filter_cons_of_pos hp]
      unfold chkF
      simp only [Bool.and_eq_true, decide_eq_true_eq]
      exact ⟨h.1, ih⟩
theorem chk_may : ∀ (L : List TnE) (a : Int), chkF a L = true → ∀ z ∈ L, mayT z = true
  | [], _, _, z, hz => absurd hz (by simp)
  | y :: r, a, h, z, hz => by
    unfold chkF at h
    simp only [Bool.and_eq_true, decide_eq_true_eq] at h
    rcases List.mem_cons.1 hz with rfl | hz
    · exact h.1.2
    · exact chk_may r y.id h.2 z hz
theorem lay_len (x : TnE) : ∀ L : List TnE, (layR x L).length ≤ L.length + 1
  | [] => by simp [layR]
  | y :: r => by
    have := lay_len x r
    unfold layR
    split
    · simp; omega
    · split <;> simp
def bktL (key : Int) (L : List TnE) : Int := ((fnd key L).getD z0).bkt
theorem bkt_pos {L : List TnE} (h : chk L = true) (key : Int) : 0 ≤ bktL key L := by
  unfold bktL
  cases hf : fnd key L with
  | none => exact Int.le_refl _
  | some y =>
    have hm := chk_may L 0 h y (List.mem_of_find?_eq_some hf)
    unfold mayT fullB at hm
    simp only [Bool.and_eq_true, decide_eq_true_eq] at hm
    exact hm.1.2.1
theorem may_put {L : List TnE} {id rate burst out : Int} (h1 : idB id = true) (h2 : mayB rate burst = true) : mayT (putX L id rate burst out) = true := by
  have c := room_bd burst out
  have d := within_bd ((fnd id L).getD z0).bkt (room burst out) c.1
  unfold mayT putX cut fullB zeroB
  simp only [h1, h2]
  simp
  omega
theorem putE_cases {L : List TnE} {id rate burst : Int} (h : chk L = true) : (putE L id rate burst = 0 ∧ idB id = true ∧ mayB rate burst = true) ∨ (putE L id rate burst ≠ 0 ∧ (putE L id rate burst = 161 ∨ putE L id rate burst = 160)) := by
  unfold putE
  rw [h]
  cases h1 : idB id
  · right; simp
  · cases h2 : mayB rate burst
    · right; simp
    · left; simp
theorem getE_id {L : List TnE} {id : Int} (h : chk L = true) (h2 : getE id L = 0) : idB id = true := by
  unfold getE at h2
  rw [h] at h2
  cases hf : fnd id L with
  | none => rw [hf] at h2; simp at h2
  | some y =>
    have hm := chk_may L 0 h y (List.mem_of_find?_eq_some hf)
    have he := List.find?_some hf
    unfold mayT at hm
    simp only [Bool.and_eq_true] at hm
    have : y.id = id := by simpa using he
    rw [← this]
    exact hm.1.1.1
theorem may_id' {x : TnE} : (decide (0 < x.id) && mayT x) = mayT x := by
  unfold mayT idB
  by_cases h : 1 ≤ x.id
  · rw [show decide (0 < x.id) = true by simp; omega]; rfl
  · simp [h]
theorem chk_del {L : List TnE} {id out : Int} (h : chk L = true) : chk (delL L id out) = true := by
  unfold delL
  by_cases h0 : getE id L = 0
  · rw [if_pos h0]
    split
    · have := chk_lay (delX id) L 0 h
      have hid := getE_id h h0
      unfold chk
      rw [this, may_id']
      unfold mayT delX zeroB fullB
      simp only [hid]
      simp [mayB]
    · exact chkF_flt _ L 0 h
  · rw [if_neg h0]; exact h
theorem fnd_del_ne {L : List TnE} {id out key : Int} (hk : key ≠ id) : fnd key (delL L id out) = fnd key L := by
  unfold delL
  split
  · split
    · exact fnd_lay_ne (delX id) key hk L
    · exact fnd_flt_ne id key hk L
  · rfl
/-- behind a Put that went well -/
theorem put_good {L : List TnE} {id rate burst out : Int} (h : chk L = true) (he : putE L id rate burst = 0) (h1 : idB id = true) (h2 : mayB rate burst = true) :
    putL L id rate burst out = layR (putX L id rate burst out) L ∧ chk (putL L id rate burst out) = true ∧ fnd id (putL L id rate burst out) = some (putX L id rate burst out) := by
  have e : putL L id rate burst out = layR (putX L id rate burst out) L := by unfold putL; rw [if_pos he]
  refine ⟨e, ?_, ?_⟩
  · rw [e]
    unfold chk
    rw [chk_lay _ L 0 h, may_id', may_put h1 h2]
  · rw [e]; exact fnd_lay_same (putX L id rate burst out) L
theorem del_good {L : List TnE} {id out : Int} {x : TnE} (h : chk L = true) (hf : fnd id L = some x) (hg : x.gone = false) : bktL id (delL L id out) = 0 ∧ getE id (delL L id out) = 161 := by
  have h0 : getE id L = 0 := by unfold getE; rw [h, hf]; simp [hg]
  have hc := chk_del (out := out) h (id := id)
  have hl : fnd id (delL L id out) = some (delX id) ∨ fnd id (delL L id out) = none := by
    unfold delL
    rw [if_pos h0]
    split
    · exact .inl (fnd_lay_same (delX id) L)
    · exact .inr (fnd_flt_same id L)
  unfold bktL getE
  rw [hc]
  rcases hl with e | e
  · rw [e]; exact ⟨rfl, rfl⟩
  · rw [e]; exact ⟨rfl, rfl⟩
theorem getV_congr {L L' : List TnE} {key : Int} (h : chk L = true) (h' : chk L' = true) (hf : fnd key L = fnd key L') : getV key L = getV key L' := by
  have e : getE key L = getE key L' := by unfold getE; rw [h, h', hf]
  unfold getV getX
  rw [e, hf]
set_option maxRecDepth 100000 in
set_option maxHeartbeats 4000000 in
theorem bucket_any (v : Value) (L : List TnE) (key : Int) (w : World) (h : TV w v L) : Calls Try.prog 57 #[v, .int .i64 key] w fun e w' => e = .returned (.int .i64 (bktL key L)) ∧ Below w.heap.size w w' := by
  obtain ⟨R, hR⟩ : ∃ R, R = bktL key L := ⟨_, rfl⟩
  rw [← hR]
  have HR := Lib.hid hR
  clear hR
  obtain ⟨a, b, o, cap, rfl, h⟩ := h
  have m1 := h.le
  have m2 := h.max
  unfold maxLen at m2
  have H1 := Lib.hid h
  clear h
  obtain ⟨n, hn⟩ : ∃ n, n = L.length := ⟨_, rfl⟩
  have HN := Lib.hid hn
  rw [← hn] at m1 H1 ⊢
  clear hn
  go_enter Try.func57, Try.ntmps57
  go_wp2_with fail
  go_loopw [5] (fun i wr => ∃ k : Nat, k ≤ n ∧ i = .int .i64 k ∧ fnd key (L.drop k) = fnd key L ∧ Below w.heap.size w wr) (fun i _ => n - (intOf i).toNat)
  case atStart => exact ⟨0, Nat.zero_le _, rfl, rfl, Below.refl _ _⟩
  case round =>
    obtain ⟨k, hk, rfl, hf, hB⟩ := hrel
    have HB := Lib.hid hB
    have HF := Lib.hid hf
    clear hf hB
    by_cases hlt : k < n
    · have hs1 := H1.out.below HB.out
      obtain ⟨e0, e1⟩ := hs1.at_ (by omega)
      subst e0
      obtain ⟨c0, c1, c2, c3, c4⟩ := hs1.cell k hlt
      have hst := fnd_step key (L := L) (k := k) (by rw [← HN.out]; exact hlt)
      rw [HF.out] at hst
      obtain ⟨x, hx⟩ : ∃ x, x = gt L k := ⟨_, rfl⟩
      rw [← hx] at c0 c1 c2 c3 c4 hst
      have HST := Lib.hid hst
      clear hs1 hx hst
      by_cases he : x.id = key
      · have hRx : R = x.bkt := by rw [HR.out]; unfold bktL; rw [HST.out, if_pos he]; rfl
        subst hRx
        have hd : (x.id = key) = True := eq_true he
        have hd2 : (x.id == key) = true := beq_iff_eq.2 he
        clear he
        go_wp2_with fail
        go_ret
        exact ⟨rfl, HB.out⟩
      · have HF2 : Hid (fnd key (L.drop (k + 1)) = fnd key L) := Lib.hid (by rw [HST.out, if_neg he])
        go_wp2_with fail
        go_roundw
        case rel => exact ⟨k + 1, by omega, by go_num, HF2.out, HB.out⟩
        case measure => first | (simp [intOf]; done) | (simp [intOf]; omega)
    · obtain rfl : k = n := by omega
      have hRx : R = 0 := by
        rw [HR.out]
        unfold bktL
        rw [← HF.out, HN.out, fnd_end]
        rfl
      subst hRx
      go_wp2_with fail
      go_ret
      exact ⟨rfl, HB.out⟩
end Go.Proofs.Ytpgpcgpecpimlaa
