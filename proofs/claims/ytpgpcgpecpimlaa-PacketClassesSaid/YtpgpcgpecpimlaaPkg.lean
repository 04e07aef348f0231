/-
  The check of a packet, reckoned: what one byte does to it; places of a tenant's flows, rising.
-/
import Derived.Test.YtpgpcgpecpimlaaPkf
namespace Go.Proofs.Ytpgpcgpecpimlaa
open Go.RowKit
set_option linter.unusedSimpArgs false
set_option linter.unusedVariables false

/-! ### The places of a tenant's flows -/
theorem plcs_mem (t : Int) (E : Nat → FlowE) : ∀ n, ∀ x ∈ plcs t E n, x < n ∧ (E x).t = t
  | 0, x, h => by simp [plcs] at h
  | n + 1, x, h => by
    rw [plcs, List.mem_append] at h
    rcases h with h | h
    · obtain ⟨h1, h2⟩ := plcs_mem t E n x h
      exact ⟨by omega, h2⟩
    · cases hq : (E n).t == t
      · rw [hq] at h; simp at h
      · rw [hq] at h
        obtain rfl : x = n := by simpa using h
        exact ⟨by omega, by simpa using hq⟩
theorem plcs_up (t : Int) (E : Nat → FlowE) : ∀ n, (plcs t E n).Pairwise (· < ·)
  | 0 => by simp [plcs]
  | n + 1 => by
    rw [plcs, List.pairwise_append]
    refine ⟨plcs_up t E n, by cases (E n).t == t <;> simp, fun x hx y hy => ?_⟩
    have h1 := (plcs_mem t E n x hx).1
    cases hq : (E n).t == t
    · rw [hq] at hy; simp at hy
    · rw [hq] at hy
      obtain rfl : y = n := by simpa using hy
      exact h1
theorem flow_at {t : Int} {E : Nat → FlowE} {len f k : Nat} {M q : Int} (hf : (plcs t E len).length = f) (hk : k < f) (hM : M = q * f) (h0 : 0 ≤ M) : flowK t (M + k) E len = ((plcs t E len).getD k 0 : Nat) ∧ flowE t (M + k) E len = 0 := by
  have h1 : (M + k) % (f : Int) = k := by
    rw [hM, Int.add_comm, Int.add_mul_emod_self_right]
    exact Int.emod_eq_of_lt (by omega) (by omega)
  unfold flowK flowE
  rw [hf, if_neg (by omega), if_neg (by omega), if_neg (by omega), if_neg (by omega), h1, Int.toNat_natCast]
  exact ⟨rfl, rfl⟩

/-! ### The sum -/
def wsum (X : Nat → Nat) : Nat → Nat
  | 0 => 0
  | n + 1 => wsum X n + X n * (if n % 2 = 0 then 256 else 1)
theorem carN_mod {s : Nat} (h : s ≤ 131070) : carN s % 65535 = s % 65535 := by unfold carN; split <;> omega
theorem sumW_mod (X : Nat → Nat) (hX : ∀ k, X k < 256) : ∀ j, sumW X j % 65535 = wsum X (2 * j) % 65535
  | 0 => by simp [sumW, wsum]
  | j + 1 => by
    have h0 := sumW_le X hX j
    have h1 := hX (2 * j)
    have h2 := hX (2 * j + 1)
    have ih := sumW_mod X hX j
    rw [sumW, carN_mod (by omega), show 2 * (j + 1) = 2 * j + 1 + 1 by omega, wsum, wsum, if_pos (show (2 * j) % 2 = 0 by omega), if_neg (show ¬ (2 * j + 1) % 2 = 0 by omega)]
    omega
theorem sumN16_mod (X : Nat → Nat) (hX : ∀ k, X k < 256) (n : Nat) : sumN16 X n % 65535 = wsum X n % 65535 := by
  have h := sumW_mod X hX (n / 2)
  have h0 := sumW_le X hX (n / 2)
  have h1 := hX (n - 1)
  unfold sumN16
  split
  · rename_i he
    rw [h, show 2 * (n / 2) = n by omega]
  · rename_i he
    rw [carN_mod (by omega)]
    obtain ⟨m, hm⟩ : ∃ m, n = m + 1 := ⟨n - 1, by omega⟩
    subst hm
    rw [show 2 * ((m + 1) / 2) = m by omega] at h
    rw [show m + 1 - 1 = m by omega, wsum, if_pos (by omega)]
    omega
theorem wsum_congr {X Y : Nat → Nat} : ∀ n, (∀ j, j < n → X j = Y j) → wsum X n = wsum Y n
  | 0, _ => rfl
  | n + 1, h => by rw [wsum, wsum, wsum_congr n fun j hj => h j (by omega), h n (by omega)]
theorem wsum_one {X Y : Nat → Nat} {K : Nat} (h : ∀ j, j ≠ K → X j = Y j) : ∀ n, K < n → wsum Y n + X K * (if K % 2 = 0 then 256 else 1) = wsum X n + Y K * (if K % 2 = 0 then 256 else 1)
  | 0, hk => by omega
  | n + 1, hk => by
    rw [wsum, wsum]
    by_cases e : K = n
    · subst e
      rw [wsum_congr K fun j hj => h j (by omega)]
      omega
    · have ih := wsum_one h n (by omega)
      rw [h n (fun e2 => e e2.symm)]
      omega
theorem sum_differs {X Y : Nat → Nat} (hX : ∀ k, X k < 256) (hY : ∀ k, Y k < 256) {K n : Nat} (hK : K < n) (h : ∀ j, j ≠ K → X j = Y j) (hs : sumN16 X n = sumN16 Y n) : X K = Y K := by
  have h1 := sumN16_mod X hX n
  have h2 := sumN16_mod Y hY n
  have h3 := wsum_one h n hK
  have h4 := hX K
  have h5 := hY K
  rw [hs, h2] at h1
  split at h3 <;> omega
theorem sumN16_congr {X Y : Nat → Nat} {n : Nat} (h : ∀ j, j < n → X j = Y j) : sumN16 X n = sumN16 Y n := by
  have hW : ∀ j, 2 * j ≤ n → sumW X j = sumW Y j := by
    intro j
    induction j with
    | zero => intro _; rfl
    | succ j ih => intro hj; rw [sumW, sumW, ih (by omega), h (2 * j) (by omega), h (2 * j + 1) (by omega)]
  unfold sumN16
  rw [hW _ (by omega)]
  split
  · rfl
  · rename_i he
    rw [h (n - 1) (by omega)]

/-! ### A packet's bytes, with one of them changed -/
def builtZ (t c m : Nat) (X : Nat → Nat) : Nat → Nat := putB (headB t c m) 8 X
def builtB (t c m : Nat) (X : Nat → Nat) : Nat → Nat := fixB (builtZ t c m X) (65535 - sumN16 (builtZ t c m X) (8 + m))
theorem built_bd {t c m : Nat} {X : Nat → Nat} (ht : t < 256) (hc : c < 256) (hm : m ≤ 1492) (hX : ∀ j, X j < 256) (j : Nat) : builtB t c m X j < 256 := fix_bd (head_bd ht hc (by omega) hX) (by omega) j
theorem built_1 (t c m : Nat) (X : Nat → Nat) : builtB t c m X 1 = t := by simp [builtB, fixB, builtZ, putB, headB]
theorem built_2 (t c m : Nat) (X : Nat → Nat) : builtB t c m X 2 = c := by simp [builtB, fixB, builtZ, putB, headB]
theorem built_8 (t c m : Nat) (X : Nat → Nat) (j : Nat) : builtB t c m X (8 + j) = X j := by
  unfold builtB fixB builtZ putB
  rw [if_neg (by omega), if_neg (by omega), if_neg (by omega)]
  congr 1
  omega
theorem again_built (t c m : Nat) (X : Nat → Nat) : againB (builtB t c m X) (8 + m) = builtB t c m X := by
  have h8 : (fun j => builtB t c m X (8 + j)) = X := funext fun j => built_8 t c m X j
  unfold againB
  rw [built_1, built_2, h8, show 8 + m - 8 = m by omega]
  rfl
theorem parse_built {t c m : Nat} {X : Nat → Nat} (ht : 1 ≤ t ∧ t ≤ 16) (hm : m ≤ 1492) : parseOk (builtB t c m X) (8 + m) = true := by
  unfold parseOk
  rw [built_1, again_built, decide_eq_true (by omega), decide_eq_true ht]
  simp only [Bool.true_and]
  exact (eqB_iff _ _ _).2 fun _ _ => rfl
theorem parse_changed {t c m K v : Nat} {X : Nat → Nat} (ht : t < 256) (hc : c < 256) (hm : m ≤ 1492) (hX : ∀ j, X j < 256) (hv : v < 256) (hK : K < 8 + m) (hne : v ≠ builtB t c m X K) :
    parseOk (fun j => if j = K then v else builtB t c m X j) (8 + m) = false := by
  obtain ⟨Y, hY⟩ : ∃ Y : Nat → Nat, Y = fun j => if j = K then v else builtB t c m X j := ⟨_, rfl⟩
  have hYK : Y K = v := by rw [hY]; simp
  have hYj : ∀ j, j ≠ K → Y j = builtB t c m X j := fun j hj => by rw [hY]; simp [hj]
  have hYb : ∀ j, Y j < 256 := fun j => by
    by_cases e : j = K
    · rw [e, hYK]; exact hv
    · rw [hYj j e]; exact built_bd ht hc hm hX j
  rw [← hY]
  cases hp : parseOk Y (8 + m)
  · rfl
  · exfalso
    unfold parseOk at hp
    simp only [Bool.and_eq_true] at hp
    have he := (eqB_iff _ _ _).1 hp.2.2
    obtain ⟨Z', hZ'⟩ : ∃ Z', Z' = builtZ (Y 1) (Y 2) m fun j => Y (8 + j) := ⟨_, rfl⟩
    obtain ⟨S', hS'⟩ : ∃ S', S' = 65535 - sumN16 Z' (8 + m) := ⟨_, rfl⟩
    have hag : againB Y (8 + m) = fixB Z' S' := by
      rw [hS', hZ']
      unfold againB
      rw [show 8 + m - 8 = m by omega]
      rfl
    rw [hag] at he
    obtain ⟨Z, hZ⟩ : ∃ Z, Z = builtZ t c m X := ⟨_, rfl⟩
    obtain ⟨S, hS⟩ : ∃ S, S = 65535 - sumN16 Z (8 + m) := ⟨_, rfl⟩
    have hb : builtB t c m X = fixB Z S := by rw [hS, hZ]; rfl
    rw [hb] at hYj hne
    have hZb : ∀ j, Z j < 256 := by rw [hZ]; exact head_bd ht hc (by omega) hX
    have hZb' : ∀ j, Z' j < 256 := by rw [hZ']; exact head_bd (hYb 1) (hYb 2) (by omega) fun j => hYb _
    have hs1 := sumN16_le Z hZb (8 + m)
    have hs2 := sumN16_le Z' hZb' (8 + m)
    have z0 : ∀ j, j = 0 ∨ j = 3 ∨ j = 4 ∨ j = 5 → Z' j = Z j := fun j hj => by
      rw [hZ, hZ']
      unfold builtZ putB headB
      rcases hj with rfl | rfl | rfl | rfl <;> rfl
    have z67 : Z' 6 = Z 6 ∧ Z' 7 = Z 7 := by rw [hZ, hZ']; exact ⟨rfl, rfl⟩
    have z1 : Z' 1 = Y 1 := by rw [hZ']; rfl
    have z2 : Z' 2 = Y 2 := by rw [hZ']; rfl
    have z8 : ∀ j, 8 ≤ j → Z' j = Y j := fun j hj => by
      rw [hZ']
      unfold builtZ putB
      rw [if_neg (by omega)]
      show Y (8 + (j - 8)) = Y j
      rw [show 8 + (j - 8) = j by omega]
    have f_ : ∀ (U : Nat → Nat) (s j : Nat), j ≠ 6 → j ≠ 7 → fixB U s j = U j := fun U s j h6 h7 => by unfold fixB; rw [if_neg h6, if_neg h7]
    have f6 : ∀ (U : Nat → Nat) (s : Nat), fixB U s 6 = s / 256 := fun U s => rfl
    have f7 : ∀ (U : Nat → Nat) (s : Nat), fixB U s 7 = s % 256 := fun U s => rfl
    -- where Y is as it was built, Z' is Z
    have hZZ : ∀ j, j ≠ K → j ≠ 6 → j ≠ 7 → Z' j = Z j := fun j hj h6 h7 => by
      by_cases h03 : j = 0 ∨ j = 3 ∨ j = 4 ∨ j = 5
      · exact z0 j h03
      · by_cases h1 : j = 1
        · subst h1; rw [z1, hYj 1 hj, f_ _ _ _ (by omega) (by omega)]
        · by_cases h2 : j = 2
          · subst h2; rw [z2, hYj 2 hj, f_ _ _ _ (by omega) (by omega)]
          · rw [z8 j (by omega), hYj j hj, f_ _ _ _ h6 h7]
    by_cases h67 : K = 6 ∨ K = 7
    · have hall : ∀ j, Z' j = Z j := fun j => by
        by_cases h6 : j = 6
        · subst h6; exact z67.1
        · by_cases h7 : j = 7
          · subst h7; exact z67.2
          · exact hZZ j (by omega) h6 h7
      have hSS : S' = S := by rw [hS, hS', sumN16_congr fun j _ => hall j]
      have h9 := he K hK
      rw [hYK, hSS] at h9
      rcases h67 with rfl | rfl
      · rw [f6] at h9 hne; exact hne h9.symm
      · rw [f7] at h9 hne; exact hne h9.symm
    · have h6 := he 6 (by omega)
      have h7 := he 7 (by omega)
      rw [hYj 6 (by omega), f6, f6] at h6
      rw [hYj 7 (by omega), f7, f7] at h7
      have hss : sumN16 Z' (8 + m) = sumN16 Z (8 + m) := by omega
      have hone : Z' K = Z K := sum_differs hZb' hZb hK (fun j hj => by
        by_cases e6 : j = 6
        · subst e6; exact z67.1
        · by_cases e7 : j = 7
          · subst e7; exact z67.2
          · exact hZZ j hj e6 e7) hss
      have h9 := he K hK
      rw [hYK, f_ _ _ _ (by omega) (by omega), hone] at h9
      rw [f_ _ _ _ (by omega) (by omega)] at hne
      exact hne h9.symm
end Go.Proofs.Ytpgpcgpecpimlaa
