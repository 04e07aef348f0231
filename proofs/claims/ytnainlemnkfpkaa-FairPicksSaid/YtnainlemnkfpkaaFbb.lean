/-
  A copy of a scheduler, and its state.
-/
import Derived.Test.YtnainlemnkfpkaaFb3
namespace Go.Proofs.Ytnainlemnkfpkaa
open Go.RowKit
set_option linter.unusedSimpArgs false
set_option linter.unusedVariables false

def fwL (wt z : Nat → Int) (sv : Nat → Bool) (n : Nat) : List Value := (List.range n).flatMap fun k => [.int .u8 (wt k), .int .u16 (z k), .bool (sv k)]
theorem fwL_len (wt z : Nat → Int) (sv : Nat → Bool) : ∀ n : Nat, (fwL wt z sv n).length = n * 3
  | 0 => rfl
  | n + 1 => by
    have := fwL_len wt z sv n
    simp only [fwL] at this ⊢
    rw [List.range_succ, List.flatMap_append, List.length_append, this]
    simp
    omega
theorem fwL_at (wt z : Nat → Int) (sv : Nat → Bool) : ∀ (n k j : Nat), k < n → j < 3 → (fwL wt z sv n)[k * 3 + j]? = ([.int .u8 (wt k), .int .u16 (z k), .bool (sv k)] : List Value)[j]?
  | 0, _, _, h, _ => by omega
  | n + 1, k, j, h, hj => by
    have hs : fwL wt z sv (n + 1) = fwL wt z sv n ++ [.int .u8 (wt n), .int .u16 (z n), .bool (sv n)] := by simp [fwL, List.range_succ, List.flatMap_append]
    rw [hs]
    by_cases hk : k = n
    · subst hk
      rw [List.getElem?_append_right (by rw [fwL_len]; omega), fwL_len]
      congr 1
      omega
    · rw [List.getElem?_append_left (by rw [fwL_len]; omega)]
      exact fwL_at wt z sv n k j (by omega) hj
theorem fwInfo : (Try.prog.info? 63).map (fun i => (i.zero, i.size, i.bytes)) = some (some (.agg #[.int .u8 0, .int .u16 0, .bool false]), 3, 6) := by kernel_rfl
theorem fwL_one (wt z : Nat → Int) (sv : Nat → Bool) (n : Nat) : ∀ u ∈ fwL wt z sv n, u.oneCell' = true := fun u hu => by
  simp only [fwL, List.mem_flatMap] at hu
  obtain ⟨p, _, hu⟩ := hu
  simp at hu
  rcases hu with rfl | rfl | rfl <;> rfl
theorem fl_of {W : World} {fo n : Nat} {wt z : Nat → Int} {sv : Nat → Bool} (h : FlAt W fo n wt z sv) (j : Nat) (u : Value) (hu : (fwL wt z sv n)[j]? = some u) : W.cell? ⟨fo, j, none⟩ = some u := by
  have hj : j < n * 3 := by
    have := (List.getElem?_eq_some_iff.1 hu).1
    rwa [fwL_len] at this
  have h1 := fwL_at wt z sv n (j / 3) (j % 3) (by omega) (by omega)
  rw [show j / 3 * 3 + j % 3 = j by omega, hu] at h1
  obtain ⟨c0, c1, c2, _⟩ := h.cell (k := j / 3) (by omega)
  rcases (show j % 3 = 0 ∨ j % 3 = 1 ∨ j % 3 = 2 by omega) with e | e | e
  · rw [e] at h1
    obtain rfl : u = .int .u8 (wt (j / 3)) := by simpa using h1
    rw [show j = j / 3 * 3 by omega]
    rw [show j / 3 * 3 / 3 = j / 3 by omega]
    exact c0
  · rw [e] at h1
    obtain rfl : u = .int .u16 (z (j / 3)) := by simpa using h1
    rw [← c1]
    congr 2
    omega
  · rw [e] at h1
    obtain rfl : u = .bool (sv (j / 3)) := by simpa using h1
    rw [← c2]
    congr 2
    omega
theorem fl_row {W : World} {v : Value} {o : Option Nat} {n : Nat} {wt z : Nat → Int} {sv : Nat → Bool} (h : Row W v o 63 3 n (fwL wt z sv n)) (h0 : 0 < n) : ∃ fo c, v = .slice (some ⟨fo, 0, none⟩) n c ∧ o = some fo ∧ FlAt W fo n wt z sv ∧ n ≤ c ∧ c ≤ maxLen := by
  rcases h.cases with ⟨_, _, _, h4⟩ | ⟨g1, cap, cur, he, hv, h3, h4, h5, h6, h7⟩
  · have := fwL_len wt z sv n
    rw [h4] at this
    simp at this
    omega
  · refine ⟨g1, cap, hv, he, ⟨cur, h3, fun k hk => ?_⟩, by omega, by omega⟩
    have key : ∀ j, j < 3 → cur[k * 3 + j]? = ([.int .u8 (wt k), .int .u16 (z k), .bool (sv k)] : List Value)[j]? := fun j hj => by
      have := fwL_at wt z sv n k j hk hj
      rw [← h7, List.getElem?_take, if_pos (by omega)] at this
      rw [← Array.getElem?_toList]
      exact this
    exact ⟨key 0 (by omega), key 1 (by omega), key 2 (by omega)⟩
set_option maxHeartbeats 1000000 in
set_option maxRecDepth 100000 in
theorem flclone_any (fo n c1 : Nat) (wt z : Nat → Int) (sv : Nat → Bool) (w : World) (hs : FlAt w fo n wt z sv) (hn : n ≤ 8) (h0 : 0 < n) :
    Calls Try.prog 22 #[.slice (some ⟨fo, 0, none⟩) n c1] w (fun e w' => ∃ fo' c', e = .returned (.slice (some ⟨fo', 0, none⟩) n c') ∧ FlAt w' fo' n wt z sv ∧ (n ≤ c' ∧ c' ≤ maxLen) ∧ w.heap.size ≤ fo' ∧ Below w.heap.size w w') := by
  have hc : ∀ j u, (fwL wt z sv n)[j]? = some u → w.cell? ((⟨fo, 0, none⟩ : Addr).add j) = some u := fun j u hu => by
    rw [addr_pl, Nat.zero_add]
    exact fl_of hs j u hu
  have hone := fwL_one wt z sv n
  have HLT := Lib.hid hs.lt
  have HN : Hid (0 < n ∧ n ≤ 8) := Lib.hid ⟨h0, hn⟩
  clear hs
  obtain ⟨i0, hi, hz0, hz1, hz2⟩ := info_parts fwInfo
  have HI := Lib.hid hi
  have hlen := fwL_len wt z sv n
  obtain ⟨cs, hcs⟩ : ∃ cs, cs = fwL wt z sv n := ⟨_, rfl⟩
  rw [← hcs] at hc hlen hone
  have HC := Lib.hid hc
  have HCS := Lib.hid hcs
  clear hi hcs hc
  have heq := fun W => eql_nil W 58 63 (some ⟨fo, 0, none⟩) n c1 Try.underlying58
  go_enter Try.func22, Try.ntmps22
  have hown0 : (w.alloc (.cells #[] 63)).ownsRow w.heap.size 63 3 (.slice (some ⟨w.heap.size, 0, none⟩) 0 0) 0 [] :=
    ⟨rfl, .inr ⟨w.heap.size, 0, #[], rfl, Nat.le_refl _, heap_alloc_new w _, Nat.le_refl _, Nat.zero_le _, rfl, rfl⟩⟩
  go_wp2_with (at_builtin; refine wpList_append_own _ rfl (.tmp 5) (.tmp 6) 58 rfl w.heap.size 63 i0 (.agg #[.int .u8 0, .int .u16 0, .bool false]) 3 6 Try.underlying58 HI.out hz0 hz1 hz2 rfl (by decide) _ _ _ rfl hown0 ⟨fo, 0, none⟩ n c1 cs rfl hlen ?c1 ?c2 ?c3 ?c4 ?c5 ?_)
  case c1 =>
    intro j u hj
    exact (((Below.refl w.heap.size w).alloc (Nat.le_refl _) _).cell (p := (⟨fo, 0, none⟩ : Addr).add j) (by rw [addr_pl]; exact HLT.out)).trans (HC.out j u hj)
  case c2 => exact hone
  case c3 => unfold maxLen; omega
  case c4 => omega
  case c5 => simp
  intro v' w2 hown' hgrow _
  have hB : Below w.heap.size w w2 := ((Below.refl w.heap.size w).alloc (Nat.le_refl _) (.cells #[] 63)).grown hgrow (by simp) (fun j e => (hown0.lt j e).1)
  clear hgrow hown0
  have hown' : w2.ownsRow w.heap.size 63 3 v' n cs := by simpa using hown'
  have hRow : Row w2 v' v'.ownBlock 63 3 n cs := ⟨own_mono hown' (Nat.zero_le _), rfl⟩
  have hge : ∀ g, v'.ownBlock = some g → w.heap.size ≤ g := fun g hg => (hown'.lt g hg).1
  have HR := Lib.hid hRow
  obtain ⟨a2, c2, rfl, _, _, _⟩ := hRow.shape
  have HG := Lib.hid hge
  clear hRow hown' hge
  go_wp2
  go_ret
  have hrr := HR.out
  rw [HCS.out] at hrr
  obtain ⟨fo', c', e1, e2, e3, e4, e5⟩ := fl_row hrr HN.out.1
  exact ⟨fo', c', by rw [e1]; rfl, e3, ⟨e4, e5⟩, HG.out _ e2, hB⟩
set_option maxRecDepth 100000 in
set_option maxHeartbeats 16000000 in
theorem fstate_any (M g fo ft n c1 c2 : Nat) (wt : Nat → Int) (al : Int) (s : FS) (w : World) (h : FrAt w M g fo ft n c1 c2 wt al s) (hi : Inv n s) (h0 : 0 < n) :
    Calls Try.prog 14 #[.pointer (some ⟨g, 0, none⟩)] w fun e w' => ∃ ft' c', e = .returned (.agg #[.int .i64 s.V, .slice (some ⟨ft', 0, none⟩) n c']) ∧ Row w' (.slice (some ⟨ft', 0, none⟩) n c') (some ft') 80 2 n (tagsL s.T n) ∧ w.heap.size ≤ ft' ∧ Below w.heap.size w w' := by
  have hn8 := hi.n8
  obtain ⟨N, hN⟩ : ∃ N, N = w.heap.size := ⟨_, rfl⟩
  obtain ⟨W1, hW1⟩ : ∃ W, W = w.alloc (.cells #[.int .i64 0, .slice none 0 0] 39) := ⟨_, rfl⟩
  have hB1 : Below w.heap.size w W1 := by rw [hW1]; exact alloc_b _ _
  have HX1 := Lib.hid (show Blk W1 N #[.int .i64 0, .slice none 0 0] 39 by rw [hW1, hN]; exact blk_new _ _ _)
  have HF1 := Lib.hid (h.step hB1)
  have HB1 := Lib.hid hB1
  have HI := Lib.hid hi
  have H0 : Hid (0 < n ∧ n ≤ 8) := Lib.hid ⟨h0, hn8⟩
  have HNN : Hid (w.heap.size = N) := Lib.hid hN.symm
  clear h hi hB1 h0 hn8
  go_enter Try.func14, Try.ntmps14
  go_upto_region 1 with fail
  rw [← hN, ← hW1]
  clear hN hW1
  go_upto_region 3 with fail
  refine wp_region_held_drew (S := fun X => X.cell? ⟨g, 2, none⟩ = some (.int .i64 s.V) ∧ X.cell? ⟨g, 3, none⟩ = some (.slice (some ⟨ft, 0, none⟩) n c2)) (by kernel_rfl) ⟨cell_at HF1.out.blk 2, cell_at HF1.out.blk 3⟩ (fun hHeld => ?_)
  try simp only [Act.put, List.setIfInBounds_toArray, List.set_cons_zero, List.set_cons_succ]
  have Bz := belowN (Below.refl W1.heap.size W1) 1
  have HX2 := Lib.hid (show Blk W1.drew N #[.int .i64 0, .slice none 0 0] 39 from HX1.out.step Bz)
  have HF2 := Lib.hid (show FrAt W1.drew M g fo ft n c1 c2 wt al s from HF1.out.step Bz)
  have HB2 : Hid (Below w.heap.size w W1.drew) := Lib.hid (HB1.out.trans (Bz.mono HB1.out.size))
  have CL := Lib.hid (clone_any (some ⟨ft, 0, none⟩) n c2 ft 0 s.T W1.drew (HF2.out.tags HI.out) (by have := H0.out; omega))
  clear Bz HX1 HF1 HB1
  ((refine wpAnyH_take (i := 0) (v := ?_) (by (simp only [List.getElem?_toArray, List.getElem?_cons_succ, List.getElem?_cons_zero]); rfl) (by kernel_rfl) (by kernel_rfl) (by kernel_rfl) (by exact fun _ _ _ h => h) (Or.inl ⟨by rfl, ?_⟩) (by assumption) ?_); rotate_left; focus (intro wS hSw; (try dsimp only at hSw); go_simp; first | done | with_reducible rfl); try simp only [Act.put, List.setIfInBounds_toArray, List.set_cons_zero, List.set_cons_succ])
  ((refine wpAnyH_take (i := 1) (v := ?_) (by (simp only [List.getElem?_toArray, List.getElem?_cons_succ, List.getElem?_cons_zero]); rfl) (by kernel_rfl) (by kernel_rfl) (by kernel_rfl) (by exact fun _ _ _ h => h) (Or.inl ⟨by rfl, ?_⟩) (by assumption) ?_); rotate_left; focus (intro wS hSw; (try dsimp only at hSw); go_simp; first | done | with_reducible rfl); try simp only [Act.put, List.setIfInBounds_toArray, List.set_cons_zero, List.set_cons_succ])
  ((refine wpAnyH_take (i := 2) (v := ?_) (by (simp only [List.getElem?_toArray, List.getElem?_cons_succ, List.getElem?_cons_zero]); rfl) (by kernel_rfl) (by kernel_rfl) (by kernel_rfl) (by exact fun _ _ _ h => h) (Or.inl ⟨by rfl, ?_⟩) (by assumption) ?_); rotate_left; focus (intro wS hSw; (try dsimp only at hSw); go_simp; first | done | with_reducible rfl); try simp only [Act.put, List.setIfInBounds_toArray, List.set_cons_zero, List.set_cons_succ])
  ((refine wpAnyH_take (i := 3) (v := ?_) (by (simp only [List.getElem?_toArray, List.getElem?_cons_succ, List.getElem?_cons_zero]); rfl) (by kernel_rfl) (by kernel_rfl) (by kernel_rfl) (by exact fun _ _ _ h => h) (Or.inl ⟨by rfl, ?_⟩) (by assumption) ?_); rotate_left; focus (intro wS hSw; (try dsimp only at hSw); go_simp; first | done | with_reducible rfl); try simp only [Act.put, List.setIfInBounds_toArray, List.set_cons_zero, List.set_cons_succ])
  ((refine wpAnyH_take (i := 4) (v := ?_) (by (simp only [List.getElem?_toArray, List.getElem?_cons_succ, List.getElem?_cons_zero]); rfl) (by kernel_rfl) (by kernel_rfl) (by kernel_rfl) (by exact fun _ _ _ h => h) (Or.inl ⟨by rfl, ?_⟩) (by assumption) ?_); rotate_left; focus (intro wS hSw; (try dsimp only at hSw); go_simp; first | done | with_reducible rfl); try simp only [Act.put, List.setIfInBounds_toArray, List.set_cons_zero, List.set_cons_succ])
  ((refine wpAnyH_take (i := 5) (v := ?_) (by (simp only [List.getElem?_toArray, List.getElem?_cons_succ, List.getElem?_cons_zero]); rfl) (by kernel_rfl) (by kernel_rfl) (by kernel_rfl) (by exact fun _ _ _ h => h) (Or.inl ⟨by rfl, ?_⟩) (by assumption) ?_); rotate_left; focus (intro wS hSw; (try dsimp only at hSw); go_simp; first | done | with_reducible rfl); try simp only [Act.put, List.setIfInBounds_toArray, List.set_cons_zero, List.set_cons_succ])
  ((refine wpAnyH_take (i := 6) (v := ?_) (by (simp only [List.getElem?_toArray, List.getElem?_cons_succ, List.getElem?_cons_zero]); rfl) (by kernel_rfl) (by kernel_rfl) (by kernel_rfl) (by exact fun _ _ _ h => h) (Or.inl ⟨by rfl, ?_⟩) (by assumption) ?_); rotate_left; focus (intro wS hSw; (try dsimp only at hSw); go_simp; first | done | with_reducible rfl); try simp only [Act.put, List.setIfInBounds_toArray, List.set_cons_zero, List.set_cons_succ])
  ((refine wpAnyH_take (i := 7) (v := ?_) (by (simp only [List.getElem?_toArray, List.getElem?_cons_succ, List.getElem?_cons_zero]); rfl) (by kernel_rfl) (by kernel_rfl) (by kernel_rfl) (by exact fun _ _ _ h => h) (Or.inl ⟨by rfl, ?_⟩) (by assumption) ?_); rotate_left; focus (intro wS hSw; (try dsimp only at hSw); go_simp; first | done | with_reducible rfl); try simp only [Act.put, List.setIfInBounds_toArray, List.set_cons_zero, List.set_cons_succ])
  ((refine wpAnyH_take (i := 8) (v := ?_) (by (simp only [List.getElem?_toArray, List.getElem?_cons_succ, List.getElem?_cons_zero]); rfl) (by kernel_rfl) (by kernel_rfl) (by kernel_rfl) (by exact fun _ _ _ h => h) (Or.inl ⟨by rfl, ?_⟩) (by assumption) ?_); rotate_left; focus (intro wS hSw; (try dsimp only at hSw); go_simp; first | done | with_reducible rfl); try simp only [Act.put, List.setIfInBounds_toArray, List.set_cons_zero, List.set_cons_succ])
  ((refine wpAnyH_take (i := 9) (v := ?_) (by (simp only [List.getElem?_toArray, List.getElem?_cons_succ, List.getElem?_cons_zero]); rfl) (by kernel_rfl) (by kernel_rfl) (by kernel_rfl) (by exact fun _ _ _ h => h) (Or.inl ⟨by rfl, ?_⟩) (by assumption) ?_); rotate_left; focus (intro wS hSw; (try dsimp only at hSw); go_simp; first | done | with_reducible rfl); try simp only [Act.put, List.setIfInBounds_toArray, List.set_cons_zero, List.set_cons_succ])
  refine wpAnyH_ready (rs := [10]) (by kernel_rfl) (by simp) ?_
  refine AllReadyH.cons (by (simp only [List.getElem?_toArray, List.getElem?_cons_succ, List.getElem?_cons_zero]); rfl) (fun K hK => ?_) AllReadyH.nil
  go_simp
  go_fit (CL.out)
  rintro e W3 ⟨a3, c3, ob3, rfl, hr3, hB3, hO3⟩
  obtain ⟨ft3, rfl, rfl, _⟩ := own_k hr3 H0.out.1
  have HX3 := Lib.hid (HX2.out.step hB3)
  have HF3 := Lib.hid (HF2.out.step hB3)
  have HB3 := Lib.hid (HB2.out.trans (hB3.mono HB2.out.size))
  have HR3 := Lib.hid hr3
  have HO3 := Lib.hid (Nat.le_trans HB2.out.size (hO3 _ rfl))
  clear hB3 hr3 hO3 HX2 HF2 HB2 CL
  go_wp2_with fail
  refine hK.out _ _ ⟨cell_at HF3.out.blk 2, cell_at HF3.out.blk 3⟩ (fun hHeld => ?_)
  clear hK K
  try simp only [Act.put, List.setIfInBounds_toArray, List.set_cons_zero, List.set_cons_succ]
  ((refine wpAnyH_take (i := 11) (v := ?_) (by (simp only [List.getElem?_toArray, List.getElem?_cons_succ, List.getElem?_cons_zero]); rfl) (by kernel_rfl) (by kernel_rfl) (by kernel_rfl) (by exact fun _ _ _ h => h) (Or.inl ⟨by rfl, ?_⟩) (by assumption) ?_); rotate_left; focus (intro wS hSw; (try dsimp only at hSw); go_simp; first | done | with_reducible rfl); try simp only [Act.put, List.setIfInBounds_toArray, List.set_cons_zero, List.set_cons_succ])
  have x0 : W3.cell? ⟨N, 0, none⟩ = some (.int .i64 0) := cell_at HX3.out 0
  have x1 : W3.cell? ⟨N, 1, none⟩ = some (.slice none 0 0) := cell_at HX3.out 1
  have xz : ∀ j, W3.frozen? ⟨N, j, none⟩ = false := fun j => free_at HX3.out j
  have xl : N < W3.heap.size := HX3.out.lt
  refine wpAnyH_ready (rs := [12]) (by kernel_rfl) (by simp) ?_
  refine AllReadyH.cons (by (simp only [List.getElem?_toArray, List.getElem?_cons_succ, List.getElem?_cons_zero]); rfl) (fun K hK => ?_) AllReadyH.nil
  generalize hW4' : (W3.setCell ⟨N, 0, none⟩ (.int .i64 s.V)).setCell ⟨N, 1, none⟩ (.slice (some ⟨ft3, 0, none⟩) n c3) = W4
  have hW4 := hW4'.symm
  clear hW4'
  have hx4 : Blk W4 N #[.int .i64 s.V, .slice (some ⟨ft3, 0, none⟩) n c3] 39 := by rw [hW4]; exact (HX3.out.set 0 _).set 1 _
  have hf4 : Fr [N] W3 W4 := by rw [hW4]; exact ((Fr.refl _ _).setCell _ (.inl (by simp)) _).setCell _ (.inl (by simp)) _
  have hb4 : Below w.heap.size w W4 := HB3.out.trans (hf4.below HB3.out.size (by simp; have := HNN.out; omega))
  have hr4 := HR3.out.congr (w' := W4) fun q e => by
    obtain rfl := Option.some.inj e
    obtain ⟨ct, hct⟩ := blk_row HR3.out
    exact hf4.block _ HR3.out.lt (by simpa using blk_dis hct HX3.out (by decide))
  have hF4 : FrAt W4 M g fo ft n c1 c2 wt al s := by
    obtain ⟨cf, hcf, _⟩ := HF3.out.fl
    obtain ⟨ct, hct⟩ := blk_row HF3.out.tg
    exact HF3.out.fr hf4 (by simpa using blk_dis HF3.out.blk HX3.out (by decide)) (by simpa using blk_dis hcf HX3.out (by decide)) (by simpa using blk_dis hct HX3.out (by decide))
  have HF4 := Lib.hid hF4
  have HB4 := Lib.hid hb4
  have HR4 := Lib.hid hr4
  have HX4 := Lib.hid hx4
  go_simp
  rw [← hW4]
  refine hK _ _ ⟨cell_at HF4.out.blk 2, cell_at HF4.out.blk 3⟩ (fun hHeld => ?_)
  clear hK K x0 x1 xz xl hW4 hf4 hx4 hb4 hr4 hF4
  try simp only [Act.put, List.setIfInBounds_toArray, List.set_cons_zero, List.set_cons_succ]
  refine wpAnyH_done (by kernel_rfl) ?_ _
  try simp only [Act.put, List.setIfInBounds_toArray, List.set_cons_zero, List.set_cons_succ]
  have r0 : W4.cell? ⟨N, 0, none⟩ = some (.int .i64 s.V) := cell_at HX4.out 0
  have r1 : W4.cell? ⟨N, 1, none⟩ = some (.slice (some ⟨ft3, 0, none⟩) n c3) := cell_at HX4.out 1
  go_wp2_with fail
  exact bodyPost_ret (v := .agg #[.int .i64 s.V, .slice (some ⟨ft3, 0, none⟩) n c3]) (by simp [results, Try.results14, go_sem, r0, r1]) rfl ⟨_, _, rfl, HR4.out, HO3.out, HB4.out⟩
set_option maxRecDepth 100000 in
set_option maxHeartbeats 16000000 in
theorem fstate_none (w : World) :
    Calls Try.prog 14 #[.pointer none] w fun e w' => e = .returned (.agg #[.int .i64 0, .slice none 0 0]) ∧ Below w.heap.size w w' := by
  obtain ⟨N, hN⟩ : ∃ N, N = w.heap.size := ⟨_, rfl⟩
  obtain ⟨W1, hW1⟩ : ∃ W, W = w.alloc (.cells #[.int .i64 0, .slice none 0 0] 39) := ⟨_, rfl⟩
  have hB1 : Below w.heap.size w W1 := by rw [hW1]; exact alloc_b _ _
  have HX1 := Lib.hid (show Blk W1 N #[.int .i64 0, .slice none 0 0] 39 by rw [hW1, hN]; exact blk_new _ _ _)
  have HB1 := Lib.hid hB1
  have HNN : Hid (w.heap.size = N) := Lib.hid hN.symm
  clear hB1
  go_enter Try.func14, Try.ntmps14
  go_upto_region 1 with fail
  rw [← hN, ← hW1]
  clear hN hW1
  have x0 : W1.cell? ⟨N, 0, none⟩ = some (.int .i64 0) := cell_at HX1.out 0
  have x1 : W1.cell? ⟨N, 1, none⟩ = some (.slice none 0 0) := cell_at HX1.out 1
  have xz : ∀ j, W1.frozen? ⟨N, j, none⟩ = false := fun j => free_at HX1.out j
  have xl : N < W1.heap.size := HX1.out.lt
  obtain ⟨W4, hW4⟩ : ∃ W, W = (W1.setCell ⟨N, 0, none⟩ (.int .i64 0)).setCell ⟨N, 1, none⟩ (.slice none 0 0) := ⟨_, rfl⟩
  have hf4 : Fr [N] W1 W4 := by rw [hW4]; exact ((Fr.refl _ _).setCell _ (.inl (by simp)) _).setCell _ (.inl (by simp)) _
  have HB4 : Hid (Below w.heap.size w W4) := Lib.hid (HB1.out.trans (hf4.below HB1.out.size (by simp; have := HNN.out; omega)))
  have hx4 : Blk W4 N #[.int .i64 0, .slice none 0 0] 39 := by rw [hW4]; exact (HX1.out.set 0 _).set 1 _
  have r0 : W4.cell? ⟨N, 0, none⟩ = some (.int .i64 0) := cell_at hx4 0
  have r1 : W4.cell? ⟨N, 1, none⟩ = some (.slice none 0 0) := cell_at hx4 1
  clear hf4 hx4
  go_wp2_with fail
  rw [← hW4]
  clear hW4
  exact bodyPost_ret (v := .agg #[.int .i64 0, .slice none 0 0]) (by simp [results, Try.results14, go_sem, r0, r1]) rfl ⟨rfl, HB4.out⟩
set_option maxRecDepth 100000 in
set_option maxHeartbeats 16000000 in
theorem fcopy_any (M g fo ft n c1 c2 : Nat) (wt : Nat → Int) (al : Int) (s : FS) (w : World) (h : FrAt w M g fo ft n c1 c2 wt al s) (hi : Inv n s) (h0 : 0 < n) :
    Calls Try.prog 10 #[.pointer (some ⟨g, 0, none⟩)] w fun e w' => ∃ g' fo' ft' c1' c2', e = .returned (.pointer (some ⟨g', 0, none⟩)) ∧ FrAt w' w.heap.size g' fo' ft' n c1' c2' wt al s ∧ Below w.heap.size w w' := by
  have hn8 := hi.n8
  have HF1 := Lib.hid h
  have HI := Lib.hid hi
  have H0 : Hid (0 < n ∧ n ≤ 8) := Lib.hid ⟨h0, hn8⟩
  clear h hi h0 hn8
  go_enter Try.func10, Try.ntmps10
  go_upto_region 3 with fail
  refine wp_region_held_drew (S := fun X => X.cell? ⟨g, 0, none⟩ = some (.slice (some ⟨fo, 0, none⟩) n c1) ∧ X.cell? ⟨g, 1, none⟩ = some (.int .i64 al)) (by kernel_rfl) ⟨cell_at HF1.out.blk 0, cell_at HF1.out.blk 1⟩ (fun hHeld => ?_)
  try simp only [Act.put, List.setIfInBounds_toArray, List.set_cons_zero, List.set_cons_succ]
  have Bz := belowN (Below.refl w.heap.size w) 1
  have HF2 := Lib.hid (show FrAt w.drew M g fo ft n c1 c2 wt al s from HF1.out.step Bz)
  have HB2 : Hid (Below w.heap.size w w.drew) := Lib.hid Bz
  have CL := Lib.hid (flclone_any fo n c1 wt s.z s.sv w.drew HF2.out.fl H0.out.2 H0.out.1)
  clear Bz HF1
  ((refine wpAnyH_take (i := 0) (v := ?_) (by (simp only [List.getElem?_toArray, List.getElem?_cons_succ, List.getElem?_cons_zero]); rfl) (by kernel_rfl) (by kernel_rfl) (by kernel_rfl) (by exact fun _ _ _ h => h) (Or.inl ⟨by rfl, ?_⟩) (by assumption) ?_); rotate_left; focus (intro wS hSw; (try dsimp only at hSw); go_simp; first | done | with_reducible rfl); try simp only [Act.put, List.setIfInBounds_toArray, List.set_cons_zero, List.set_cons_succ])
  ((refine wpAnyH_take (i := 1) (v := ?_) (by (simp only [List.getElem?_toArray, List.getElem?_cons_succ, List.getElem?_cons_zero]); rfl) (by kernel_rfl) (by kernel_rfl) (by kernel_rfl) (by exact fun _ _ _ h => h) (Or.inl ⟨by rfl, ?_⟩) (by assumption) ?_); rotate_left; focus (intro wS hSw; (try dsimp only at hSw); go_simp; first | done | with_reducible rfl); try simp only [Act.put, List.setIfInBounds_toArray, List.set_cons_zero, List.set_cons_succ])
  ((refine wpAnyH_take (i := 2) (v := ?_) (by (simp only [List.getElem?_toArray, List.getElem?_cons_succ, List.getElem?_cons_zero]); rfl) (by kernel_rfl) (by kernel_rfl) (by kernel_rfl) (by exact fun _ _ _ h => h) (Or.inl ⟨by rfl, ?_⟩) (by assumption) ?_); rotate_left; focus (intro wS hSw; (try dsimp only at hSw); go_simp; first | done | with_reducible rfl); try simp only [Act.put, List.setIfInBounds_toArray, List.set_cons_zero, List.set_cons_succ])
  ((refine wpAnyH_take (i := 3) (v := ?_) (by (simp only [List.getElem?_toArray, List.getElem?_cons_succ, List.getElem?_cons_zero]); rfl) (by kernel_rfl) (by kernel_rfl) (by kernel_rfl) (by exact fun _ _ _ h => h) (Or.inl ⟨by rfl, ?_⟩) (by assumption) ?_); rotate_left; focus (intro wS hSw; (try dsimp only at hSw); go_simp; first | done | with_reducible rfl); try simp only [Act.put, List.setIfInBounds_toArray, List.set_cons_zero, List.set_cons_succ])
  ((refine wpAnyH_take (i := 5) (v := ?_) (by (simp only [List.getElem?_toArray, List.getElem?_cons_succ, List.getElem?_cons_zero]); rfl) (by kernel_rfl) (by kernel_rfl) (by kernel_rfl) (by exact fun _ _ _ h => h) (Or.inl ⟨by rfl, ?_⟩) (by assumption) ?_); rotate_left; focus (intro wS hSw; (try dsimp only at hSw); go_simp; first | done | with_reducible rfl); try simp only [Act.put, List.setIfInBounds_toArray, List.set_cons_zero, List.set_cons_succ])
  ((refine wpAnyH_take (i := 6) (v := ?_) (by (simp only [List.getElem?_toArray, List.getElem?_cons_succ, List.getElem?_cons_zero]); rfl) (by kernel_rfl) (by kernel_rfl) (by kernel_rfl) (by exact fun _ _ _ h => h) (Or.inl ⟨by rfl, ?_⟩) (by assumption) ?_); rotate_left; focus (intro wS hSw; (try dsimp only at hSw); go_simp; first | done | with_reducible rfl); try simp only [Act.put, List.setIfInBounds_toArray, List.set_cons_zero, List.set_cons_succ])
  ((refine wpAnyH_take (i := 7) (v := ?_) (by (simp only [List.getElem?_toArray, List.getElem?_cons_succ, List.getElem?_cons_zero]); rfl) (by kernel_rfl) (by kernel_rfl) (by kernel_rfl) (by exact fun _ _ _ h => h) (Or.inl ⟨by rfl, ?_⟩) (by assumption) ?_); rotate_left; focus (intro wS hSw; (try dsimp only at hSw); go_simp; first | done | with_reducible rfl); try simp only [Act.put, List.setIfInBounds_toArray, List.set_cons_zero, List.set_cons_succ])
  ((refine wpAnyH_take (i := 8) (v := ?_) (by (simp only [List.getElem?_toArray, List.getElem?_cons_succ, List.getElem?_cons_zero]); rfl) (by kernel_rfl) (by kernel_rfl) (by kernel_rfl) (by exact fun _ _ _ h => h) (Or.inl ⟨by rfl, ?_⟩) (by assumption) ?_); rotate_left; focus (intro wS hSw; (try dsimp only at hSw); go_simp; first | done | with_reducible rfl); try simp only [Act.put, List.setIfInBounds_toArray, List.set_cons_zero, List.set_cons_succ])
  ((refine wpAnyH_take (i := 9) (v := ?_) (by (simp only [List.getElem?_toArray, List.getElem?_cons_succ, List.getElem?_cons_zero]); rfl) (by kernel_rfl) (by kernel_rfl) (by kernel_rfl) (by exact fun _ _ _ h => h) (Or.inl ⟨by rfl, ?_⟩) (by assumption) ?_); rotate_left; focus (intro wS hSw; (try dsimp only at hSw); go_simp; first | done | with_reducible rfl); try simp only [Act.put, List.setIfInBounds_toArray, List.set_cons_zero, List.set_cons_succ])
  refine wpAnyH_ready (rs := [4]) (by kernel_rfl) (by simp) ?_
  refine AllReadyH.cons (by (simp only [List.getElem?_toArray, List.getElem?_cons_succ, List.getElem?_cons_zero]); rfl) (fun K hK => ?_) AllReadyH.nil
  go_simp
  go_fit (CL.out)
  rintro e W3 ⟨fo3, c3, rfl, hfl3, hc3, hg3, hB3⟩
  have HF3 := Lib.hid (HF2.out.step hB3)
  have HB3 := Lib.hid (HB2.out.trans (hB3.mono HB2.out.size))
  have HL3 := Lib.hid hfl3
  have HC3 := Lib.hid hc3
  have HG3 : Hid (w.heap.size ≤ fo3) := Lib.hid hg3
  have ST := Lib.hid (fstate_any M g fo ft n c1 c2 wt al s W3 HF3.out HI.out H0.out.1)
  clear hB3 hfl3 hc3 hg3 HF2 HB2 CL
  go_wp2_with fail
  refine hK.out _ _ ⟨cell_at HF3.out.blk 0, cell_at HF3.out.blk 1⟩ (fun hHeld => ?_)
  clear hK K
  try simp only [Act.put, List.setIfInBounds_toArray, List.set_cons_zero, List.set_cons_succ]
  refine wpAnyH_ready (rs := [10]) (by kernel_rfl) (by simp) ?_
  refine AllReadyH.cons (by (simp only [List.getElem?_toArray, List.getElem?_cons_succ, List.getElem?_cons_zero]); rfl) (fun K hK => ?_) AllReadyH.nil
  go_simp
  go_fit (ST.out)
  rintro e W4 ⟨ft4, c4, rfl, hr4, hg4, hB4⟩
  have HF4 := Lib.hid (HF3.out.step hB4)
  have HB4 := Lib.hid (HB3.out.trans (hB4.mono HB3.out.size))
  have HL4 := Lib.hid (HL3.out.fr (Fr.of_below hB4) (by simp))
  have HR4 := Lib.hid hr4
  have HG4 := Lib.hid (Nat.le_trans HB3.out.size hg4)
  clear hB4 hr4 hg4 HF3 HB3 HL3 ST
  go_wp2_with fail
  refine hK.out _ _ ⟨cell_at HF4.out.blk 0, cell_at HF4.out.blk 1⟩ (fun hHeld => ?_)
  clear hK K
  try simp only [Act.put, List.setIfInBounds_toArray, List.set_cons_zero, List.set_cons_succ]
  ((refine wpAnyH_take (i := 11) (v := ?_) (by (simp only [List.getElem?_toArray, List.getElem?_cons_succ, List.getElem?_cons_zero]); rfl) (by kernel_rfl) (by kernel_rfl) (by kernel_rfl) (by exact fun _ _ _ h => h) (Or.inl ⟨by rfl, ?_⟩) (by assumption) ?_); rotate_left; focus (intro wS hSw; (try dsimp only at hSw); go_simp; first | done | with_reducible rfl); try simp only [Act.put, List.setIfInBounds_toArray, List.set_cons_zero, List.set_cons_succ])
  refine wpAnyH_ready (rs := [12]) (by kernel_rfl) (by simp) ?_
  refine AllReadyH.cons (by (simp only [List.getElem?_toArray, List.getElem?_cons_succ, List.getElem?_cons_zero]); rfl) (fun K hK => ?_) AllReadyH.nil
  go_simp
  obtain ⟨N, hN⟩ : ∃ N, N = W4.heap.size := ⟨_, rfl⟩
  obtain ⟨W5, hW5⟩ : ∃ W, W = W4.alloc (.cells #[.slice (some ⟨fo3, 0, none⟩) n c3, .int .i64 al, .int .i64 s.V, .slice (some ⟨ft4, 0, none⟩) n c4] 60) := ⟨_, rfl⟩
  have hB5 : Below W4.heap.size W4 W5 := by rw [hW5]; exact alloc_b _ _
  have hx5 : Blk W5 N #[.slice (some ⟨fo3, 0, none⟩) n c3, .int .i64 al, .int .i64 s.V, .slice (some ⟨ft4, 0, none⟩) n c4] 60 := by rw [hW5, hN]; exact blk_new _ _ _
  have HF5 := Lib.hid (HF4.out.step hB5)
  have HB5 := Lib.hid (HB4.out.trans (hB5.mono HB4.out.size))
  have HNN : Hid (w.heap.size ≤ N) := Lib.hid (by rw [hN]; exact HB4.out.size)
  have HC5 := Lib.hid (show FrAt W5 w.heap.size N fo3 ft4 n c3 c4 wt al s from ⟨hx5, HL4.out.fr (Fr.of_below hB5) (by simp), HC3.out, HR4.out.congr fun q e => by obtain rfl := Option.some.inj e; exact hB5.block _ HR4.out.lt, HNN.out, HG3.out, HG4.out⟩)
  rw [← hN, ← hW5]
  clear hN hW5 hB5 hx5
  refine hK _ _ ⟨cell_at HF5.out.blk 0, cell_at HF5.out.blk 1⟩ (fun hHeld => ?_)
  clear hK K
  try simp only [Act.put, List.setIfInBounds_toArray, List.set_cons_zero, List.set_cons_succ]
  ((refine wpAnyH_take (i := 13) (v := ?_) (by (simp only [List.getElem?_toArray, List.getElem?_cons_succ, List.getElem?_cons_zero]); rfl) (by kernel_rfl) (by kernel_rfl) (by kernel_rfl) (by exact fun _ _ _ h => h) (Or.inl ⟨by rfl, ?_⟩) (by assumption) ?_); rotate_left; focus (intro wS hSw; (try dsimp only at hSw); go_simp; first | done | with_reducible rfl); try simp only [Act.put, List.setIfInBounds_toArray, List.set_cons_zero, List.set_cons_succ])
  refine wpAnyH_done (by kernel_rfl) ?_ _
  try simp only [Act.put, List.setIfInBounds_toArray, List.set_cons_zero, List.set_cons_succ]
  go_wp2_with fail
  go_ret
  exact ⟨_, _, _, _, _, rfl, HC5.out, HB5.out⟩
theorem fcopy_none (w : World) :
    Calls Try.prog 10 #[.pointer none] w fun e w' => e = .returned (.pointer none) ∧ Below w.heap.size w w' := by
  go_enter Try.func10, Try.ntmps10
  go_wp2_with fail
  go_ret
  exact ⟨rfl, Below.refl _ _⟩
end Go.Proofs.Ytnainlemnkfpkaa
