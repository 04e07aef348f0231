/-
  Tenants deleted by a closure: what goes on in memory.
-/
import Derived.Test.YtpgpcgpecpimlaaPoc
import Derived.Test.YtpgpcgpecpimlaaPo2
import Derived.Deep.RegionLaw
namespace Go.Proofs.Ytpgpcgpecpimlaa
open Go.RowKit
set_option linter.unusedSimpArgs false
set_option linter.unusedVariables false

def EntK (k : FuncId) : Prop := ∀ (args : Array Value) (w : World), (callFunc k args).run Try.prog w = .ok (.enter k args) w
/-- a closure of tenants, what it answers -/
def ClT (k : FuncId) (cs : Array Value) (d : TnE → Bool) (L : List TnE) (w : World) : Prop := ∀ (x : TnE) (W : World), x ∈ L → Below w.heap.size w W → Calls Try.prog k (#[.agg #[.int .i64 x.id, .int .i64 x.rate, .int .i64 x.burst, .int .i64 x.bkt, .bool x.gone]] ++ cs) W fun e w' => e = .returned (.bool (d x)) ∧ Below W.heap.size W w'
set_option maxRecDepth 100000 in
set_option maxHeartbeats 4000000 in
theorem indexF_any (kf : FuncId) (cs : Array Value) (d : TnE → Bool) (v : Value) (L : List TnE) (w0 w : World) (h : TV w v L) (hk : EntK kf) (CS : ClT kf cs d L w0) (h0 : Below w0.heap.size w0 w) :
    Calls Try.prog 106 #[v, .func (.func kf) #[] cs] w fun e w' => (∃ i : Nat, i ≤ L.length ∧ (∀ j, j < i → d (gt L j) = false) ∧ ((i < L.length ∧ d (gt L i) = true ∧ e = .returned (.int .i64 (i : Nat))) ∨ (i = L.length ∧ e = .returned (.int .i64 (-1))))) ∧ Below w.heap.size w w' := by
  obtain ⟨a, b, o, cap, rfl, h⟩ := h
  have m1 := h.le
  have m2 := h.max
  unfold maxLen at m2
  have H1 := Lib.hid h
  have H0 := Lib.hid h0
  have HCS := Lib.hid CS
  obtain ⟨n, hn⟩ : ∃ n, n = L.length := ⟨_, rfl⟩
  rw [← hn] at m1 H1 ⊢
  have HN := Lib.hid hn
  clear h hn CS h0
  unfold EntK at hk
  go_enter Try.func106, Try.ntmps106
  go_wp2_with fail
  go_loopw [8] (fun i wr => ∃ k : Nat, k ≤ n ∧ i = .int .i64 k ∧ (∀ j, j < k → d (gt L j) = false) ∧ Below w.heap.size w wr) (fun i _ => n - (intOf i).toNat)
  case atStart => exact ⟨0, Nat.zero_le _, rfl, (fun j hj => by omega), Below.refl _ _⟩
  case round =>
    obtain ⟨k, hk8, rfl, hf, hB⟩ := hrel
    have HB := Lib.hid hB
    have HF := Lib.hid hf
    clear hf hB
    by_cases hlt : k < n
    · have hs1 := H1.out.below HB.out
      obtain ⟨e0, e1⟩ := hs1.at_ (by omega)
      subst e0
      obtain ⟨c0, c1, c2, c3, c4⟩ := hs1.cell k hlt
      obtain ⟨x, hx⟩ : ∃ x, x = gt L k := ⟨_, rfl⟩
      rw [← hx] at c0 c1 c2 c3 c4
      have HX := Lib.hid hx
      have HC := Lib.hid (HCS.out x wr (by rw [hx]; exact List.mem_of_getElem? (gt_lt (by rw [← HN.out]; exact hlt))) (H0.out.trans (HB.out.mono H0.out.size)))
      obtain ⟨D, hD⟩ : ∃ D, D = d x := ⟨_, rfl⟩
      rw [← hD] at HC
      have HD := Lib.hid hD
      clear hs1 hx hD
      cases D
      · go_wp2_with (refine Calls.mono HC.out ?_; rintro e W3 ⟨rfl, hB3⟩; have HB3 := Lib.hid (HB.out.trans (hB3.mono HB.out.size)); clear hB3)
        go_roundw
        case rel => exact ⟨k + 1, by omega, by go_num, (fun j hj => by
          rcases Nat.lt_or_ge j k with h | h
          · exact HF.out j h
          · obtain rfl : j = k := by omega
            rw [← HX.out]; exact HD.out.symm), HB3.out⟩
        case measure => first | (simp [intOf]; done) | (simp [intOf]; omega)
      · go_wp2_with (refine Calls.mono HC.out ?_; rintro e W3 ⟨rfl, hB3⟩; have HB3 := Lib.hid (HB.out.trans (hB3.mono HB.out.size)); clear hB3)
        go_ret
        exact ⟨⟨k, by omega, HF.out, .inl ⟨hlt, by rw [← HX.out]; exact HD.out.symm, rfl⟩⟩, HB3.out⟩
    · obtain rfl : k = n := by omega
      go_wp2_with fail
      go_ret
      exact ⟨⟨k, Nat.le_refl _, HF.out, .inr ⟨rfl, rfl⟩⟩, HB.out⟩
theorem listL_at {L : List TnE} {k j : Nat} {x : TnE} (h : L[k]? = some x) (hj : j < 5) : (listL L)[k * 5 + j]? = x.cells[j]? := by
  have hk : k < L.length := (List.getElem?_eq_some_iff.1 h).1
  rw [tnL_gt, tnL_at (gt L) L.length k j hk hj, gt_of h]
/-- one of an own row is set -/
theorem row_set {W : World} {v : Value} {g n i : Nat} {M : List TnE} {x : TnE} (h : Row W v (some g) 72 5 n (listL M)) (hM : M.length = n) (hi : i < n) : Row (W.setCells g (i * 5) x.cells) v (some g) 72 5 n (listL (M.set i x)) := by
  have hl := h.len
  rcases h.cases with ⟨e, _⟩ | ⟨g', cap, cur, e, rfl, h3, h4, h5, h6, h7⟩
  · cases e
  · obtain rfl := Option.some.inj e
    have hx5 : x.cells.length = 5 := rfl
    have hsz : i * 5 + x.cells.length ≤ cur.size := by rw [h6, hx5]; omega
    obtain ⟨cs', k1, k2, k3, k4, k5⟩ := stC_pt x.cells (i * 5) h3 hsz
    refine Row.mk k1 h4 h5 (by rw [k2, h6]) ?_
    apply List.ext_getElem?
    intro q
    rw [List.getElem?_take]
    by_cases hq : q < n * 5
    · rw [if_pos hq, Array.getElem?_toList]
      obtain ⟨k, r, hk, hr, rfl⟩ : ∃ k r, k < n ∧ r < 5 ∧ q = k * 5 + r := ⟨q / 5, q % 5, by omega, by omega, by omega⟩
      have hMk : M[k]? = some (gt M k) := gt_lt (by omega)
      by_cases hki : k = i
      · subst hki
        rw [k4 r (by omega), listL_at (x := x) (by rw [List.getElem?_set_self (by omega)]) hr]
      · have h8 : cur[k * 5 + r]? = (gt M k).cells[r]? := by
          have := listL_at hMk hr
          rw [← h7, List.getElem?_take, if_pos hq, Array.getElem?_toList] at this
          exact this
        have h9 : cs'[k * 5 + r]? = cur[k * 5 + r]? := by
          rcases Nat.lt_or_ge k i with h | h
          · exact k3 _ (by omega)
          · exact k5 _ (by omega)
        rw [h9, h8, listL_at (x := gt M k) (by rw [List.getElem?_set_ne (by omega)]; exact hMk) hr]
    · rw [if_neg hq, List.getElem?_eq_none (by rw [listL_len, List.length_set]; omega)]
/-- a row cut short, what is behind it cleared -/
theorem row_cut {W : World} {g cap n i : Nat} {M : List TnE} {Z : List Value} (h : Row W (.slice (some ⟨g, 0, none⟩) n cap) (some g) 72 5 n (listL M)) (hM : M.length = n) (hi : i ≤ n) (hZ : i * 5 + Z.length ≤ cap * 5) : Row (W.setCells g (i * 5) Z) (.slice (some ⟨g, 0, none⟩) i cap) (some g) 72 5 i (listL (M.take i)) := by
  rcases h.cases with ⟨e, _⟩ | ⟨g', cap', cur, e, e2, h3, h4, h5, h6, h7⟩
  · cases e
  · obtain rfl := Option.some.inj e
    injection e2 with _ _ e3
    subst e3
    obtain ⟨cs', k1, k2, k3, k4, k5⟩ := stC_pt Z (i * 5) h3 (by rw [h6]; exact hZ)
    refine Row.mk k1 (by omega) h5 (by rw [k2, h6]) ?_
    apply List.ext_getElem?
    intro q
    rw [List.getElem?_take]
    have e5 : listL M = listL (M.take i) ++ listL (M.drop i) := by rw [← listL_append, List.take_append_drop]
    by_cases hq : q < i * 5
    · rw [if_pos hq, Array.getElem?_toList, k3 q hq]
      have : (listL M)[q]? = cur[q]? := by rw [← h7, List.getElem?_take, if_pos (by omega), Array.getElem?_toList]
      rw [← this, e5, List.getElem?_append_left (by rw [listL_len, List.length_take]; omega)]
    · rw [if_neg hq, List.getElem?_eq_none (by rw [listL_len, List.length_take]; omega)]
def zerosT (n : Nat) : List Value := (Builtin.zeroCells z0.agg.cells n).toList
theorem zerosT_len (n : Nat) : (zerosT n).length = n * 5 := by
  unfold zerosT
  rw [Array.length_toList, size_zeroCells]
  rfl
theorem zerosT_one (n : Nat) : ∀ v ∈ zerosT n, v.oneCell' = true := by
  intro v hv
  unfold zerosT Builtin.zeroCells at hv
  rw [Array.toList_map, List.mem_map] at hv
  obtain ⟨i, _, rfl⟩ := hv
  have hs : z0.agg.cells.size = 5 := rfl
  rw [hs]
  have hi : i % 5 < 5 := Nat.mod_lt _ (by omega)
  generalize i % 5 = r at hi
  obtain rfl | rfl | rfl | rfl | rfl : r = 0 ∨ r = 1 ∨ r = 2 ∨ r = 3 ∨ r = 4 := by omega
  all_goals rfl
theorem zeroTn (w : World) : (zeroValue 72).run Try.prog w = .ok z0.agg w := by kernel_rfl
theorem run_clear_tn {w : World} {r o c m : Nat} {cur : Array Value} (h : w.heap[r]? = some (.cells cur 72 (0, 0))) (ho : o + m * 5 ≤ cur.size) (hm : 0 < m) (ty : TypeId) :
    (Builtin.clear_ #[60] ty #[.slice (some ⟨r, o, none⟩) m c]).run Try.prog w = .ok (.tuple #[]) (w.setCells r o (zerosT m)) := by
  have hzl := zerosT_len m
  obtain ⟨m, rfl⟩ : ∃ q, m = q + 1 := ⟨m - 1, by omega⟩
  have hst := Go.run_storeCells_cells (P := Try.prog) r o (zerosT (m + 1)) 0 w (fun j hj => by
    simp only [Nat.add_zero]
    rw [cell_at h, Array.getElem?_eq_getElem (by omega)]
    rfl) (fun j _ => by simp only [Nat.add_zero]; exact free_at h _) (zerosT_one _)
  have hz := zeroTn
  simp only [Nat.add_zero] at hst
  unfold zerosT at hst
  simp [Builtin.clear_, run_underlying Try.underlying60, hz, hst, zerosT]
end Go.Proofs.Ytpgpcgpecpimlaa
