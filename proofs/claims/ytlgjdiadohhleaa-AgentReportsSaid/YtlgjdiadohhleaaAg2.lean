/-
  What is kept of an agent's leases: keep, drop, at.
-/
import Derived.Test.YtlgjdiadohhleaaAg1
import Derived.Lib.SliceRun
import Derived.StillTailTactics
namespace Go.Proofs.Ytlgjdiadohhleaa
open Go.RowKit
set_option linter.unusedSimpArgs false
set_option linter.unusedVariables false

theorem zeroLz (w : World) : (zeroValue 111).run Try.prog w = .ok (.agg #[.int .i64 0, .int .i64 0, .int .i64 0, .int .i64 0, .int .i64 0, .int .i64 0]) w := by kernel_rfl
def zeros6 : List Value := [.int .i64 0, .int .i64 0, .int .i64 0, .int .i64 0, .int .i64 0, .int .i64 0]
theorem setCells_fr (b : Nat) : ∀ (l : List Value) (o : Nat) (w : World), Fr [b] w (w.setCells b o l)
  | [], _, w => Fr.refl _ _
  | v :: r, o, w => ((Fr.refl [b] w).setCell ⟨b, o, none⟩ (.inl (by simp)) v).trans (setCells_fr b r (o + 1) _) (fun x hx => .inl hx)
theorem run_clear_lz {w : World} {b c : Nat} {x : Lz} (h : OneL w b c x) (ty : TypeId) :
    (Builtin.clear_ #[105] ty #[.slice (some ⟨b, 0, none⟩) 1 c]).run Try.prog w = .ok (.tuple #[]) (w.setCells b 0 zeros6) := by
  have hst := Go.run_storeCells_cells (P := Try.prog) b 0 zeros6 0 w (fun j hj => by
    have hj6 : j < 6 := hj
    simp only [Nat.zero_add]
    rw [h.cell j hj6]
    match j, hj6 with
    | 0, _ => rfl
    | 1, _ => rfl
    | 2, _ => rfl
    | 3, _ => rfl
    | 4, _ => rfl
    | 5, _ => rfl) (fun j _ => by simp only [Nat.zero_add]; exact h.free j) (fun v hv => by
    simp only [zeros6, List.mem_cons, List.not_mem_nil, or_false] at hv
    rcases hv with rfl | rfl | rfl | rfl | rfl | rfl <;> rfl)
  have hz : ∀ w, (zeroValue 111).run Try.prog w = .ok (.agg #[.int .i64 0, .int .i64 0, .int .i64 0, .int .i64 0, .int .i64 0, .int .i64 0]) w := zeroLz
  have hzc : (Builtin.zeroCells (Value.agg #[.int .i64 0, .int .i64 0, .int .i64 0, .int .i64 0, .int .i64 0, .int .i64 0]).cells 1).toList = zeros6 := by kernel_rfl
  simp only [Nat.add_zero] at hst
  simp [Builtin.clear_, run_underlying Try.underlying105, hz, hzc, hst]

set_option maxRecDepth 100000 in
set_option maxHeartbeats 4000000 in
theorem deleteF_any (k : FuncId) (cs : Array Value) (d : Lz → Bool) (q g : Nat) (H : Hd) (w : World) (hH : H.at_ w g) (hq : Blk w q #[.func (.func k) #[] cs] 112) (hk : EntK k) (CS : StayC k cs d w) :
    Calls Try.prog 93 #[H.val, .func (.func 94) #[] #[.pointer (some ⟨q, 0, none⟩)]] w fun e w' => e = .returned (H.keep d).val ∧ (H.keep d).at_ w' g ∧ Fr H.bl w w' := by
  have IX := Lib.hid (indexF_any k cs d q g H w hH hq hk CS)
  cases H with
  | gone a c =>
    have hm : c ≤ maxLen := hH
    have HM := Lib.hid hm
    unfold maxLen at hm
    simp only [Hd.val, Hd.find, Hd.keep, Hd.bl] at IX ⊢
    clear hH hq hk CS
    go_enter Try.func93, Try.ntmps93
    go_wp2_with (go_at_call 89; refine Calls.mono IX.out ?_; rintro e w' ⟨rfl, hB⟩)
    go_ret
    exact ⟨rfl, HM.out, Fr.of_below hB⟩
  | one b c x =>
    obtain ⟨h1, h2⟩ := hH
    have hm := h1.max
    have hp := h1.pos
    have HM := Lib.hid hm
    have H1 := Lib.hid h1
    have H2 := Lib.hid h2
    unfold maxLen at hm
    cases hD : d x with
    | true =>
      simp only [Hd.val, Hd.find, Hd.keep, Hd.bl, hD, if_true] at IX ⊢
      clear h1 h2 hq hk CS hD
      go_enter Try.func93, Try.ntmps93
      go_wp2_with (go_at_call 89; refine Calls.mono IX.out ?_; rintro e w' ⟨rfl, hB⟩)
      go_ret
      exact ⟨rfl, ⟨H1.out.congr (hB.block b H1.out.lt), H2.out⟩, (Fr.of_below hB).mono (by simp)⟩
    | false =>
      simp only [Hd.val, Hd.find, Hd.keep, Hd.bl, hD, if_false, Bool.false_eq_true] at IX ⊢
      clear h1 h2 hq hk CS hD
      go_enter Try.func93, Try.ntmps93
      go_wp2_with fail
      go_at_call 89
      refine Calls.mono IX.out ?_
      rintro e W1 ⟨rfl, hB⟩
      have hcl := run_clear_lz (H1.out.congr (hB.block b H1.out.lt))
      have HB := Lib.hid hB
      clear hB IX
      go_wp2_with fail
      refine wp_loop_rounds 1 ?_
      rw [rounds_succ]
      go_wp2_with fail
      go_ret
      exact ⟨rfl, HM.out, ((Fr.of_below HB.out).mono (by simp)).trans (setCells_fr b _ 0 _) (fun y hy => .inl hy)⟩
end Go.Proofs.Ytlgjdiadohhleaa
