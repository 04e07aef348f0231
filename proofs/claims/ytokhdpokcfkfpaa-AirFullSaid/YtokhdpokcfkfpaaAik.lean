/-
  All of an air: what tells them.
-/
import Derived.Test.YtokhdpokcfkfpaaAij
namespace Go.Proofs.Ytokhdpokcfkfpaa
open Go.RowKit
set_option linter.unusedSimpArgs false
set_option linter.unusedVariables false

set_option maxRecDepth 100000 in
set_option maxHeartbeats 8000000 in
theorem airAll_any (g b : Nat) (ob : Option Nat) (v : Value) (L : List MsE) (M : Int × Int → Option Value) (w : World) (h : AirAt w g b ob v L M) (hn : L.length ≤ 1024) :
    Calls Try.prog 30 #[.pointer (some ⟨g, 0, none⟩)] w fun e w' => ∃ P ob' v', e = .returned (.func (.func 43) #[] #[.pointer (some ⟨P, 0, none⟩)]) ∧ Blk w' P #[v'] 28 ∧ Row w' v' ob' 39 14 L.length (msL L) ∧ Below w.heap.size w w' ∧ w.heap.size ≤ P ∧ (∀ x, ob' = some x → w.heap.size < x) := by
  obtain ⟨N, hN⟩ : ∃ N, N = w.heap.size := ⟨_, rfl⟩
  obtain ⟨W1, hW1⟩ : ∃ W1, W1 = w.alloc (.cells #[.slice none 0 0] 28) := ⟨_, rfl⟩
  have hB1 : Below w.heap.size w W1 := by rw [hW1]; exact (Below.refl _ _).alloc (Nat.le_refl _) _
  have hs1 : W1.heap.size = N + 1 := by rw [hW1, hN]; simp
  have HK1 : Hid (Blk W1 N #[.slice none 0 0] 28) := Lib.hid (by rw [hW1, hN]; exact blk_new _ _ _)
  have h1 := h.below hB1
  have c0 : W1.cell? ⟨g, 0, none⟩ = some v := cell_at h1.blk 0
  have EA := Lib.hid (eachM_any ob v L W1 h1.row hn)
  have HB1 := Lib.hid hB1
  have HN := Lib.hid hN
  have HS1 := Lib.hid hs1
  clear h h1 hB1 hn hs1
  go_enter Try.func30, Try.ntmps30
  go_upto_region 2 with fail
  rw [← hN]
  change Code.wp _ _ _ _ (w.alloc (.cells #[.slice none 0 0] 28))
  rw [← hW1]
  clear hN hW1
  go_wp2_with fail
  go_at_call 42
  refine Calls.mono EA.out ?_
  rintro e W2 ⟨ob2, v2, rfl, hR2, hB2, hO2⟩
  obtain ⟨a2, c2, rfl, r1, r2, r3⟩ := hR2.shape
  clear r1 r2 r3
  have hk2 : Blk W2 N #[.slice none 0 0] 28 := (hB2.block N HK1.out.lt).trans HK1.out
  have HK2 := Lib.hid hk2
  have HR2 := Lib.hid hR2
  have HB2 := Lib.hid (HB1.out.trans (hB2.mono HB1.out.size))
  have HO2 : Hid (∀ x, ob2 = some x → N < x) := Lib.hid (fun x hx => by have := hO2 x hx; have := HS1.out; omega)
  have z2 : W2.frozen? ⟨N, 0, none⟩ = false := free_at hk2 0
  have d2 : W2.cell? ⟨N, 0, none⟩ = some (.slice none 0 0) := cell_at hk2 0
  have l2 : N < W2.heap.size := hk2.lt
  clear hR2 hB2 hO2 hk2 EA HK1 HB1
  go_wp2_with fail
  obtain ⟨W3, hW3⟩ : ∃ W3, W3 = W2.setCell ⟨N, 0, none⟩ (.slice a2 L.length c2) := ⟨_, rfl⟩
  rw [← hW3]
  have hk3 : Blk W3 N #[(.slice a2 L.length c2)] 28 := by rw [hW3]; exact HK2.out.set 0 (.slice a2 L.length c2)
  have hf3 : Fr [N] W2 W3 := by rw [hW3]; exact (Fr.refl [N] W2).setCell ⟨N, 0, none⟩ (.inl (by simp)) _
  have HK3 := Lib.hid hk3
  have HF3 := Lib.hid hf3
  clear hW3 hk3 hf3 z2 d2 l2
  go_ret
  refine ⟨N, ob2, _, rfl, HK3.out, HR2.out.congr (fun x hx => HF3.out.block x (by have hr := HR2.out; subst hx; exact hr.lt) (by have := HO2.out x hx; simp; omega)), HB2.out.trans (HF3.out.below HB2.out.size (by have := HN.out; simp; omega)), Nat.le_of_eq HN.out.symm, fun x hx => by have := HO2.out x hx; have := HN.out; omega⟩
end Go.Proofs.Ytokhdpokcfkfpaa
