/-
  All flows gone over: the program.
-/
import Derived.Test.YtnainlemnkfpkaaFa5
namespace Go.Proofs.Ytnainlemnkfpkaa
open Go.RowKit
set_option linter.unusedSimpArgs false
set_option linter.unusedVariables false

structure EchP (M g fo ft n c1 : Nat) (wt : Nat → Int) (al : Int) (s' : FS) (bF bH bR : Nat) (a : Option Addr) (cap : Nat) (ob : Option Nat) (R : Nat → Bool) (k : Nat) (w w' : World) : Prop where
  ex : ∃ ft' c' vr' ob', EaAt w' M g fo ft' n c1 c' wt al s' bF bH bR a cap vr' ob' R k ∧ Fr (g :: fo :: ft :: bR :: ob.toList) w w' ∧ (ft' = ft ∨ w.heap.size ≤ ft') ∧ ∀ q, ob' = some q → ob = some q ∨ w.heap.size ≤ q
  b : BG M w w'
set_option maxRecDepth 100000 in
set_option maxHeartbeats 8000000 in
theorem each_ok (M g fo ft n c1 c2 : Nat) (wt : Nat → Int) (al : Int) (s : FS) (bF bH bR : Nat) (a : Option Addr) (cap hb ho : Nat) (E : Nat → HdE) (vr : Value) (ob : Option Nat) (w : World) (h : EaAt w M g fo ft n c1 c2 wt al s bF bH bR a cap vr ob (rdy (hsz E)) 0) (hE : ∀ W', BG M w W' → HdIn W' a n cap hb ho E) (hm : okHd (hsz E) n) (hi : Inv n s) (hw : WtOk n wt al) :
    Calls Try.prog 25 #[.pointer (some ⟨g, 0, none⟩), .func (.func 26) #[] #[.pointer (some ⟨bF, 0, none⟩), .pointer (some ⟨bH, 0, none⟩), .pointer (some ⟨bR, 0, none⟩)]] w fun e w' => e = .returned (.tuple #[]) ∧ EchP M g fo ft n c1 wt al (hearN wt al (hsz E) n s) bF bH bR a cap ob (rdy (hsz E)) n w w' := by
  have hn8 := hi.n8
  have HP := Lib.hid (fun k ft' c' vr' ob' W (hk : k < n) (hB : BG M w W) (hx : EaAt W M g fo ft' n c1 c' wt al (hearN wt al (hsz E) k s) bF bH bR a cap vr' ob' (rdy (hsz E)) k) => pick1_ok k M g fo ft' n c1 c' wt al (hearN wt al (hsz E) k s) bF bH bR a cap hb ho E vr' ob' W hx (fun W' hB' => hE W' (hB.trans hB')) hm (inv_hearN hw hm k hi (Nat.le_of_lt hk)) hw hk)
  have HH := Lib.hid h
  have HN8 := Lib.hid hn8
  have c0 : w.cell? ⟨g, 0, none⟩ = some (.slice (some ⟨fo, 0, none⟩) n c1) := cell_at h.fr.blk 0
  clear h hE hm hi hw hn8
  go_enter Try.func25, Try.ntmps25
  go_wp2_with fail
  clear c0
  go_loopw [4, 10] (fun _ i wr => ∃ (k ft' c' : Nat) (vr' : Value) (ob' : Option Nat), k ≤ n ∧ i = .int .i64 k ∧ EaAt wr M g fo ft' n c1 c' wt al (hearN wt al (hsz E) k s) bF bH bR a cap vr' ob' (rdy (hsz E)) k ∧ BG M w wr ∧ Fr (g :: fo :: ft :: bR :: ob.toList) w wr ∧ (ft' = ft ∨ w.heap.size ≤ ft') ∧ ∀ q, ob' = some q → ob = some q ∨ w.heap.size ≤ q) (fun _ i _ => n - (intOf i).toNat)
  case atStart => exact ⟨0, ft, c2, vr, ob, Nat.zero_le _, rfl, HH.out, BG.refl _ _, Fr.refl _ _, .inl rfl, fun q e => .inl e⟩
  case round =>
    clear HH
    obtain ⟨k, ft', c', vr', ob', hk, rfl, hx, hB, hf, hft, hob⟩ := hrel
    have HX := Lib.hid hx
    have HB := Lib.hid hB
    have HF := Lib.hid hf
    have HFT := Lib.hid hft
    have HOB := Lib.hid hob
    have c0 : wr.cell? ⟨g, 0, none⟩ = some (.slice (some ⟨fo, 0, none⟩) n c1) := cell_at hx.fr.blk 0
    clear hx hB hf hft hob
    by_cases hlt : k < n
    · have ww5 : IntKind.i64.wrap ((k : Int) + 1) = (k : Int) + 1 := IntWalk.i64_in _ (by have := HN8.out; omega)
      have b9 : ((k : Int) < (n : Int)) = True := eq_true (by omega)
      have bk1 : (k < n) = True := eq_true hlt
      have HLT := Lib.hid hlt
      clear hlt
      go_wp2_with fail
      go_at_call 26
      go_fit (HP.out k ft' c' vr' ob' _ HLT.out HB.out HX.out)
      rintro e W2 ⟨rfl, ⟨ft2, c3, vr2, ob2, hx2, hf2, ht2, ho2⟩, hB2⟩
      have HX2 := Lib.hid hx2
      have HB2 := Lib.hid (HB.out.trans hB2)
      have HF2 := Lib.hid (HF.out.trans hf2 (fun x hx => by
        simp only [List.mem_cons] at hx ⊢
        rcases hx with h | h | h | h | h
        · exact .inl (.inl h)
        · exact .inl (.inr (.inl h))
        · rcases HFT.out with e | e
          · exact .inl (.inr (.inr (.inl (h.trans e))))
          · exact .inr (by omega)
        · exact .inl (.inr (.inr (.inr (.inl h))))
        · have h' : ob' = some x := by simpa using h
          rcases HOB.out x h' with e | e
          · exact .inl (.inr (.inr (.inr (.inr (by rw [e]; simp)))))
          · exact .inr e))
      have HFT2 : Hid (ft2 = ft ∨ w.heap.size ≤ ft2) := Lib.hid (by
        rcases ht2 with e | e
        · rw [e]; exact HFT.out
        · exact .inr (Nat.le_trans HF.out.size e))
      have HOB2 : Hid (∀ q, some ob2 = some q → ob = some q ∨ w.heap.size ≤ q) := Lib.hid (fun q e => by
        obtain rfl := Option.some.inj e
        rcases ho2 with h | h
        · exact HOB.out _ h
        · exact .inr (Nat.le_trans HF.out.size h))
      clear hx2 hf2 ht2 ho2 hB2 c0
      go_wp2_with fail
      go_roundw
      case rel => exact ⟨k + 1, ft2, c3, vr2, some ob2, by have := HLT.out; omega, by go_num, HX2.out, HB2.out, HF2.out, HFT2.out, HOB2.out⟩
      case measure => (have h8 := HLT.out; first | (simp [intOf]; done) | (simp [intOf]; omega))
    · obtain rfl : k = n := by omega
      go_wp2_with fail
      go_end0
      exact ⟨rfl, ⟨_, _, _, _, HX.out, HF.out, HFT.out, HOB.out⟩, HB.out⟩
end Go.Proofs.Ytnainlemnkfpkaa
