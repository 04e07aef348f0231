/-
  Make of whatever name; two disks of a call's own, beside one another.
-/
import Derived.Test.YtgbbbjddooiaeaaRename
namespace Go.Proofs.Ytgbbbjddooiaeaa
open Go.RowKit

set_option maxHeartbeats 2000000 in
set_option maxRecDepth 100000 in
theorem make_any {w : World} {D : Nat} {l : List Nat} {d : PD} (h : Disk w D l d) (s : ByteArray) (hs : s.size ≤ maxLen) :
    Calls Try.prog 23 #[.pointer (some ⟨D, 0, none⟩), .string s] w fun r w' => r = .returned (.int .i64 (d.make s).2) ∧ To D l w (d.make s).1 w' := by
  by_cases hok : d.down = false ∧ nameB s = true ∧ d.find s = none ∧ d.files.length < 64
  · obtain ⟨h1, h2, h3, h4⟩ := hok
    have e : d.make s = ({ d with files := d.files ++ [⟨s, [], 0⟩] }, 0) := by simp [PD.make, h1, h2, h3]; omega
    rw [e]
    exact make_ok h s hs h1 h2 h3 h4
  · obtain ⟨p, fv, pv, h, rfl⟩ := h
    have HD := Lib.hid h
    have hlen := h.files.length
    obtain ⟨nb, hnb⟩ : ∃ nb, nb = nameB s := ⟨_, rfl⟩
    have hin : ∀ w1, Calls Try.prog 54 #[.string s] w1 fun r w' => r = .returned (.bool nb) ∧ w1 = w' := fun w1 => by rw [hnb]; exact isName_any s w1 hs
    obtain ⟨fb, hfb⟩ : ∃ fb, fb = (d.find s).isSome := ⟨_, rfl⟩
    have hfi : ∃ fp : Option Addr, (fp.isSome = fb) ∧ ∀ w1, Below w.heap.size w w1 → Calls Try.prog 49 #[.pointer (some ⟨D, 0, none⟩), .string s] w1 fun r w' => r = .returned (.pointer fp) ∧ w1 = w' := by
      cases hf : d.find s with
      | none => exact ⟨none, by rw [hfb, hf]; rfl, fun w1 hB => find_miss (h.below hB) s hf⟩
      | some k =>
        obtain ⟨hk, _⟩ := find_hit h s k hf
        exact ⟨some ⟨p.files[k].1, 0, none⟩, by rw [hfb, hf]; rfl, fun w1 hB => (find_hit (h.below hB) s k hf).2⟩
    obtain ⟨fp, hfp, hfi⟩ := hfi
    obtain ⟨n, hn⟩ : ∃ n, n = p.files.length := ⟨_, rfl⟩
    have hro : ∀ w1, Below w.heap.size w w1 → Calls Try.prog 55 #[.pointer (some ⟨D, 0, none⟩)] w1 fun r w' => r = .returned fv ∧ w1 = w' := fun w1 hB => row_some _ _ _ (h.below hB).cells.1
    obtain ⟨a, cap, rfl, _, _, _⟩ := h.row.shape
    rw [← hn] at hro
    have hla := lost_d h
    have hn64 : n ≤ 64 := by have := h.few; omega
    obtain ⟨c, hc⟩ : ∃ c, c = fst0 [d.word, whenE (!nb) 2, whenE fb 101, whenE (decide ((64 : Int) ≤ (n : Int))) 100] := ⟨_, rfl⟩
    have hcm : d.make s = (d, c) ∧ (c == 0) = false := by
      rw [hc, hnb, hfb]
      have hN : decide ((64 : Int) ≤ (n : Int)) = decide (64 ≤ d.files.length) := by
        rw [hn, hlen]; simp; omega
      rw [hN]
      unfold PD.make PD.word
      cases hd : d.down with
      | true => simp [fst0]
      | false =>
        cases hb : nameB s with
        | false => simp [fst0, whenE]
        | true =>
          cases hf : d.find s with
          | some k => simp [fst0, whenE]
          | none =>
            have : 64 ≤ d.files.length := by
              rcases Nat.lt_or_ge d.files.length 64 with h6 | h6
              · exact absurd ⟨hd, hb, hf, h6⟩ hok
              · exact h6
            simp [fst0, whenE, this]
    rw [hcm.1]
    have hne := hcm.2
    have HC : Hid (fst0 [d.word, whenE (!nb) 2, whenE fb 101, whenE (decide ((64 : Int) ≤ (n : Int))) 100] = c) := hc.symm
    obtain ⟨x, hx⟩ : ∃ x, x = d.word := ⟨_, rfl⟩
    rw [← hx] at hla HC
    clear hcm hc hok hnb hfb hn hlen h hx
    cases fp with
    | none =>
      obtain rfl : fb = false := hfp.symm
      clear hfp
      go_enter Try.func23, Try.ntmps23
      go_wp2_with (first
        | (go_at_call 46; refine hla.mono ?_; rintro e w1 ⟨rfl, hB⟩; clear hla)
        | (go_at_call 54; refine Calls.mono (hin _) ?_; clear hin; rintro e w1 ⟨rfl, rfl⟩)
        | (go_at_call 49; refine Calls.mono (hfi _ hB) ?_; clear hfi; rintro e w1 ⟨rfl, rfl⟩)
        | (go_at_call 55; refine Calls.mono (hro _ hB) ?_; clear hro; rintro e w1 ⟨rfl, rfl⟩)
        | (go_at_call 53; refine (when_any _ _ _).mono ?_; rintro e w1 ⟨rfl, rfl⟩)
        | (go_at_call 47; (with_reducible refine (first_four _ _ _ _ c _ HC.out).mono ?_); rintro e w' ⟨rfl, rfl⟩))
      go_ret
      exact ⟨rfl, To.same ⟨p, _, pv, HD.out, rfl⟩ (hB.alloc hB.size _)⟩
    | some ad =>
      obtain rfl : fb = true := hfp.symm
      clear hfp
      go_enter Try.func23, Try.ntmps23
      go_wp2_with (first
        | (go_at_call 46; refine hla.mono ?_; rintro e w1 ⟨rfl, hB⟩; clear hla)
        | (go_at_call 54; refine Calls.mono (hin _) ?_; clear hin; rintro e w1 ⟨rfl, rfl⟩)
        | (go_at_call 49; refine Calls.mono (hfi _ hB) ?_; clear hfi; rintro e w1 ⟨rfl, rfl⟩)
        | (go_at_call 55; refine Calls.mono (hro _ hB) ?_; clear hro; rintro e w1 ⟨rfl, rfl⟩)
        | (go_at_call 53; refine (when_any _ _ _).mono ?_; rintro e w1 ⟨rfl, rfl⟩)
        | (go_at_call 47; (with_reducible refine (first_four _ _ _ _ c _ HC.out).mono ?_); rintro e w' ⟨rfl, rfl⟩))
      go_ret
      exact ⟨rfl, To.same ⟨p, _, pv, HD.out, rfl⟩ (hB.alloc hB.size _)⟩

/-- Two disks of a call's own, that began in the world w0. -/
structure Two (w0 w : World) (D1 : Nat) (l1 : List Nat) (d1 : PD) (D2 : Nat) (l2 : List Nat) (d2 : PD) : Prop where
  one : Disk w D1 l1 d1
  two : Disk w D2 l2 d2
  apart : ∀ x ∈ l1, x ∉ l2
  new1 : ∀ x ∈ l1, w0.heap.size ≤ x
  new2 : ∀ x ∈ l2, w0.heap.size ≤ x
  below : Below w0.heap.size w0 w

theorem Two.swap {w0 w : World} {D1 D2 : Nat} {l1 l2 : List Nat} {d1 d2 : PD} (h : Two w0 w D1 l1 d1 D2 l2 d2) : Two w0 w D2 l2 d2 D1 l1 d1 :=
  ⟨h.two, h.one, fun x h2 h1 => h.apart x h1 h2, h.new2, h.new1, h.below⟩
theorem Two.quiet {w0 w w' : World} {D1 D2 : Nat} {l1 l2 : List Nat} {d1 d2 : PD} (h : Two w0 w D1 l1 d1 D2 l2 d2) (hB : Below w.heap.size w w') : Two w0 w' D1 l1 d1 D2 l2 d2 :=
  ⟨h.one.below hB, h.two.below hB, h.apart, h.new1, h.new2, h.below.trans (hB.mono h.below.size)⟩
theorem Two.left {w0 w w' : World} {D1 D2 : Nat} {l1 l2 : List Nat} {d1 d2 d' : PD} (h : Two w0 w D1 l1 d1 D2 l2 d2) (hT : To D1 l1 w d' w') : ∃ l', Two w0 w' D1 l' d' D2 l2 d2 := by
  obtain ⟨l', h1, h2, h3⟩ := hT
  refine ⟨l', h1, h.two.fr h2 fun x hx hx1 => h.apart x hx1 hx, fun x hx hx2 => ?_, fun x hx => ?_, h.new2, h.below.trans (h2.below h.below.size h.new1)⟩
  · rcases h3 x hx with e | e
    · exact h.apart x e hx2
    · have := h.two.lt x hx2; omega
  · rcases h3 x hx with e | e
    · exact h.new1 x e
    · have := h.below.size; omega

end Go.Proofs.Ytgbbbjddooiaeaa
