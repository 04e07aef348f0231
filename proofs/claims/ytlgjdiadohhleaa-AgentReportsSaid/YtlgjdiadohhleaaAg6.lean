/-
  An agent asks.
-/
import Derived.Test.YtlgjdiadohhleaaAg5
namespace Go.Proofs.Ytlgjdiadohhleaa
open Go.RowKit
set_option linter.unusedSimpArgs false
set_option linter.unusedVariables false

theorem Hd.at_.lt {H : Hd} {W : World} {g : Nat} (h : H.at_ W g) : ∀ x ∈ H.bl, x < W.heap.size ∧ x ≠ g := by
  intro x hx
  cases H with
  | gone a c => simp [Hd.bl] at hx
  | one b c y => simp [Hd.bl] at hx; subst hx; exact ⟨h.1.lt, h.2⟩
theorem AgAt.upd {w W : World} {g : Nat} {s s' : Ag} {H : Hd} (h : AgAt w g s H) (hf : Fr [g] w W) (hb : Blk W g (s'.cells H.val) 107) : AgAt W g s' H :=
  ⟨hb, h.held.congr fun b hb => hf.block b (h.held.lt b hb).1 (by simp; exact (h.held.lt b hb).2)⟩
theorem AgAt.fr {w W : World} {g : Nat} {s : Ag} {H : Hd} {l : List Nat} (h : AgAt w g s H) (hf : Fr l w W) (hg : g ∉ l) (hb : ∀ x ∈ H.bl, x ∉ l) : AgAt W g s H :=
  ⟨(hf.block g h.blk.lt hg).trans h.blk, h.held.congr fun b hm => hf.block b (h.held.lt b hm).1 (hb b hm)⟩

/-- an ask of these parts -/
def Ag.ask (s : Ag) (te sz t : Int) : Ag := { s.tick t with nu := s.nu + 1, un := true, ae := s.ep, an := s.nu + 1, at_ := te, sz := sz, st := max s.now t }

set_option maxRecDepth 100000 in
set_option maxHeartbeats 8000000 in
theorem ask_ok (g : Nat) (s : Ag) (H : Hd) (te sz t : Int) (w : World) (h : AgAt w g s H) (hu : s.un = false) (t1 : 1 ≤ te ∧ te ≤ 16) (z1 : 1 ≤ sz ∧ sz ≤ 1000000) (n1 : 0 ≤ t ∧ t ≤ 1125899906842624) (nu1 : 0 ≤ s.nu ∧ s.nu ≤ 1000) :
    Calls Try.prog 14 #[.pointer (some ⟨g, 0, none⟩), .int .i64 te, .int .i64 sz, .int .i64 t] w fun e w' => e = .returned (.tuple #[.agg (cmdL 4 (s.nu + 1) te s.sh s.ep 0 sz 0 false), .int .i64 0]) ∧ AgAt w' g (s.ask te sz t) (H.tick s t) ∧ Fr (g :: H.bl) w w' := by
  obtain ⟨N, hN⟩ : ∃ N, N = w.heap.size := ⟨_, rfl⟩
  obtain ⟨W0, hW0⟩ : ∃ W0, W0 = w.alloc (.cells #[.int .i8 0, .int .i64 0, .int .i64 0, .int .i64 0, .int .i64 0, .int .i64 0, .int .i64 0, .int .i64 0, .int .i64 0, .int .i64 0, .int .i64 0, .bool false, .slice none 0 0] 31) := ⟨_, rfl⟩
  have hB0 : Below w.heap.size w W0 := by rw [hW0]; exact (Below.refl _ _).alloc (Nat.le_refl _) _
  have b0 : Blk W0 N #[.int .i8 0, .int .i64 0, .int .i64 0, .int .i64 0, .int .i64 0, .int .i64 0, .int .i64 0, .int .i64 0, .int .i64 0, .int .i64 0, .int .i64 0, .bool false, .slice none 0 0] 31 := by rw [hW0, hN]; exact blk_new _ _ _
  have hnb : N ∉ g :: H.bl := by
    intro hm
    rw [hN] at hm
    simp only [List.mem_cons] at hm
    rcases hm with e | e
    · have := h.blk.lt; omega
    · have := (h.held.lt _ e).1; omega
  have AT := Lib.hid (at_any g s H t W0 (h.below hB0))
  have HBL := Lib.hid (keep_bl H fun x => decide (max s.now t < x.un))
  change Hid (∀ x ∈ (H.tick s t).bl, x ∈ H.bl) at HBL
  obtain ⟨H2, hH2⟩ : ∃ H2, H2 = H.tick s t := ⟨_, rfl⟩
  rw [← hH2] at AT HBL ⊢
  obtain ⟨M, hM⟩ : ∃ M, M = max s.now t := ⟨_, rfl⟩
  have HM := Lib.hid hM
  have HF0 : Hid (Fr (g :: H.bl) w W0) := Lib.hid ((Fr.of_below hB0).mono (by simp))
  have HN := Lib.hid hN
  have HNB := Lib.hid hnb
  have HK0 := Lib.hid b0
  have HGN : g ≠ N := fun e => hnb (by rw [e]; simp)
  have e1 : IntKind.i64.wrap (s.nu + 1) = s.nu + 1 := IntWalk.i64_in _ (by omega)
  obtain ⟨t2, t3⟩ := t1
  obtain ⟨z2, z3⟩ := z1
  obtain ⟨n2, n3⟩ := n1
  clear h hB0 b0 hnb hH2 hM nu1
  go_enter Try.func14, Try.ntmps14
  go_upto_region 3 with fail
  rw [← hN, ← hW0]
  clear hN hW0
  go_wp2_with fail
  go_at_call 49
  refine Calls.mono AT.out ?_
  rintro e W1 ⟨rfl, h1, hf1⟩
  have HA1 := Lib.hid h1
  have HF1 := Lib.hid (HF0.out.trans hf1 (fun x hx => .inl hx))
  have HK1 : Hid (Blk W1 N #[.int .i8 0, .int .i64 0, .int .i64 0, .int .i64 0, .int .i64 0, .int .i64 0, .int .i64 0, .int .i64 0, .int .i64 0, .int .i64 0, .int .i64 0, .bool false, .slice none 0 0] 31) := Lib.hid ((hf1.block N HK0.out.lt HNB.out).trans HK0.out)
  have c0 : W1.cell? ⟨g, 0, none⟩ = some (.int .i64 s.sh) := cell_at h1.blk 0
  have c1 : W1.cell? ⟨g, 1, none⟩ = some (.int .i64 s.ep) := cell_at h1.blk 1
  have c3 : W1.cell? ⟨g, 3, none⟩ = some (.int .i64 M) := by rw [HM.out]; exact cell_at h1.blk 3
  have c4 : W1.cell? ⟨g, 4, none⟩ = some (.int .i64 s.nu) := cell_at h1.blk 4
  have c5 : W1.cell? ⟨g, 5, none⟩ = some (.bool false) := by rw [← hu]; exact cell_at h1.blk 5
  have c6 : W1.cell? ⟨g, 6, none⟩ = some (.int .i64 s.ae) := cell_at h1.blk 6
  have c7 : W1.cell? ⟨g, 7, none⟩ = some (.int .i64 s.an) := cell_at h1.blk 7
  have c8 : W1.cell? ⟨g, 8, none⟩ = some (.int .i64 s.at_) := cell_at h1.blk 8
  have c9 : W1.cell? ⟨g, 9, none⟩ = some (.int .i64 s.sz) := cell_at h1.blk 9
  have c10 : W1.cell? ⟨g, 10, none⟩ = some (.int .i64 s.st) := cell_at h1.blk 10
  have zg : ∀ j, W1.frozen? ⟨g, j, none⟩ = false := fun j => free_at h1.blk j
  have hl1 : g < W1.heap.size := h1.blk.lt
  clear h1 hf1 AT HF0 HK0
  go_upto_region 9 with fail
  go_region
  all_goals
    obtain ⟨WS, hWS⟩ : ∃ WS, WS = (((((((W1.setCell ⟨g, 4, none⟩ (.int .i64 (s.nu + 1))).setCell ⟨g, 5, none⟩ (.bool true)).setCell ⟨g, 6, none⟩ (.int .i64 s.ep)).setCell ⟨g, 7, none⟩ (.int .i64 (s.nu + 1))).setCell ⟨g, 8, none⟩ (.int .i64 te)).setCell ⟨g, 9, none⟩ (.int .i64 sz)).setCell ⟨g, 10, none⟩ (.int .i64 M)) := ⟨_, rfl⟩
    rw [← hWS]
    have hb9 := ((((((HA1.out.blk.set 4 (.int .i64 (s.nu + 1))).set 5 (.bool true)).set 6 (.int .i64 s.ep)).set 7 (.int .i64 (s.nu + 1))).set 8 (.int .i64 te)).set 9 (.int .i64 sz)).set 10 (.int .i64 M)
    rw [← hWS] at hb9
    have hf9 : Fr [g] W1 WS := by
      rw [hWS]
      exact (((((((Fr.refl [g] W1).setCell ⟨g, 4, none⟩ (.inl (by simp)) _).setCell ⟨g, 5, none⟩ (.inl (by simp)) _).setCell ⟨g, 6, none⟩ (.inl (by simp)) _).setCell ⟨g, 7, none⟩ (.inl (by simp)) _).setCell ⟨g, 8, none⟩ (.inl (by simp)) _).setCell ⟨g, 9, none⟩ (.inl (by simp)) _).setCell ⟨g, 10, none⟩ (.inl (by simp)) _
    obtain ⟨W2, hW2⟩ : ∃ W2, W2 = WS.drew := ⟨_, rfl⟩
    have hb2 : Blk W2 g ((s.ask te sz t).cells H2.val) 107 := by
      rw [hW2]
      rw [HM.out] at hb9
      exact hb9
    have hf2 : Fr [g] W1 W2 := by rw [hW2]; exact hf9.drew
    rw [← hW2]
    clear hWS hb9 hf9 hW2 c0 c1 c3 c4 c5 c6 c7 c8 c9 c10 zg
    have HA2 := Lib.hid (HA1.out.upd hf2 hb2)
    have HF2 := Lib.hid (HF1.out.trans hf2 (fun x hx => .inl (by simp at hx; simp [hx])))
    have HK2 : Hid (Blk W2 N #[.int .i8 0, .int .i64 0, .int .i64 0, .int .i64 0, .int .i64 0, .int .i64 0, .int .i64 0, .int .i64 0, .int .i64 0, .int .i64 0, .int .i64 0, .bool false, .slice none 0 0] 31) := Lib.hid ((hf2.block N HK1.out.lt (by simp; exact fun e => HGN e.symm)).trans HK1.out)
    have AG := again_ok g (s.ask te sz t) H2.val W2 hb2 rfl
    simp only [cmdL] at AG
    have HAG := Lib.hid AG
    clear AG hb2 hf2 HK1 HF1 HA1 hl1
    go_wp2_with fail
    go_at_call 15
    refine Calls.mono HAG.out ?_
    rintro e W5 ⟨rfl, hB5⟩
    have HA5 := Lib.hid (HA2.out.below hB5)
    have HF5 := Lib.hid (HF2.out.trans (Fr.of_below hB5) (fun x hx => by simp at hx))
    have HK5 : Hid (Blk W5 N #[.int .i8 0, .int .i64 0, .int .i64 0, .int .i64 0, .int .i64 0, .int .i64 0, .int .i64 0, .int .i64 0, .int .i64 0, .int .i64 0, .int .i64 0, .bool false, .slice none 0 0] 31) := Lib.hid (HK2.out.step hB5)
    clear hB5 HAG HA2 HF2 HK2
    go_upto_region 11 with fail
    obtain ⟨P, hP⟩ : ∃ P, P = W5.heap.size := ⟨_, rfl⟩
    obtain ⟨W6, hW6⟩ : ∃ W6, W6 = W5.alloc (.cells #[.int .i8 4, .int .i64 0, .int .i64 (s.nu + 1), .int .i64 te, .int .i64 0, .int .i64 0, .int .i64 s.sh, .int .i64 s.ep, .int .i64 0, .int .i64 sz, .int .i64 0, .bool false, .slice none 0 0] 31) := ⟨_, rfl⟩
    have HK6 : Hid (Blk W6 N #[.int .i8 0, .int .i64 0, .int .i64 0, .int .i64 0, .int .i64 0, .int .i64 0, .int .i64 0, .int .i64 0, .int .i64 0, .int .i64 0, .int .i64 0, .bool false, .slice none 0 0] 31) := Lib.hid (by rw [hW6]; exact HK5.out.alloc _)
    have hbx : Blk W6 P #[.int .i8 4, .int .i64 0, .int .i64 (s.nu + 1), .int .i64 te, .int .i64 0, .int .i64 0, .int .i64 s.sh, .int .i64 s.ep, .int .i64 0, .int .i64 sz, .int .i64 0, .bool false, .slice none 0 0] 31 := by rw [hW6, hP]; exact blk_new _ _ _
    have HA6 : Hid (AgAt W6 g (s.ask te sz t) H2) := Lib.hid (by rw [hW6]; exact HA5.out.below ((Below.refl _ _).alloc (Nat.le_refl _) _))
    have HF6 : Hid (Fr (g :: H.bl) w W6) := Lib.hid (by rw [hW6]; exact HF5.out.alloc _)
    have zso : ∀ j, W6.frozen? ⟨N, j, none⟩ = false := fun j => free_at HK6.out j
    have o0 : W6.cell? ⟨N, 0, none⟩ = some (.int .i8 0) := cell_at HK6.out 0
    have o1 : W6.cell? ⟨N, 1, none⟩ = some (.int .i64 0) := cell_at HK6.out 1
    have o2 : W6.cell? ⟨N, 2, none⟩ = some (.int .i64 0) := cell_at HK6.out 2
    have o3 : W6.cell? ⟨N, 3, none⟩ = some (.int .i64 0) := cell_at HK6.out 3
    have o4 : W6.cell? ⟨N, 4, none⟩ = some (.int .i64 0) := cell_at HK6.out 4
    have o5 : W6.cell? ⟨N, 5, none⟩ = some (.int .i64 0) := cell_at HK6.out 5
    have o6 : W6.cell? ⟨N, 6, none⟩ = some (.int .i64 0) := cell_at HK6.out 6
    have o7 : W6.cell? ⟨N, 7, none⟩ = some (.int .i64 0) := cell_at HK6.out 7
    have o8 : W6.cell? ⟨N, 8, none⟩ = some (.int .i64 0) := cell_at HK6.out 8
    have o9 : W6.cell? ⟨N, 9, none⟩ = some (.int .i64 0) := cell_at HK6.out 9
    have o10 : W6.cell? ⟨N, 10, none⟩ = some (.int .i64 0) := cell_at HK6.out 10
    have o11 : W6.cell? ⟨N, 11, none⟩ = some (.bool false) := cell_at HK6.out 11
    have o12 : W6.cell? ⟨N, 12, none⟩ = some (.slice none 0 0) := cell_at HK6.out 12
    have p0 : W6.cell? ⟨P, 0, none⟩ = some (.int .i8 4) := cell_at hbx 0
    have p1 : W6.cell? ⟨P, 1, none⟩ = some (.int .i64 0) := cell_at hbx 1
    have p2 : W6.cell? ⟨P, 2, none⟩ = some (.int .i64 (s.nu + 1)) := cell_at hbx 2
    have p3 : W6.cell? ⟨P, 3, none⟩ = some (.int .i64 te) := cell_at hbx 3
    have p4 : W6.cell? ⟨P, 4, none⟩ = some (.int .i64 0) := cell_at hbx 4
    have p5 : W6.cell? ⟨P, 5, none⟩ = some (.int .i64 0) := cell_at hbx 5
    have p6 : W6.cell? ⟨P, 6, none⟩ = some (.int .i64 s.sh) := cell_at hbx 6
    have p7 : W6.cell? ⟨P, 7, none⟩ = some (.int .i64 s.ep) := cell_at hbx 7
    have p8 : W6.cell? ⟨P, 8, none⟩ = some (.int .i64 0) := cell_at hbx 8
    have p9 : W6.cell? ⟨P, 9, none⟩ = some (.int .i64 sz) := cell_at hbx 9
    have p10 : W6.cell? ⟨P, 10, none⟩ = some (.int .i64 0) := cell_at hbx 10
    have p11 : W6.cell? ⟨P, 11, none⟩ = some (.bool false) := cell_at hbx 11
    have p12 : W6.cell? ⟨P, 12, none⟩ = some (.slice none 0 0) := cell_at hbx 12
    have hnp : (P = N) = False := eq_false (by have := HK5.out.lt; omega)
    rw [← hP]
    change Code.wp _ _ _ _ (W5.alloc (.cells #[.int .i8 4, .int .i64 0, .int .i64 (s.nu + 1), .int .i64 te, .int .i64 0, .int .i64 0, .int .i64 s.sh, .int .i64 s.ep, .int .i64 0, .int .i64 sz, .int .i64 0, .bool false, .slice none 0 0] 31))
    rw [← hW6]
    clear hbx hW6 hP HK5 HA5 HF5
    go_wp2_with fail
    obtain ⟨LS, hLS⟩ : ∃ L : List Value, L = [.int .i8 4, .int .i64 0, .int .i64 (s.nu + 1), .int .i64 te, .int .i64 0, .int .i64 0, .int .i64 s.sh, .int .i64 s.ep, .int .i64 0, .int .i64 sz, .int .i64 0, .bool false, .slice none 0 0] := ⟨_, rfl⟩
    obtain ⟨WS, hWS⟩ : ∃ WS, WS = W6.setCells (N) 0 LS := ⟨_, rfl⟩
    have hchS := hWS
    rw [hLS] at hchS
    simp only [World.setCells, Nat.zero_add, Nat.reduceAdd] at hchS
    rw [← hchS]
    clear hchS
    have hcS : ∀ j, j < 13 → (W6.setCells (N) 0 LS).cell? ⟨N, j, none⟩ = LS[j]? := fun j hj => by
      have := setCells_cell HK6.out LS 0 (by rw [hLS]; exact Nat.le_refl _) j (by rw [hLS]; exact hj)
      rwa [Nat.zero_add] at this
    have hfrS : Fr [N] W6 WS := by
      have := setCells_fr (N) LS 0 W6
      rw [← hWS] at this
      exact this
    rw [← hWS, hLS] at hcS
    have r0 : WS.cell? ⟨N, 0, none⟩ = some (.int .i8 4) := by exact hcS 0 (by omega)
    have r1 : WS.cell? ⟨N, 1, none⟩ = some (.int .i64 0) := by exact hcS 1 (by omega)
    have r2 : WS.cell? ⟨N, 2, none⟩ = some (.int .i64 (s.nu + 1)) := by exact hcS 2 (by omega)
    have r3 : WS.cell? ⟨N, 3, none⟩ = some (.int .i64 te) := by exact hcS 3 (by omega)
    have r4 : WS.cell? ⟨N, 4, none⟩ = some (.int .i64 0) := by exact hcS 4 (by omega)
    have r5 : WS.cell? ⟨N, 5, none⟩ = some (.int .i64 0) := by exact hcS 5 (by omega)
    have r6 : WS.cell? ⟨N, 6, none⟩ = some (.int .i64 s.sh) := by exact hcS 6 (by omega)
    have r7 : WS.cell? ⟨N, 7, none⟩ = some (.int .i64 s.ep) := by exact hcS 7 (by omega)
    have r8 : WS.cell? ⟨N, 8, none⟩ = some (.int .i64 0) := by exact hcS 8 (by omega)
    have r9 : WS.cell? ⟨N, 9, none⟩ = some (.int .i64 sz) := by exact hcS 9 (by omega)
    have r10 : WS.cell? ⟨N, 10, none⟩ = some (.int .i64 0) := by exact hcS 10 (by omega)
    have r11 : WS.cell? ⟨N, 11, none⟩ = some (.bool false) := by exact hcS 11 (by omega)
    have r12 : WS.cell? ⟨N, 12, none⟩ = some (.slice none 0 0) := by exact hcS 12 (by omega)
    clear hWS hcS hLS zso o0 o1 o2 o3 o4 o5 o6 o7 o8 o9 o10 o11 o12
    have hA9 := HA6.out.fr hfrS (by simp; exact HGN) (fun x hx => by
      have := HNB.out
      simp at this ⊢
      exact fun e => this.2 (HBL.out _ (by rw [← e]; exact hx)))
    have hF9 := HF6.out.trans hfrS (fun x hx => by simp at hx; subst hx; have := HN.out; exact .inr (by omega))
    have HA9 := Lib.hid hA9
    have HF9 := Lib.hid hF9
    clear hfrS hA9 hF9
    go_wp2_with fail
    exact bodyPost_ret (v := .tuple #[.agg #[.int .i8 4, .int .i64 0, .int .i64 (s.nu + 1), .int .i64 te, .int .i64 0, .int .i64 0, .int .i64 s.sh, .int .i64 s.ep, .int .i64 0, .int .i64 sz, .int .i64 0, .bool false, .slice none 0 0], .int .i64 0]) (by simp [results, Try.results14, go_sem, r0, r1, r2, r3, r4, r5, r6, r7, r8, r9, r10, r11, r12]) rfl ⟨rfl, HA9.out, HF9.out⟩
end Go.Proofs.Ytlgjdiadohhleaa
