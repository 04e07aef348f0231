/-
  A port cleared, where all messages go there.
-/
import Derived.Test.YtokhdpokcfkfpaaAil
import Derived.OwnWalkIn
import Derived.Sort.QuietTacIn
import Derived.Shelf.Abstract
namespace Go.Proofs.Ytokhdpokcfkfpaa
open Go.RowKit
set_option linter.unusedSimpArgs false
set_option linter.unusedVariables false

attribute [local go_sem] Oper.semAt_some

def ClrI (w : World) (g b : Nat) (ob : Option Nat) (v : Value) (L : List MsE) (M : Int × Int → Option Value) (N : Nat) (q : Int) (W : World) : Prop :=
  AirAt W g b ob v L M ∧ Blk W N #[.int .i64 q] 3 ∧ Blk W (N + 1) #[.slice none 0 0] 28 ∧ Below N w W
theorem ClrI.step {w W W' : World} {g b N : Nat} {ob : Option Nat} {v : Value} {L : List MsE} {M : Int × Int → Option Value} {q : Int} (h : ClrI w g b ob v L M N q W) (hB : Below W.heap.size W W') : ClrI w g b ob v L M N q W' :=
  ⟨h.1.below hB, h.2.1.step hB, h.2.2.1.step hB, h.2.2.2.trans (hB.mono (by have := h.2.1.lt; omega))⟩
theorem ClrI.put {w W : World} {g b N : Nat} {ob : Option Nat} {v : Value} {L : List MsE} {M : Int × Int → Option Value} {q : Int} (h : ClrI w g b ob v L M N q W) (hG : g < N ∧ b < N ∧ ∀ x, ob = some x → x < N) (l : Nat) (hl : N + 1 < l) (o : Obj) : ClrI w g b ob v L M N q (W.putObj l o) := by
  have hF : Fr [l] W (W.putObj l o) := ⟨rfl, rfl, rfl, by simp, fun k _ hk => World.putObj_heap_other (by simpa using hk)⟩
  exact ⟨h.1.fr hF (by have := hG.1; simp; omega) (by have := hG.2.1; simp; omega) (fun x hx => by have := hG.2.2 x hx; simp; omega), (World.putObj_heap_other (by omega)).trans h.2.1, (World.putObj_heap_other (by omega)).trans h.2.2.1, h.2.2.2.trans ⟨rfl, rfl, rfl, by simp, fun k hk => World.putObj_heap_other (by omega)⟩⟩
theorem prs_mem (L : List MsE) (k : Nat) (x : Nat × MsE) (h : (prs L)[k]? = some x) : x.2 ∈ L := by
  simp only [prs, List.getElem?_zip_eq_some] at h
  exact List.mem_of_getElem? h.2

set_option maxRecDepth 100000 in
set_option maxHeartbeats 8000000 in
theorem clear_ok (g b : Nat) (ob : Option Nat) (v : Value) (L : List MsE) (M : Int × Int → Option Value) (q : Int) (w : World) (h : AirAt w g b ob v L M) (hn : L.length ≤ 1024) (h0 : 0 < L.length) (hq : ∀ m ∈ L, m.t = q) :
    Calls Try.prog 16 #[.pointer (some ⟨g, 0, none⟩), .int .i64 q] w fun e w' => e = .returned (.int .i64 (L.length : Int)) ∧ AirAt w' g b none (.slice none 0 0) [] M ∧ Fr [g] w w' := by
  refine (callsIn_wide (n := 9)).1 ?_
  obtain ⟨N, hN⟩ : ∃ N, N = w.heap.size := ⟨_, rfl⟩
  obtain ⟨W0, hW0⟩ : ∃ W0, W0 = (w.alloc (.cells #[.int .i64 q] 3)).alloc (.cells #[.slice none 0 0] 28) := ⟨_, rfl⟩
  have hB0 : Below w.heap.size w W0 := by rw [hW0]; exact ((Below.refl _ _).alloc (Nat.le_refl _) _).alloc (by simp) _
  have hs0 : W0.heap.size = N + 2 := by rw [hW0, hN]; simp
  have b0 : Blk W0 N #[.int .i64 q] 3 := by rw [hW0, hN]; exact (blk_new _ _ _).alloc _
  have b1 : Blk W0 (N + 1) #[.slice none 0 0] 28 := by
    have := blk_new (w.alloc (.cells #[.int .i64 q] 3)) #[.slice none 0 0] 28
    rw [World.size_alloc] at this
    rw [hW0, hN]
    exact this
  have hA0 := h.below hB0
  have AL := airAll_any g b ob v L M W0 hA0 hn
  have HAL := Lib.hid AL
  have HG : Hid (g < N ∧ b < N ∧ ∀ x, ob = some x → x < N) := Lib.hid ⟨by rw [hN]; exact h.blk.lt, by rw [hN]; exact h.map.lt, fun x hx => by have hr := h.row; subst hx; rw [hN]; exact hr.lt⟩
  have HN := Lib.hid hN
  have hI0 : ClrI w g b ob v L M N q W0 := ⟨hA0, b0, b1, by rw [hN]; exact hB0⟩
  have HI0 := Lib.hid hI0
  have HS0 := Lib.hid hs0
  clear h hB0 hs0 b0 b1 hA0 AL hI0
  refine callsIn_of_wp_marks Try.func16 rfl trivial ?_ rfl
  simp only [Try.ntmps16, List.size_toArray, List.length_cons, List.length_nil, Nat.reduceAdd, Nat.reduceSub, Array.replicate_succ, Array.replicate_zero, List.push_toArray, List.append_toArray, List.nil_append, List.cons_append]
  gi_wp2_with (first
    | (refine ⟨trivial, ?_⟩; gi_at_call 30; rw [← hW0]; refine (callsIn_wide.2 HAL.out).mono ?_; rintro e W2 ⟨P, ob2, v2, rfl, k1, k2, k3, k4, k5⟩)
    | fail)
  rw [← hN]
  clear hN hW0
  have hI2 := HI0.out.step k3
  have hs2 : N + 2 ≤ W2.heap.size := by have := k3.size; have := HS0.out; omega
  have hob : ∀ A B g', FrB (W2.heap.size + 2) [W2.heap.size + 1] A B → ob2 = some g' → B.heap[g']? = A.heap[g']? := fun A B g' hF hg => hF.block g' (by have hr := k2; subst hg; have := hr.lt; omega) (by have hr := k2; subst hg; have := hr.lt; simp; omega)
  refine range_E (by omega) (gf := 43) (lb := #[.pointer (some ⟨P, 0, none⟩)]) rfl (enters_of Try.func43 (by kernel_rfl) rfl) [] (allM1_seq 8 (by omega) P v2 ob2 L k1 k2 hob) (fun _ => rfl)
    (fun _ W => ClrI w g b ob v L M N q W) (fun _ _ _ => False)
    (fun _ A B h hB => h.step hB) (fun _ A o h hlt => h.put HG.out _ (by omega) o) (fun _ _ _ _ h _ => h.elim) (by simp) (by simp) hI2 ?rnd ?dn (fun _ _ _ h _ => h.elim)
  case rnd =>
    rintro pre ⟨x1, m⟩ W hI hx hlen hltW
    have hmq : m.t = q := hq m (prs_mem L pre.length (x1, m) hx)
    have HI := Lib.hid hI
    have HMQ := Lib.hid hmq
    clear hI hx k1 k2 k3 k4 k5 hob hI2 HI0 HAL
    dsimp only [encM]
    obtain ⟨X, hX⟩ : ∃ X, X = W.heap.size := ⟨_, rfl⟩
    have HX := Lib.hid hX
    gi_wp2_with fail
    refine ⟨(Below.refl _ _).alloc (Nat.le_refl _) _, fun o => ?_⟩
    obtain ⟨WA, hWA⟩ : ∃ WA, WA = W.alloc (.cells #[.int .i8 m.kd, .int .i64 m.f, .int .i64 m.t, .int .i64 m.te, .int .i64 m.ix, .int .i64 m.la, .int .i64 m.co, .bool m.ok, .slice none 0 0, .int .i64 m.si, .int .i64 m.st, .int .u8 m.sc, .slice none 0 0, .slice none 0 0] 39) := ⟨_, rfl⟩
    obtain ⟨WX, hWX⟩ : ∃ WX, WX = WA.putObj (W2.heap.size + 1) o := ⟨_, rfl⟩
    have hBA : Below W.heap.size W WA := by rw [hWA]; exact (Below.refl _ _).alloc (Nat.le_refl _) _
    have kA : Blk WA X #[.int .i8 m.kd, .int .i64 m.f, .int .i64 m.t, .int .i64 m.te, .int .i64 m.ix, .int .i64 m.la, .int .i64 m.co, .bool m.ok, .slice none 0 0, .int .i64 m.si, .int .i64 m.st, .int .u8 m.sc, .slice none 0 0, .slice none 0 0] 39 := by rw [hWA, hX]; exact blk_new _ _ _
    have hIX : ClrI w g b ob v L M N q WX := by rw [hWX]; exact (HI.out.step hBA).put HG.out _ (by omega) o
    have kX : Blk WX X #[.int .i8 m.kd, .int .i64 m.f, .int .i64 m.t, .int .i64 m.te, .int .i64 m.ix, .int .i64 m.la, .int .i64 m.co, .bool m.ok, .slice none 0 0, .int .i64 m.si, .int .i64 m.st, .int .u8 m.sc, .slice none 0 0, .slice none 0 0] 39 := by rw [hWX]; exact (World.putObj_heap_other (by omega)).trans kA
    have e2 : WX.cell? ⟨X, 2, none⟩ = some (.int .i64 m.t) := cell_at kX 2
    rw [HMQ.out] at e2
    have e0 : WX.cell? ⟨N, 0, none⟩ = some (.int .i64 q) := cell_at hIX.2.1 0
    have HIX := Lib.hid hIX
    have HQ : Hid (∀ m : Int, m = q → True) := Lib.hid (fun _ _ => trivial)
    rw [← hX]
    rw [HMQ.out] at hWA
    rw [← hWA, ← hWX]
    clear hWX hWA hBA kA hIX kX hX HI
    gi_wp2_with fail
    exact ⟨FrB.refl _ _ _, HIX.out⟩
  case dn =>
    rintro xs W rfl hI hK
    have HI := Lib.hid hI
    have HK := Lib.hid hK
    have LN : Hid (∀ k, CallsIn Fence.wide 8 Try.prog 11 #[.pointer (some ⟨g, 0, none⟩)] (W.drewN k) fun e w' => e = .returned (.int .i64 (L.length : Int)) ∧ w' = W.drewN k) := Lib.hid (fun k => callsIn_wide.2 ((airLen_any g b ob v L M (W.drewN k) (hI.1.below ⟨rfl, rfl, rfl, Nat.le_refl _, fun _ _ => rfl⟩)).mono fun e w' h => ⟨h.1, h.2.symm⟩))
    have c1 : ∀ k, (W.drewN k).cell? ⟨N + 1, 0, none⟩ = some (.slice none 0 0) := fun _ => cell_at hI.2.2.1 0
    clear hI hK k1 k2 k3 k4 k5 hob hI2 HI0 HAL
    gi_wp2_with fail
    refine wpIn_region_quiet_lit rfl (by kernel_rfl) (by kernel_rfl) ?_
    refine wpQuietIn_step (by quiet_asked_in) (fun K hK => ?_)
    go_simp
    refine hK _ ?_
    clear hK K
    refine wpQuietIn_step (by first | quiet_asked_in | (intro _ _ _; trivial) | (go_simp; intros; trivial)) (fun K hK => ?_)
    go_simp
    apply Exists.intro
    refine ⟨fun _ => ?_, hK _ ?_⟩
    · gi_at_call 11
      exact CallsIn.quiet_of_same (LN.out _)
    clear hK K
    repeat (quiet_step_in (fail))
    refine wpQuietIn_nil ?_
    intro _ hw'
    obtain ⟨nq, hw''⟩ := hw'
    subst hw''
    rw [IntWalk.i64_in (L.length : Int) (by omega)]
    have hIq : ClrI w g b ob v L M N q (W.drewN nq) := HI.out.step ⟨rfl, rfl, rfl, Nat.le_refl _, fun _ _ => rfl⟩
    have hKq : (W.drewN nq).heap[W2.heap.size]? = some (.deferred (some [])) := HK.out
    obtain ⟨Wq, hWq⟩ : ∃ Wq, Wq = W.drewN nq := ⟨_, rfl⟩
    rw [← hWq] at hIq hKq ⊢
    have HIq := Lib.hid hIq
    have HKq := Lib.hid hKq
    have d1 : Wq.cell? ⟨N + 1, 0, none⟩ = some (.slice none 0 0) := cell_at hIq.2.2.1 0
    have d0 : Wq.cell? ⟨g, 0, none⟩ = some v := cell_at hIq.1.blk 0
    have z0 := free_at hIq.1.blk 0
    have l0 := hIq.1.blk.lt
    clear hWq hIq hKq c1 HI HK LN
    gi_wp2_with fail
    obtain ⟨W9, hW9⟩ : ∃ W9, W9 = Wq.setCell ⟨g, 0, none⟩ (.slice none 0 0) := ⟨_, rfl⟩
    rw [← hW9]
    have hgW : g ≠ W2.heap.size := by have := HG.out.1; omega
    have hF9 : Fr [g] Wq W9 := by rw [hW9]; exact (Fr.refl [g] Wq).setCell ⟨g, 0, none⟩ (.inl (by simp)) _
    have hb9 : Blk W9 g #[.slice none 0 0, .map (some b)] 61 := by rw [hW9]; exact HIq.out.1.blk.set 0 _
    have hK9 : W9.heap[W2.heap.size]? = some (.deferred (some [])) := by rw [hW9]; exact (heap_setCell_ne _ _ _ _ (by simp only; omega)).trans HKq.out
    have hm9 : MapU W9 b encW M := HIq.out.1.map.congr (hF9.block b HIq.out.1.map.lt (by have := HIq.out.1.ne; simp; omega))
    clear hW9
    refine ⟨by simp, .inl ⟨_, _, rfl, run_takeDeferred hK9, ?_⟩⟩
    obtain ⟨WF, hWF⟩ : ∃ WF, WF = W9.putObj W2.heap.size (.deferred none) := ⟨_, rfl⟩
    have hFF : Fr [W2.heap.size] W9 WF := by rw [hWF]; exact ⟨rfl, rfl, rfl, by simp, fun k _ hk => World.putObj_heap_other (by simpa using hk)⟩
    rw [← hWF]
    refine ⟨.int .i64 (L.length : Int), (by simp [results, Try.results16, go_sem]), rfl, ⟨?_, ?_, ?_, HIq.out.1.ne, by simp, by simp⟩, ?_⟩
    · exact (hFF.block g hb9.lt (by simp; omega)).trans hb9
    · exact Row.nil _ _ _
    · exact hm9.congr (hFF.block b hm9.lt (by have := HG.out.2.1; simp; omega))
    · have hbel : Below w.heap.size w Wq := by have := HIq.out.2.2.2; rw [HN.out] at this; exact this
      have hf1 : Fr [g] w Wq := (Fr.of_below hbel).mono (by simp)
      exact (hf1.trans hF9 (fun x hx => .inl hx)).trans hFF (fun x hx => by simp at hx; subst hx; have := HN.out; exact .inr (by omega))
end Go.Proofs.Ytokhdpokcfkfpaa
