/-
  fall: a crash; burn: what an armed disk waits for; Crash and Open.
-/
import Derived.Test.YtgbbbjddooiaeaaCut
import Derived.IntWalk
import Derived.Lib.Hide
namespace Go.Proofs.Ytgbbbjddooiaeaa
open Go.RowKit

theorem flat_disj : ∀ (ps : List (Nat × Option Nat)), (ps.flatMap foot1).Nodup → ∀ i j (hi : i < ps.length) (hj : j < ps.length), i ≠ j → ∀ x ∈ foot1 ps[i], x ∉ foot1 ps[j]
  | [], _, i, _, hi, _, _, _, _ => by simp at hi
  | p :: ps, hn, i, j, hi, hj, hij, x, hx => by
    simp only [List.flatMap_cons, List.nodup_append] at hn
    obtain ⟨_, h2, h3⟩ := hn
    match i, j, hi, hj, hij, hx with
    | 0, 0, _, _, h, _ => exact absurd rfl h
    | 0, j + 1, _, hj, _, hx => exact fun hm => h3 x hx x (List.mem_flatMap.2 ⟨_, List.getElem_mem _, hm⟩) rfl
    | i + 1, 0, hi, _, _, hx => exact fun hm => h3 x hm x (List.mem_flatMap.2 ⟨_, List.getElem_mem _, hx⟩) rfl
    | i + 1, j + 1, hi, hj, h, hx => exact flat_disj ps h2 i j (by simpa using hi) (by simpa using hj) (by omega) x hx

theorem foot1_nodup : ∀ (ps : List (Nat × Option Nat)), (ps.flatMap foot1).Nodup → ∀ i (hi : i < ps.length), (foot1 ps[i]).Nodup
  | [], _, i, hi => by simp at hi
  | p :: ps, hn, i, hi => by
    simp only [List.flatMap_cons, List.nodup_append] at hn
    obtain ⟨h1, h2, _⟩ := hn
    match i, hi with
    | 0, _ => exact h1
    | i + 1, hi => exact foot1_nodup ps h2 i (by simpa using hi)

theorem DRep.flat_nodup {w : World} {D : Nat} {p : Place} {d : PD} {fv pv : Value} (h : DRep w D p d fv pv) : (p.files.flatMap foot1).Nodup := by
  have hn := h.apart
  simp only [Place.foot, List.nodup_cons, List.nodup_append] at hn
  exact hn.2.2.1.1

theorem foot1_ne {ps : List (Nat × Option Nat)} (hn : (ps.flatMap foot1).Nodup) (i : Nat) (hi : i < ps.length) : ps[i].2 ≠ some ps[i].1 := by
  have := foot1_nodup ps hn i hi
  intro e
  simp [foot1, e] at this

/-- What a crash makes of a file. -/
def fallF (plan : List (ByteArray × Int)) (f : PF) : PF := f.cut (f.sure + stays plan f)
def PD.fall (d : PD) (plan : List (ByteArray × Int)) : PD := { files := d.files.map (fallF plan), down := true, lit := false, pass := 0, plan := [] }

theorem stays_le (plan : List (ByteArray × Int)) (f : PF) (h : f.ok) : f.sure + stays plan f ≤ f.text.length := by
  have := h.2.1
  unfold stays
  split <;> omega

/-- stays, of whatever plan. -/
theorem stays_any (ao : Option Addr) (b o cap : Nat) (plan : List (ByteArray × Int)) (w : World) (hn : plan.length ≤ 6000000000000) (ha : 0 < plan.length → ao = some ⟨b, o, none⟩ ∧ b < w.heap.size) (hp : PlanAt w b o plan)
    (hwf : ∀ x ∈ plan, (Lit.int .i64 x.2).wf = true) {F : Nat} {g : Option Nat} {f : PF} (hf : FRep w (F, g) f) :
    Calls Try.prog 71 #[.slice ao plan.length cap, .pointer (some ⟨F, 0, none⟩)] w fun r w' => r = .returned (.int .i64 (stays plan f : Nat)) ∧ Below w.heap.size w w' := by
  cases hk : planKeep plan f.name with
  | none => exact stays_none ao b o cap plan w hn ha hp hf hk
  | some k =>
    obtain ⟨j, hj, hq, _⟩ := planKeep_hit hk
    obtain ⟨rfl, hb⟩ := ha (by omega)
    refine stays_some b o cap plan w hn hb hp hf k hk ?_
    have : (plan.getD j (ByteArray.empty, 0)) ∈ plan := by simp only [List.getD, List.getElem?_eq_getElem hj, Option.getD_some]; exact List.getElem_mem hj
    have := hwf _ this
    rwa [hq] at this

theorem PlanAt.congr {w w' : World} {b o : Nat} {plan : List (ByteArray × Int)} (h : PlanAt w b o plan) (hb : 0 < plan.length → w'.heap[b]? = w.heap[b]?) : PlanAt w' b o plan := fun j hj => by
  have e := hb (by omega)
  have e1 : ∀ o', w'.cell? ⟨b, o', none⟩ = w.cell? ⟨b, o', none⟩ := fun o' => World.cell?_of_block e
  rw [e1, e1]
  exact h j hj

/-- What a round of fall does to the files. -/
theorem fall_step {w wr w1 w2 : World} {ps : List (Nat × Option Nat)} {fs : List PF} {plan : List (ByteArray × Int)} {j : Nat} (hj1 : j < ps.length) (hj2 : j < fs.length) (hnd : (ps.flatMap foot1).Nodup)
    (hFr : Fr (ps.flatMap foot1) w wr) (hlt : ∀ k ∈ ps.flatMap foot1, k < w.heap.size) (hFs : ∀ x (h1 : x < ps.length) (h2 : x < fs.length), FRep wr ps[x] (if x < j then fallF plan fs[x] else fs[x]))
    (hB1 : Below wr.drew.heap.size wr.drew w1) (hF2 : FRep w2 ps[j] (fallF plan fs[j])) (hFr2 : Fr (foot1 ps[j]) w1 w2) :
    Fr (ps.flatMap foot1) w w2 ∧ ∀ x (h1 : x < ps.length) (h2 : x < fs.length), FRep w2 ps[x] (if x < j + 1 then fallF plan fs[x] else fs[x]) := by
  have hB : Below wr.heap.size wr w1 := ⟨hB1.os, hB1.tape, hB1.output, hB1.size, hB1.block⟩
  have hFr12 : Fr (foot1 ps[j]) wr w2 := ((Fr.of_below hB).mono (by simp)).trans hFr2 fun x hx => .inl hx
  refine ⟨hFr.trans hFr12 fun x hx => .inl (List.mem_flatMap.2 ⟨_, List.getElem_mem _, hx⟩), fun x h1 h2 => ?_⟩
  by_cases hx : x = j
  · subst hx
    rw [if_pos (by omega)]
    exact hF2
  · have h0 := hFs x h1 h2
    have e : (if x < j + 1 then fallF plan fs[x] else fs[x]) = (if x < j then fallF plan fs[x] else fs[x]) := by
      by_cases h : x < j
      · rw [if_pos h, if_pos (by omega)]
      · rw [if_neg h, if_neg (by omega)]
    rw [e]
    exact h0.congr fun k hk => hFr12.block k (h0.lt k hk) (flat_disj ps hnd x j h1 hj1 hx k hk)

/-- What fall leaves of the disk. -/
theorem fall_end {w wr : World} {D : Nat} {p : Place} {d : PD} {fv pv : Value} (h : DRep w D p d fv pv) (plan : List (ByteArray × Int)) (hFr : Fr (p.files.flatMap foot1) w wr)
    (hFs : ∀ x (h1 : x < p.files.length) (h2 : x < d.files.length), FRep wr p.files[x] (if x < d.files.length then fallF plan d.files[x] else d.files[x])) :
    DRep ((((wr.setCell ⟨D, 1, none⟩ (.bool true)).setCell ⟨D, 2, none⟩ (.bool false)).setCell ⟨D, 3, none⟩ (.int .i64 0)).setCell ⟨D, 4, none⟩ (.slice none 0 0)) D { p with plan := none } (d.fall plan) fv (.slice none 0 0) ∧
    Fr (p.foot D) w ((((wr.setCell ⟨D, 1, none⟩ (.bool true)).setCell ⟨D, 2, none⟩ (.bool false)).setCell ⟨D, 3, none⟩ (.int .i64 0)).setCell ⟨D, 4, none⟩ (.slice none 0 0)) := by
  obtain ⟨n1, n2, n3⟩ := h.row_ne
  obtain ⟨l1, l2, l3, l4⟩ := h.lts
  have hlen := h.files.length
  have hHD : wr.heap[D]? = some (.cells #[fv, .bool d.down, .bool d.lit, .int .i64 (d.pass : Nat), pv] 67 (0, 0)) := by
    rw [hFr.block D l1 (fun hm => (n2 D hm).1 rfl)]; exact h.head
  have hne : ∀ k, k ≠ D → ((((wr.setCell ⟨D, 1, none⟩ (.bool true)).setCell ⟨D, 2, none⟩ (.bool false)).setCell ⟨D, 3, none⟩ (.int .i64 0)).setCell ⟨D, 4, none⟩ (.slice none 0 0)).heap[k]? = wr.heap[k]? := fun k hk => by
    rw [heap_setCell_ne _ _ _ _ hk, heap_setCell_ne _ _ _ _ hk, heap_setCell_ne _ _ _ _ hk, heap_setCell_ne _ _ _ _ hk]
  refine ⟨⟨?_, ?_, ?_, Row.nil _ _ _, ?_, ?_, ?_, by simp [PD.fall], by simp [PD.fall], by simp [PD.fall]⟩, ?_⟩
  · have := heap_setCell_same (heap_setCell_same (heap_setCell_same (heap_setCell_same hHD 1 (.bool true)) 2 (.bool false)) 3 (.int .i64 0)) 4 (.slice none 0 0)
    simpa [PD.fall] using this
  · exact h.row.congr fun g hg => by
      rw [hne g (fun e => n1 (by rw [hg, e])), hFr.block g (l2 g (by simp [hg])) (fun hm => (n2 g hm).2 hg)]
  · refine All2.of_get (by simpa [PD.fall] using hlen) fun j h1 h2 => ?_
    have h2' : j < d.files.length := by simpa [PD.fall] using h2
    have := hFs j h1 h2'
    rw [if_pos h2'] at this
    have e : (d.fall plan).files[j] = fallF plan d.files[j] := by simp [PD.fall]
    rw [e]
    exact this.congr fun k hk => hne k (n2 k (List.mem_flatMap.2 ⟨_, List.getElem_mem _, hk⟩)).1
  · have := h.apart
    simp only [Place.foot, List.nodup_cons, List.nodup_append, List.mem_append, not_or, Option.toList_none, List.not_mem_nil] at this ⊢
    exact ⟨⟨this.1.1, this.1.2.1, not_false⟩, this.2.1, ⟨this.2.2.1.1, List.nodup_nil, fun a _ b hb => by cases hb⟩, fun a ha b hb => this.2.2.2 a ha b (by rcases hb with hb | hb; exact .inl hb; cases hb)⟩
  · simpa [PD.fall] using h.few
  · have := h.names
    have e : (d.fall plan).files.map (·.name) = d.files.map (·.name) := by simp [PD.fall, fallF, PF.cut]
    rw [e]; exact this
  · refine Fr.setCell (Fr.setCell (Fr.setCell (Fr.setCell (hFr.mono fun x hx => .inl ?_) _ (.inl ?_) _) _ (.inl ?_) _) _ (.inl ?_) _) _ (.inl ?_) _
    · simp only [Place.foot, List.mem_cons, List.mem_append]; exact .inr (.inr (.inl hx))
    all_goals simp [Place.foot]

set_option maxHeartbeats 2000000 in
set_option maxRecDepth 100000 in
theorem fall_any {w : World} {D : Nat} {p : Place} {d : PD} {fv pv : Value} (h : DRep w D p d fv pv) (ao : Option Addr) (b o cap : Nat) (plan : List (ByteArray × Int)) (hn : plan.length ≤ 6000000000000)
    (ha : 0 < plan.length → ao = some ⟨b, o, none⟩ ∧ b < w.heap.size ∧ b ∉ p.files.flatMap foot1) (hp : PlanAt w b o plan) (hwf : ∀ x ∈ plan, (Lit.int .i64 x.2).wf = true) :
    Calls Try.prog 52 #[.pointer (some ⟨D, 0, none⟩), .slice ao plan.length cap] w fun r w' => r = .returned (.tuple #[]) ∧
      DRep w' D { p with plan := none } (d.fall plan) fv (.slice none 0 0) ∧ Fr (p.foot D) w w' := by
  have hlen := h.files.length
  have h64 := h.few
  have hc0 := h.cells.1
  obtain ⟨n1, n2, n3⟩ := h.row_ne
  obtain ⟨l1, l2, l3, l4⟩ := h.lts
  have hnd := h.flat_nodup
  have hrow := h.row
  obtain ⟨a, capf, hfv, hcap, hmax, hav⟩ := hrow.shape
  subst hfv
  have HAV : Hid (a = Option.map (fun g => ⟨g, 0, none⟩) p.row) := hav
  obtain ⟨n, hN⟩ : ∃ n, n = p.files.length := ⟨_, rfl⟩
  have HN : Hid (n = p.files.length) := hN
  have hn64 : n ≤ 64 := by omega
  have HL : Hid (n = d.files.length) := hN.trans hlen
  obtain ⟨np, hNP⟩ : ∃ n, n = plan.length := ⟨_, rfl⟩
  have HNP : Hid (np = plan.length) := hNP
  rw [← hN] at hc0
  rw [← hNP] at ⊢
  clear hav hN hlen hNP
  go_enter Try.func52, Try.ntmps52
  go_wp2_with fail
  go_loopw [5, 11] (fun _ i wr => ∃ j : Nat, j ≤ n ∧ i = .int .i64 j ∧ Fr (p.files.flatMap foot1) w wr ∧ ∀ x (h1 : x < p.files.length) (h2 : x < d.files.length), FRep wr p.files[x] (if x < j then fallF plan d.files[x] else d.files[x]))
    (fun _ i _ => n - (intOf i).toNat)
  case atStart => exact ⟨0, Nat.zero_le _, rfl, Fr.refl _ _, fun x h1 h2 => by rw [if_neg (by omega)]; exact h.files.get x h1 h2⟩
  case round =>
  obtain ⟨j, hj, rfl, hFr, hFs⟩ := hrel
  by_cases hlt : j < n
  · have hj1 : j < p.files.length := by have := HN.out; omega
    have hj2 : j < d.files.length := by have := HL.out; omega
    obtain ⟨R, hR, hcr, hfr⟩ := hrow.cell j (by omega)
    have hcr' : wr.cell? ⟨R, j, none⟩ = some (.pointer (some ⟨p.files[j].1, 0, none⟩)) := by
      rw [World.cell?_of_block (hFr.block R (l2 R (by simp [hR])) (fun hm => (n2 R hm).2 hR)), hcr]
      simp [ptrs, List.getElem?_eq_getElem hj1]
    have hAv : a = some ⟨R, 0, none⟩ := by rw [HAV.out, hR]; rfl
    subst hAv
    have hF0 := hFs j hj1 hj2
    rw [if_neg (by omega)] at hF0
    obtain ⟨F, hF⟩ : ∃ F, F = p.files[j].1 := ⟨_, rfl⟩
    obtain ⟨g, hg⟩ : ∃ g, g = p.files[j].2 := ⟨_, rfl⟩
    have hpj : p.files[j] = (F, g) := by rw [hF, hg]
    rw [← hF] at hcr'
    rw [hpj] at hF0
    obtain ⟨f, hf⟩ : ∃ f, f = d.files[j] := ⟨_, rfl⟩
    rw [← hf] at hF0
    have hok : f.ok := by obtain ⟨v, n, xs, _, _, _, hok⟩ := hF0; exact hok
    have hsk := stays_le plan f hok
    have hgF : g ≠ some F := by have := foot1_ne hnd j hj1; rw [hpj] at this; exact this
    have hplW : 0 < plan.length → wr.heap[b]? = w.heap[b]? := fun h0 => hFr.block b (ha h0).2.1 (ha h0).2.2
    have hst : ∀ W : World, W.heap = wr.heap → Calls Try.prog 71 #[.slice ao plan.length cap, .pointer (some ⟨F, 0, none⟩)] W fun r w' => r = .returned (.int .i64 (stays plan f : Nat)) ∧ Below W.heap.size W w' := fun W hW =>
      stays_any ao b o cap plan W hn (fun h0 => ⟨(ha h0).1, by have := (ha h0).2.1; have := hFr.size; rw [hW]; omega⟩) (hp.congr fun h0 => by rw [hW]; exact hplW h0) hwf (hF0.congr fun k _ => by rw [hW])
    rw [← HNP.out] at hst
    have hsu : wr.cell? ⟨F, 2, none⟩ = some (.int .i64 (f.sure : Nat)) := by obtain ⟨v, n, xs, hb, _⟩ := hF0; exact cell_at hb 2
    have h20 := hok.2.2
    have HP : Hid (p.files[j] = (F, g)) := hpj
    have HFD : Hid (f = d.files[j]) := hf
    obtain ⟨S, hS⟩ : ∃ S, S = stays plan f := ⟨_, rfl⟩
    rw [← hS] at hst hsk
    have HS : Hid (S = stays plan f) := hS
    clear hcr hfr hR hF hg hpj hf hplW hok hS ha
    obtain ⟨K, hK⟩ : ∃ K, K = f.sure + S := ⟨_, rfl⟩
    have hwrap : IntKind.i64.wrap ((f.sure : Int) + (S : Int)) = (K : Nat) := by
      rw [hK, ← Int.natCast_add]
      exact IntWalk.i64_in _ (by omega)
    have hKt : K ≤ f.text.length := by omega
    have HK : Hid (fallF plan f = f.cut K) := by show _ = _; rw [fallF, ← HS.out, hK]
    clear hK
    go_wp2_with fail
    go_region_with (first
      | (go_at_call 71; refine (hst wr.drew rfl).mono ?_; rintro e w1 ⟨rfl, hB1⟩; have hsu1 : w1.cell? ⟨F, 2, none⟩ = some (.int .i64 (f.sure : Nat)) := (hB1.cell (p := ⟨F, 2, none⟩) (hF0.lt F (by simp [foot1]))).trans hsu; have hcut := cut_any (hF0.congr (w' := w1) fun k hk => hB1.block k (hF0.lt k hk)) K hKt hgF)
      | (go_at_call 62; refine hcut.mono ?_; rintro e w2 ⟨rfl, hF2, hFr2⟩; have HE := Lib.hid (fall_step hj1 hj2 hnd hFr l3 hFs hB1 (by rw [HP.out, ← HFD.out, HK.out]; exact hF2) (by rw [HP.out]; exact hFr2)); clear hcut hF2 hFr2))
    all_goals go_wp2_with fail
    all_goals go_roundw
    all_goals first
      | exact ⟨j + 1, by omega, by go_num, HE.out.1, HE.out.2⟩
      | (simp [intOf]; omega)
  · obtain rfl : j = n := by omega
    have hHD : wr.heap[D]? = some (.cells #[.slice a p.files.length capf, .bool d.down, .bool d.lit, .int .i64 (d.pass : Nat), pv] 67 (0, 0)) := by
      rw [hFr.block D l1 (fun hm => (n2 D hm).1 rfl)]; exact h.head
    have hf1 := free_at hHD 1
    have hf2 := free_at hHD 2
    have hf3 := free_at hHD 3
    have hf4 := free_at hHD 4
    have hg1 : wr.cell? ⟨D, 1, none⟩ = some (.bool d.down) := cell_at hHD 1
    have hg2 : wr.cell? ⟨D, 2, none⟩ = some (.bool d.lit) := cell_at hHD 2
    have hg3 : wr.cell? ⟨D, 3, none⟩ = some (.int .i64 (d.pass : Nat)) := cell_at hHD 3
    have hg4 : wr.cell? ⟨D, 4, none⟩ = some pv := cell_at hHD 4
    have hDr : D < wr.heap.size := lt_of_block hHD
    have HHD : Hid (wr.heap[D]? = some (.cells #[.slice a p.files.length capf, .bool d.down, .bool d.lit, .int .i64 (d.pass : Nat), pv] 67 (0, 0))) := hHD
    have HE := Lib.hid (fall_end h plan hFr fun x h1 h2 => by have := hFs x h1 h2; have e := HL.out; rwa [if_pos (by omega)] at this ⊢)
    clear ha hHD
    go_wp2
    go_end0
    exact ⟨rfl, HE.out.1, HE.out.2⟩

end Go.Proofs.Ytgbbbjddooiaeaa
