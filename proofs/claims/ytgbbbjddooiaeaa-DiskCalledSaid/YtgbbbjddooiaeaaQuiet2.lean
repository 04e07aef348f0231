/-
  What of package disk only reads, further: lacks where there is no file; find; size.
-/
import Derived.Test.YtgbbbjddooiaeaaQuiet
namespace Go.Proofs.Ytgbbbjddooiaeaa
open Go.RowKit

theorem lacks_none (D : Option Nat) (o : Option Bool) (w : World) (h0 : o = none → D = none) (h1 : ∀ b, o = some b → ∃ n, D = some n ∧ w.cell? ⟨n, 1, none⟩ = some (.bool b)) :
    Calls Try.prog 50 #[.pointer (D.map fun n => ⟨n, 0, none⟩), .pointer none] w fun r w' => r = .returned (.int .i64 (fst0 [lostE o, 4])) ∧ Below w.heap.size w w' := by
  have hc := lost_any D o w h0 h1
  obtain ⟨dv, hdv⟩ : ∃ dv, dv = D.map fun n => (⟨n, 0, none⟩ : Addr) := ⟨_, rfl⟩
  rw [← hdv] at hc ⊢
  clear h0 h1 hdv
  go_enter Try.func50, Try.ntmps50
  go_wp2_with (go_at_call 46; refine hc.mono ?_; rintro e w1 ⟨rfl, hb⟩; clear hc)
  go_wp2_with (first
    | (go_at_call 53; (with_reducible refine (when_t _ _).mono ?_); rintro e w' ⟨rfl, rfl⟩)
    | (go_at_call 53; (with_reducible refine (when_f _ _).mono ?_); rintro e w' ⟨rfl, rfl⟩)
    | (go_at_call 47; (with_reducible refine (first_two _ _ _ _ rfl).mono ?_)))
  rintro e w' ⟨rfl, rfl⟩
  go_wp2
  go_ret
  exact ⟨rfl, hb.alloc hb.size _⟩

theorem find_hit {w : World} {D : Nat} {p : Place} {d : PD} {fv pv : Value} (h : DRep w D p d fv pv) (s : ByteArray) (k : Nat) (hf : d.find s = some k) :
    ∃ hk : k < p.files.length, Calls Try.prog 49 #[.pointer (some ⟨D, 0, none⟩), .string s] w fun r w' => r = .returned (.pointer (some ⟨p.files[k].1, 0, none⟩)) ∧ w = w' := by
  obtain ⟨hkd, hname, hno⟩ := PD.find_some hf
  have hlen := h.files.length
  have hk : k < p.files.length := by omega
  refine ⟨hk, ?_⟩
  have hc0 := h.cells.1
  have hrow := h.row
  have h64 := h.few
  obtain ⟨a, cap, rfl, hcap, hmax, ha⟩ := hrow.shape
  obtain ⟨R, hR, hx1, hx2⟩ := hrow.cell k (by omega)
  clear hx1 hx2
  rw [hR] at ha hrow
  simp only [Option.map_some] at ha
  subst ha
  have hp : ∀ j, j < p.files.length → w.cell? ⟨R, j, none⟩ = some (.pointer (some ⟨(p.files.getD j (0, none)).1, 0, none⟩)) := fun j hj => by
    obtain ⟨g, hg, hc, _⟩ := hrow.cell j (by omega)
    obtain rfl := Option.some.inj hg
    rw [hc]
    simp [ptrs, List.getD, List.getElem?_eq_getElem hj]
  have hn : ∀ j, j < p.files.length → w.cell? ⟨(p.files.getD j (0, none)).1, 0, none⟩ = some (.string ((d.files.map (·.name)).getD j ByteArray.empty)) := fun j hj => by
    obtain ⟨v, n, xs, hb, _⟩ := h.files.get j hj (by omega)
    have : (p.files.getD j (0, none)) = p.files[j] := by simp [List.getD, List.getElem?_eq_getElem hj]
    rw [this, cell_at hb 0]
    simp [List.getD, List.getElem?_eq_getElem (show j < d.files.length by omega)]
  have hname' : (d.files.map (·.name)).getD k ByteArray.empty = s := by rw [← hname]; simp [List.getD, List.getElem?_eq_getElem hkd]
  have hno' : ∀ j, j < k → (d.files.map (·.name)).getD j ByteArray.empty ≠ s := fun j hj => by
    have := hno j hj
    simpa [List.getD, List.getElem?_eq_getElem (show j < d.files.length by omega)] using this
  have hpk := hp k hk
  have hpk' : w.cell? ⟨R, 0 + k, none⟩ = some (.pointer (some ⟨(p.files.getD k (0, none)).1, 0, none⟩)) := by simpa using hpk
  have hkk : p.files.getD k (0, none) = p.files[k] := by simp [List.getD, List.getElem?_eq_getElem hk]
  rw [← hkk]
  obtain ⟨F, hF⟩ : ∃ F, F = (p.files.getD k (0, none)).1 := ⟨_, rfl⟩
  rw [← hF] at hpk hpk' ⊢
  have hw := whereF_hit R cap p.files.length k (fun j => (p.files.getD j (0, none)).1) (fun j => (d.files.map (·.name)).getD j ByteArray.empty) s w (by omega) hk hp hn hname' hno'
  have hn64 : p.files.length ≤ 64 := by omega
  clear hp hn hname' hno' hkk hF hrow hlen hname hno hf hR h64
  obtain ⟨N, hN⟩ : ∃ N, N = p.files.length := ⟨_, rfl⟩
  rw [← hN] at hw hc0 hk hcap hn64
  clear hN h
  go_enter Try.func49, Try.ntmps49
  go_wp2_with (first
    | (go_at_call 55; refine (row_some _ _ _ hc0).mono ?_; rintro e w' ⟨rfl, rfl⟩)
    | (go_at_call 68; refine hw.mono ?_; rintro e w' ⟨rfl, rfl⟩; clear hw))
  go_ret
  exact ⟨rfl, rfl⟩

theorem find_miss {w : World} {D : Nat} {p : Place} {d : PD} {fv pv : Value} (h : DRep w D p d fv pv) (s : ByteArray) (hf : d.find s = none) :
    Calls Try.prog 49 #[.pointer (some ⟨D, 0, none⟩), .string s] w fun r w' => r = .returned (.pointer none) ∧ w = w' := by
  have hno := PD.find_none hf
  have hlen := h.files.length
  have hc0 := h.cells.1
  have hrow := h.row
  have h64 := h.few
  obtain ⟨a, cap, rfl, hcap, hmax, ha⟩ := hrow.shape
  have hw := whereF_miss a (p.row.getD 0) cap p.files.length (fun j => (p.files.getD j (0, none)).1) (fun j => (d.files.map (·.name)).getD j ByteArray.empty) s w (by omega)
    (fun h0 => by obtain ⟨R, hR, _, _⟩ := hrow.cell 0 (by omega); rw [ha, hR]; rfl)
    (fun j hj => by
      obtain ⟨g, hg, hc, _⟩ := hrow.cell j (by omega)
      rw [hg]
      simp only [Option.getD_some]
      rw [hc]
      simp [ptrs, List.getD, List.getElem?_eq_getElem hj])
    (fun j hj => by
      obtain ⟨v, n, xs, hb, _⟩ := h.files.get j hj (by omega)
      have : (p.files.getD j (0, none)) = p.files[j] := by simp [List.getD, List.getElem?_eq_getElem hj]
      rw [this, cell_at hb 0]
      simp [List.getD, List.getElem?_eq_getElem (show j < d.files.length by omega)])
    (fun j hj => by
      have := hno j (by omega)
      simpa [List.getD, List.getElem?_eq_getElem (show j < d.files.length by omega)] using this)
  clear hno hlen hrow h64 ha hf
  clear h
  go_enter Try.func49, Try.ntmps49
  go_wp2_with (first
    | (go_at_call 55; refine (row_some _ _ _ hc0).mono ?_; rintro e w' ⟨rfl, rfl⟩)
    | (go_at_call 68; refine hw.mono ?_; rintro e w' ⟨rfl, rfl⟩; clear hw))
  go_ret
  exact ⟨rfl, rfl⟩

theorem find_nil (s : ByteArray) (w : World) :
    Calls Try.prog 49 #[.pointer none, .string s] w fun r w' => r = .returned (.pointer none) ∧ w = w' := by
  have hw := whereF_miss none 0 0 0 (fun _ => 0) (fun _ => ByteArray.empty) s w (by omega) (fun h => by omega) (fun j hj => by omega) (fun j hj => by omega) (fun j hj => by omega)
  go_enter Try.func49, Try.ntmps49
  go_wp2_with (first
    | (go_at_call 55; refine (row_nil _).mono ?_; rintro e w' ⟨rfl, rfl⟩)
    | (go_at_call 68; refine hw.mono ?_; rintro e w' ⟨rfl, rfl⟩; clear hw))
  go_ret
  exact ⟨rfl, rfl⟩

theorem size_nil (w : World) : Calls Try.prog 56 #[.pointer none] w fun r w' => r = .returned (.int .i64 0) ∧ w = w' := by
  go_enter Try.func56, Try.ntmps56
  go_wp2
  go_ret
  exact ⟨rfl, rfl⟩

set_option maxRecDepth 100000 in
theorem size_some {w : World} {p : Nat × Option Nat} {f : PF} (h : FRep w p f) : Calls Try.prog 56 #[.pointer (some ⟨p.1, 0, none⟩)] w fun r w' => r = .returned (.int .i64 (f.text.length : Nat)) ∧ w = w' := by
  obtain ⟨v, n, xs, hb, hrow, hbl, hok⟩ := h
  have hc1 := cell_at hb 1
  simp at hc1
  obtain ⟨a, cap, rfl, hcap, hmax, ha⟩ := hrow.shape
  obtain ⟨len, hlen⟩ : ∃ len, len = f.text.length := ⟨_, rfl⟩
  have hlo := hbl.lo
  have hhi := hbl.hi
  have h20 := hok.2.2
  rw [← hlen] at hlo hhi h20 ⊢
  rcases Nat.eq_zero_or_pos n with rfl | hn
  · obtain rfl : len = 0 := by omega
    clear hlen hlo hhi hb hrow hbl hok
    go_enter Try.func56, Try.ntmps56
    go_wp2
    go_ret
    exact ⟨rfl, rfl⟩
  · obtain ⟨g, hg, hc, hx⟩ := hrow.cell (513 * (n - 1)) (by omega)
    clear hx
    rw [hbl.used (n - 1) (by omega)] at hc
    rw [hg] at ha
    simp only [Option.map_some] at ha
    subst ha
    rw [← hlen] at hc
    obtain ⟨m, rfl⟩ : ∃ m, n = m + 1 := ⟨n - 1, by omega⟩
    have e1 : min 512 (len - 512 * (m + 1 - 1)) = len - 512 * m := by omega
    rw [e1] at hc
    obtain ⟨u, hu⟩ : ∃ u, u = len - 512 * m := ⟨_, rfl⟩
    rw [← hu] at hc
    obtain rfl : len = 512 * m + u := by omega
    have hm : m ≤ 3000 := by omega
    have hu2 : u ≤ 512 := by omega
    clear hlen hu e1 hlo hhi hb hrow hbl hok hg h20
    rw [Nat.add_sub_cancel, Nat.mul_comm 513 m] at hc
    go_enter Try.func56, Try.ntmps56
    go_wp2
    go_ret
    exact ⟨ret_int (by omega), rfl⟩

end Go.Proofs.Ytgbbbjddooiaeaa
