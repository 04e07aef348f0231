/-
  Package virtual: a time that is the same and shares nothing; the document's copy; two times that are the same.
-/
import Derived.Test.YtnainlemnkfpkaaVu4
namespace Go.Proofs.Ytnainlemnkfpkaa
open Go.RowKit
set_option linter.unusedSimpArgs false
set_option linter.unusedVariables false

theorem Row.drew {w : World} {v : Value} {ob : Option Nat} {e : TypeId} {size n : Nat} {xs : List Value} (h : Row w v ob e size n xs) : Row w.drew v ob e size n xs := h.congr fun _ _ => rfl
theorem addr_pl (b o j : Nat) : (⟨b, o, none⟩ : Addr).add j = ⟨b, o + j, none⟩ := by simp [Addr.add]
theorem news_at (W : World) (xs : Array Value) (e : TypeId) (j : Nat) (u : Value) (h : xs.toList[j]? = some u) : (W.alloc (.cells xs e)).cell? ((⟨W.heap.size, 0, none⟩ : Addr).add j) = some u := by
  have h1 : (W.alloc (.cells xs e)).heap[W.heap.size]? = some (.cells xs e (0, 0)) := heap_alloc_new W _
  have h2 := cell_at h1 (0 + j)
  rw [Nat.zero_add, ← Array.getElem?_toList, h] at h2
  have h3 : (⟨W.heap.size, 0, none⟩ : Addr).add j = ⟨W.heap.size, 0 + j, none⟩ := addr_pl _ _ _
  rw [h3, Nat.zero_add]
  exact h2
theorem eql_nil (w : World) (t e : TypeId) (a : Option Addr) (l c : Nat) (h : Try.prog.underlying t = some (.slice e)) : (binOp .eql t (.slice a l c) (.slice none 0 0)).run Try.prog w = .ok (.bool a.isNone) w := by
  simp [binOp, run_equal_slice_nil w t e a l c h]
theorem own_mono {w : World} {b b' : Nat} {e : TypeId} {size n : Nat} {v : Value} {xs : List Value} (h : w.ownsRow b e size v n xs) (hb : b' ≤ b) : w.ownsRow b' e size v n xs := by
  obtain ⟨h1, h2⟩ := h
  refine ⟨h1, ?_⟩
  rcases h2 with h2 | ⟨g, cap, cur, e1, e2, rest⟩
  · exact .inl h2
  · exact .inr ⟨g, cap, cur, e1, Nat.le_trans hb e2, rest⟩

theorem tagsL_of {w : World} {a : Option Addr} {n c b o : Nat} {T : Nat → TagsE} (h : TagsIn w a n c b o T) (j : Nat) (u : Value) (hu : (tagsL T n)[j]? = some u) : a = some ⟨b, o, none⟩ ∧ b < w.heap.size ∧ w.cell? ⟨b, o + j, none⟩ = some u := by
  have hj : j < n * 2 := by
    have := (List.getElem?_eq_some_iff.1 hu).1
    rwa [tagsL_len] at this
  have h1 := tagsL_at T n (j / 2) (j % 2) (by omega) (by omega)
  rw [show j / 2 * 2 + j % 2 = j by omega, hu] at h1
  obtain ⟨e1, e2⟩ := h.at_ (by omega)
  obtain ⟨c0, c1⟩ := h.cell (j / 2) (by omega)
  refine ⟨e1, e2, ?_⟩
  rcases (show j % 2 = 0 ∨ j % 2 = 1 by omega) with e | e
  · rw [e] at h1
    obtain rfl : u = .int .i64 (T (j / 2)).s := by simpa [TagsE.cells] using h1
    rw [show o + j = o + j / 2 * 2 by omega]
    exact c0
  · rw [e] at h1
    obtain rfl : u = .int .i64 (T (j / 2)).f := by simpa [TagsE.cells] using h1
    rw [show o + j = o + j / 2 * 2 + 1 by omega]
    exact c1
theorem tagsL_one (T : Nat → TagsE) (n : Nat) : ∀ u ∈ tagsL T n, u.oneCell' = true := fun u hu => by
  simp only [tagsL, List.mem_flatMap] at hu
  obtain ⟨p, _, hu⟩ := hu
  simp [TagsE.cells] at hu
  rcases hu with rfl | rfl <;> rfl

def CloneP (w : World) (n : Nat) (T : Nat → TagsE) (r : Ending) (w' : World) : Prop := ∃ a c ob, r = .returned (.slice a n c) ∧ Row w' (.slice a n c) ob 80 2 n (tagsL T n) ∧ Below w.heap.size w w' ∧ ∀ g, ob = some g → w.heap.size ≤ g

set_option maxHeartbeats 1000000 in
set_option maxRecDepth 100000 in
theorem clone_any (a : Option Addr) (n c b o : Nat) (T : Nat → TagsE) (w : World) (hs : TagsIn w a n c b o T) (hn : n * 16 ≤ 140737488351232) :
    Calls Try.prog 36 #[.slice a n c] w (CloneP w n T) := by
  cases a with
  | none =>
    have h0 : n = 0 := by
      rcases Nat.eq_zero_or_pos n with e | e
      · exact e
      · cases (hs.at_ e).1
    subst h0
    have heq := fun W n => eql_nil W 37 80 none n c Try.underlying37
    go_enter Try.func36, Try.ntmps36
    go_wp2
    go_ret
    exact ⟨_, _, none, rfl, Row.nil _ _ _, Below.refl _ _, fun g hg => (nomatch hg)⟩
  | some x =>
    have hc : ∀ j u, (tagsL T n)[j]? = some u → w.cell? (x.add j) = some u := fun j u hu => by
      obtain ⟨e1, e2, e3⟩ := tagsL_of hs j u hu
      obtain rfl := Option.some.inj e1
      rw [addr_pl]
      exact e3
    have hxl : ∀ j u, (tagsL T n)[j]? = some u → (x.add j).block < w.heap.size := fun j u hu => by
      obtain ⟨e1, e2, e3⟩ := tagsL_of hs j u hu
      obtain rfl := Option.some.inj e1
      rw [addr_pl]
      exact e2
    obtain ⟨i0, hi, hz0, hz1, hz2⟩ := info_parts infoTags
    have HI := Lib.hid hi
    have hlen := tagsL_len T n
    have hone := tagsL_one T n
    have HT : Hid (∀ v, v = tagsL T n → v = tagsL T n) := Lib.hid (fun _ h => h)
    obtain ⟨cs, hcs⟩ : ∃ cs, cs = tagsL T n := ⟨_, rfl⟩
    rw [← hcs] at hc hxl hlen hone
    have HC := Lib.hid hc
    have HX := Lib.hid hxl
    have HCS := Lib.hid hcs
    clear hs hi hcs hc hxl HT
    have heq := fun W => eql_nil W 37 80 (some x) n c Try.underlying37
    go_enter Try.func36, Try.ntmps36
    have hown0 : (w.alloc (.cells #[] 80)).ownsRow w.heap.size 80 2 (.slice (some ⟨w.heap.size, 0, none⟩) 0 0) 0 [] :=
      ⟨rfl, .inr ⟨w.heap.size, 0, #[], rfl, Nat.le_refl _, heap_alloc_new w _, Nat.le_refl _, Nat.zero_le _, rfl, rfl⟩⟩
    go_wp2_with (at_builtin; refine wpList_append_own _ rfl (.tmp 5) (.tmp 6) 37 rfl w.heap.size 80 i0 (.agg #[.int .i64 0, .int .i64 0]) 2 16 Try.underlying37 HI.out hz0 hz1 hz2 rfl (by decide) _ _ _ rfl hown0 x n c cs rfl hlen ?c1 ?c2 ?c3 ?c4 ?c5 ?_)
    case c1 =>
      intro j u hj
      exact (((Below.refl w.heap.size w).alloc (Nat.le_refl _) _).cell (HX.out j u hj)).trans (HC.out j u hj)
    case c2 => exact hone
    case c3 => unfold maxLen; omega
    case c4 => omega
    case c5 => simp
    intro v' w2 hown' hgrow _
    have hB : Below w.heap.size w w2 := ((Below.refl w.heap.size w).alloc (Nat.le_refl _) (.cells #[] 80)).grown hgrow (by simp) (fun j e => (hown0.lt j e).1)
    clear hgrow hown0
    have hown' : w2.ownsRow w.heap.size 80 2 v' n cs := by simpa using hown'
    have hRow : Row w2 v' v'.ownBlock 80 2 n cs := ⟨own_mono hown' (Nat.zero_le _), rfl⟩
    have hge : ∀ g, v'.ownBlock = some g → w.heap.size ≤ g := fun g hg => (hown'.lt g hg).1
    have HR := Lib.hid hRow
    obtain ⟨a2, c2, rfl, _, _, _⟩ := hRow.shape
    have HG := Lib.hid hge
    clear hRow hown' hge
    go_wp2
    go_ret
    exact ⟨_, _, _, rfl, by rw [← HCS.out]; exact HR.out, hB, HG.out⟩

set_option maxRecDepth 100000 in
set_option maxHeartbeats 4000000 in
theorem twin_any (V : Int) (a : Option Addr) (n c b o : Nat) (T : Nat → TagsE) (w : World) (hs : TagsIn w a n c b o T) (hn : n * 16 ≤ 140737488351232) :
    Calls Try.prog 48 #[.agg #[.int .i64 V, .slice a n c]] w fun e w' => ∃ v, e = .returned v ∧ VOut w w' v V n T := by
  have HB0 : Hid (Below w.heap.size w ((w.alloc (.cells #[.int .i64 V, .slice a n c] 39)).alloc (.cells #[.int .i64 0, .slice none 0 0] 39))) := Lib.hid (((Below.refl _ _).alloc (Nat.le_refl _) _).alloc (by simp) _)
  have C1 := Lib.hid (fun W h => clone_any a n c b o T W h hn)
  have HS := Lib.hid hs
  clear hs
  go_enter Try.func48, Try.ntmps48
  go_wp2_with (go_at_call 36; refine Calls.mono (C1.out _ (HS.out.below HB0.out)) ?_; rintro e W1 ⟨a1, c1, ob, rfl, hRow, hB, hO⟩; have T2 := tw2 (n := w.heap.size) hB rfl; obtain ⟨⟨r0, y0, z0⟩, ⟨r1, y1, z1⟩⟩ := T2; have HR := Lib.hid hRow; have HO := Lib.hid hO; have HBB := Lib.hid hB; clear hRow hO hB)
  refine bodyPost_ret (v := .agg #[.int .i64 V, .slice a1 n c1]) (by simp [results, Try.results48, go_sem, r0, r1, y0, y1, z0, z1]) rfl ⟨_, rfl, a1, c1, ob, rfl, ?_, ?_, ?_⟩
  · refine HR.out.congr fun g e => ?_
    have := HO.out g e
    simp at this
    repeat rw [heap_setCell_ne _ _ _ _ (by simp only; omega)]
  · intro g e
    have := HO.out g e
    simp at this
    omega
  · have h1 := HB0.out.trans (HBB.out.mono (by simp; omega))
    exact ((h1.setCell (Nat.le_refl _) _).setCell (by simp only; omega) _).setCell (by simp only; omega) _
end Go.Proofs.Ytnainlemnkfpkaa
