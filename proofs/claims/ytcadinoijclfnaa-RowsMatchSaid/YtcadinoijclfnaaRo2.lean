/-
  Rows as lists of entries.
-/
import Derived.Test.YtcadinoijclfnaaAs4
namespace Go.Proofs.Ytcadinoijclfnaa
open Go.RowKit
set_option linter.unusedSimpArgs false
set_option linter.unusedVariables false

def DE.ent (x : DE) : Ent := ⟨x.t, x.k, x.s, x.st, x.da, x.dl, x.dc⟩
structure EnD where
  t : Int
  k : Int
  s : Int
  st : Int
  d : List Nat
deriving DecidableEq
/-- what an entry in memory says -/
def DE.pure (x : DE) : EnD := ⟨x.t, x.k, x.s, x.st, (List.range x.dl).map x.X⟩
theorem pure_sim {x y : DE} (h : x.pure = y.pure) : x.sim y := by
  unfold DE.pure at h
  injection h with h1 h2 h3 h4 h5
  have hl : x.dl = y.dl := by have := congrArg List.length h5; simpa using this
  refine ⟨h1, h2, h3, h4, hl, fun j hj => ?_⟩
  have := congrArg (fun l => l[j]?) h5
  simpa [hj, show j < y.dl by omega] using this
theorem sim_pure {x y : DE} (h : x.sim y) : x.pure = y.pure := by
  obtain ⟨h1, h2, h3, h4, h5, h6⟩ := h
  unfold DE.pure
  rw [h1, h2, h3, h4, ← h5]
  congr 1
  refine List.map_congr_left fun j hj => h6 j (by simpa using hj)
def EnD.ok (x : EnD) : Prop := -9223372036854775808 ≤ x.t ∧ x.t ≤ 9223372036854775807 ∧ -128 ≤ x.k ∧ x.k ≤ 127 ∧ -9223372036854775808 ≤ x.s ∧ x.s ≤ 9223372036854775807 ∧ 0 ≤ x.st ∧ x.st ≤ 255
/-- the list of entries that a value stands for -/
def RV (W : World) (v : Value) (L : List EnD) : Prop := ∃ (a : Option Addr) (c g o : Nat) (F : Nat → DE), v = .slice a L.length c ∧ DIn W a L.length c g o F ∧ (∀ k, k < L.length → L[k]? = some (F k).pure) ∧ (∀ x ∈ L, x.ok) ∧ L.length * 56 ≤ 140737488351232
theorem RV.below {W W' : World} {v : Value} {L : List EnD} (h : RV W v L) (hB : Below W.heap.size W W') : RV W' v L := by
  obtain ⟨a, c, g, o, F, e, h1, h2, h3, h4⟩ := h
  exact ⟨a, c, g, o, F, e, h1.below hB, h2, h3, h4⟩
theorem rv_nil (W : World) : RV W (.slice none 0 0) [] := ⟨none, 0, 0, 0, fun _ => ⟨0, 0, 0, 0, none, 0, 0, 0, 0, fun _ => 0⟩, rfl, ⟨Nat.le_refl _, Nat.zero_le _, fun h => absurd h (by simp), fun k h => absurd h (by simp), fun k h => absurd h (by simp)⟩, fun k h => absurd h (by simp), fun x h => absurd h (by simp), by simp⟩
theorem rv_ents {W : World} {a : Option Addr} {n c g o : Nat} {F : Nat → DE} {L : List EnD} (h : DIn W a n c g o F) (hn : n = L.length) (hp : ∀ k, k < n → L[k]? = some (F k).pure) (hok : ∀ x ∈ L, x.ok) (hf : n * 56 ≤ 140737488351232) : EntsIn W a n c g o (fun k => (F k).ent) := by
  refine ⟨h.le, h.max, hf, h.at_, fun k hk => ?_, fun k hk => ?_⟩
  · have hc := h.cell k hk
    exact ⟨hc 0 (by omega), hc 1 (by omega), hc 2 (by omega), hc 3 (by omega), hc 4 (by omega)⟩
  · have ho := hok _ (List.mem_of_getElem? (hp k hk))
    have hb := h.ld k hk
    unfold EnD.ok DE.pure at ho
    simp only at ho
    have b1 := hb.le
    have b2 := hb.max
    exact ⟨ho.1, ho.2.1, ho.2.2.1, ho.2.2.2.1, ho.2.2.2.2.1, ho.2.2.2.2.2.1, ho.2.2.2.2.2.2.1, ho.2.2.2.2.2.2.2, b1, b2⟩
def chkR : Int → List EnD → Bool
  | _, [] => true
  | t, x :: r => decide (t ≤ x.t) && entB x.k x.s x.st x.d.length && chkR x.t r
def okR (base term : Int) (L : List EnD) : Bool := headB base term L.length && chkR (max term 1) L
def okE (base term : Int) (L : List EnD) : Int := if okR base term L then 0 else 90
theorem chk_list {L : List EnD} {F : Nat → DE} (hp : ∀ k, k < L.length → L[k]? = some (F k).pure) : ∀ (n k : Nat) (t : Int), n = L.length - k → chk (fun k => (F k).ent) n k t = chkR t (L.drop k)
  | 0, k, t, h => by rw [List.drop_of_length_le (by omega)]; rfl
  | n + 1, k, t, h => by
    have hk : k < L.length := by omega
    have ih := chk_list hp n (k + 1) (F k).t (by omega)
    have hx : L[k] = (F k).pure := by have := hp k hk; rw [List.getElem?_eq_getElem hk] at this; exact Option.some.inj this
    rw [List.drop_eq_getElem_cons hk, hx]
    show (decide (t ≤ (F k).t) && entB (F k).k (F k).s (F k).st (F k).dl && chk (fun k => (F k).ent) n (k + 1) (F k).t) = _
    rw [ih]
    show _ = (decide (t ≤ (F k).pure.t) && entB (F k).pure.k (F k).pure.s (F k).pure.st (F k).pure.d.length && chkR (F k).pure.t (L.drop (k + 1)))
    rw [show (F k).pure.d.length = (F k).dl by simp [DE.pure]]
    rfl
theorem okR_rows {L : List EnD} {F : Nat → DE} (base term : Int) (hp : ∀ k, k < L.length → L[k]? = some (F k).pure) : rowsB base term L.length (fun k => (F k).ent) = okR base term L := by
  unfold rowsB okR
  rw [chk_list hp L.length 0 (max term 1) (by omega), List.drop_zero]
theorem okE_rows {L : List EnD} {F : Nat → DE} (base term : Int) (hp : ∀ k, k < L.length → L[k]? = some (F k).pure) : rowsE base term L.length (fun k => (F k).ent) = okE base term L := by
  unfold rowsE okE
  rw [okR_rows base term hp]
theorem checkR_any (base term : Int) (v : Value) (L : List EnD) (w : World) (h : RV w v L) : Calls Try.prog 25 #[.agg #[.int .i64 base, .int .i64 term, v]] w fun e w' => e = .returned (.int .i64 (okE base term L)) ∧ Below w.heap.size w w' := by
  obtain ⟨a, c, g, o, F, rfl, h1, h2, h3, h4⟩ := h
  have := check_any base term a L.length c g o (fun k => (F k).ent) w (rv_ents h1 rfl h2 h3 h4)
  rwa [okE_rows base term h2] at this
theorem rcheckR_any (base term : Int) (v : Value) (L : List EnD) (w : World) (h : RV w v L) : Calls Try.prog 21 #[.agg #[.int .i64 base, .int .i64 term, v]] w fun e w' => e = .returned (.int .i64 (okE base term L)) ∧ Below w.heap.size w w' := by
  obtain ⟨a, c, g, o, F, rfl, h1, h2, h3, h4⟩ := h
  have := rcheck_any base term a L.length c g o (fun k => (F k).ent) w (rv_ents h1 rfl h2 h3 h4)
  rwa [okE_rows base term h2] at this
/-- the bytes of each entry -/
def dlB (L : List EnD) : Prop := ∀ x ∈ L, x.d.length ≤ 1000000
theorem dl_of {L : List EnD} {F : Nat → DE} (hp : ∀ k, k < L.length → L[k]? = some (F k).pure) (hd : dlB L) : ∀ k, k < L.length → (F k).dl ≤ 1000000 := fun k hk => by
  have := hd _ (List.mem_of_getElem? (hp k hk))
  unfold DE.pure at this
  simpa using this
theorem copy_rv {W : World} {a : Option Addr} {c g : Nat} {F G : Nat → DE} {L : List EnD} (h : DIn W a L.length c g 0 G) (hs : ∀ k, k < L.length → (F k).sim (G k)) (hp : ∀ k, k < L.length → L[k]? = some (F k).pure) (hok : ∀ x ∈ L, x.ok) (hf : L.length * 56 ≤ 140737488351232) : RV W (.slice a L.length c) L :=
  ⟨a, c, g, 0, G, rfl, h, fun k hk => by rw [hp k hk, sim_pure (hs k hk)], hok, hf⟩
theorem twinsR_any (v : Value) (L : List EnD) (w : World) (h : RV w v L) (hn : L.length ≤ 5000) (hd : dlB L) : Calls Try.prog 36 #[v] w fun e w' => ∃ v', e = .returned v' ∧ RV w' v' L ∧ Below w.heap.size w w' := by
  obtain ⟨a, c, g, o, F, rfl, h1, h2, h3, h4⟩ := h
  refine (twins_any a L.length c g o F w h1 hn (dl_of h2 hd)).mono ?_
  rintro e w' ⟨a', c', g', G, rfl, k1, k2, hB⟩
  exact ⟨_, rfl, copy_rv k1 k2 h2 h3 h4, hB⟩
theorem copiedR_any (v : Value) (L : List EnD) (w : World) (h : RV w v L) (hn : L.length ≤ 5000) (hd : dlB L) : Calls Try.prog 38 #[v] w fun e w' => ∃ v', e = .returned v' ∧ RV w' v' L ∧ Below w.heap.size w w' := by
  obtain ⟨a, c, g, o, F, rfl, h1, h2, h3, h4⟩ := h
  refine (copied_any a L.length c g o F w h1 hn (dl_of h2 hd)).mono ?_
  rintro e w' ⟨a', c', g', G, rfl, k1, k2, hB⟩
  exact ⟨_, rfl, copy_rv k1 k2 h2 h3 h4, hB⟩
theorem sameR_any (v v' : Value) (L : List EnD) (w : World) (h : RV w v L) (h' : RV w v' L) (hn : L.length ≤ 5000) : Calls Try.prog 18 #[v, v'] w fun e w' => e = .returned (.bool true) ∧ Below w.heap.size w w' := by
  obtain ⟨a, c, g, o, F, rfl, h1, h2, h3, h4⟩ := h
  obtain ⟨a', c', g', o', G, rfl, k1, k2, k3, k4⟩ := h'
  exact sameEntries_any a L.length c g o F a' c' g' o' G w h1 k1 (fun k hk => pure_sim (Option.some.inj ((h2 k hk).symm.trans (k2 k hk)))) hn
/-- a piece of a list -/
theorem rv_slice {W : World} {a : Option Addr} {n c g o : Nat} {F : Nat → DE} {L : List EnD} (h : DIn W a n c g o F) (hn : n = L.length) (hp : ∀ k, k < n → L[k]? = some (F k).pure) (hok : ∀ x ∈ L, x.ok) (hf : n * 56 ≤ 140737488351232) (i m c' : Nat) (ad : Option Addr) (him : i + m ≤ n) (hm : m ≤ c') (hc : c' ≤ maxLen) (had : 0 < m → ad = some ⟨g, o + i * 5, none⟩) : RV W (.slice ad m c') ((L.drop i).take m) := by
  have hl : ((L.drop i).take m).length = m := by rw [List.length_take, List.length_drop]; omega
  refine ⟨ad, c', g, o + i * 5, fun k => F (i + k), by rw [hl], ?_, fun k hk => ?_, fun x hx => hok x (List.mem_of_mem_drop (List.mem_of_mem_take hx)), by rw [hl]; omega⟩
  · rw [hl]
    refine ⟨hm, hc, fun h0 => ⟨had h0, (h.at_ (by omega)).2⟩, fun k hk j hj => ?_, fun k hk => h.ld _ (by omega)⟩
    have := h.cell (i + k) (by omega) j hj
    rw [show o + i * 5 + k * 5 + j = o + (i + k) * 5 + j by omega]
    exact this
  · rw [hl] at hk
    rw [List.getElem?_take, if_pos hk, List.getElem?_drop]
    exact hp _ (by omega)
end Go.Proofs.Ytcadinoijclfnaa
