/-
  Rows of tenants: what append makes.
-/
import Derived.Test.YtpgpcgpecpimlaaPo9
import Derived.Test.YtpgpcgpecpimlaaPo2
import Derived.Deep.RegionLaw
namespace Go.Proofs.Ytpgpcgpecpimlaa
open Go.RowKit
set_option linter.unusedSimpArgs false
set_option linter.unusedVariables false

theorem op_append_run {P : Program} {o : Oper} {a : Act} {K : Act → World → Prop} {Q : Exit → Act → World → Prop} {w w' : World} (s x : Operand) (t : TypeId)
    (ho : o.op = .call { callee := .builtin .append, args := #[s, x], argTypes := #[t, t] }) {v y v' : Value} (hs : a.eval s = v) (hx : a.eval x = y)
    (hr : (Builtin.append_ #[t, t] o.type #[v, y]).run P w = .ok v' w') (h : K (a.put o.dst v') w') : Oper.wp P o a w K Q := by
  unfold Oper.wp execOp
  simp only [ho, resolve, invoke, builtin, Sem.run_bind, Sem.run_pure, Result.andThen_ok, List.map_toArray, List.map_cons, List.map_nil, hs, hx, hr]
  exact h
theorem listL_ones (L : List TnE) : ∀ u ∈ listL L, u.oneCell' = true := by
  intro u hu
  simp only [listL, List.mem_flatMap] at hu
  obtain ⟨y, _, hk⟩ := hu
  have : y.cells.all (fun u => u.oneCell') = true := rfl
  exact List.all_eq_true.1 this u hk
/-- a foreign piece of tenants -/
structure PcT (W : World) (a : Option Addr) (n c : Nat) (L : List TnE) : Prop where
  len : L.length = n
  at_ : 0 < n → ∃ b o, a = some ⟨b, o, none⟩ ∧ b < W.heap.size ∧ ∀ j u, (listL L)[j]? = some u → W.cell? ⟨b, o + j, none⟩ = some u
theorem PcT.below {W W' : World} {a : Option Addr} {n c : Nat} {L : List TnE} (h : PcT W a n c L) (hB : Below W.heap.size W W') : PcT W' a n c L :=
  ⟨h.len, fun hn => by
    obtain ⟨b, o, e, hb, hc⟩ := h.at_ hn
    exact ⟨b, o, e, by have := hB.size; omega, fun j u hu => (hB.cell (p := ⟨b, _, none⟩) hb).trans (hc j u hu)⟩⟩
theorem pct_in {W : World} {a : Option Addr} {n cap b o : Nat} {L : List TnE} (h : TnIn W a n cap b o (gt L)) (hn : n = L.length) (i j : Nat) (hij : i + j ≤ n) (hj : 0 < j) : ∀ q u, (listL ((L.drop i).take j))[q]? = some u → W.cell? ⟨b, o + i * 5 + q, none⟩ = some u := by
  intro q u hu
  have hq : q < j * 5 := by
    have := (List.getElem?_eq_some_iff.1 hu).1
    rw [listL_len] at this
    simp at this
    omega
  have e : (tnL (gt L) n)[i * 5 + q]? = some u := by
    rw [hn, ← tnL_gt]
    have h1 : listL L = listL (L.take i) ++ listL ((L.drop i).take j) ++ listL ((L.drop i).drop j) := by
      rw [← listL_append, ← listL_append, List.append_assoc, List.take_append_drop, List.take_append_drop]
    rw [h1, List.append_assoc, List.getElem?_append_right (by rw [listL_len]; simp; omega), listL_len, List.length_take, show min i L.length = i by omega, show i * 5 + q - i * 5 = q by omega, List.getElem?_append_left (by rw [listL_len]; simp; omega)]
    exact hu
  have := tn_at2 h (i * 5 + q) u e
  rwa [← Nat.add_assoc] at this
theorem pct_drop {W : World} {q : Addr} {n cap b o c : Nat} {L : List TnE} (h : TnIn W (some q) n cap b o (gt L)) (hn : n = L.length) (i : Nat) (hi : i ≤ n) (ad : Option Addr) (had : i < n → q = ⟨b, o, none⟩ → ad = some ⟨b, o + i * 5, none⟩) : PcT W ad (n - i) c (L.drop i) := by
  refine ⟨by simp [hn], fun h0 => ?_⟩
  obtain ⟨e0, e1⟩ := h.at_ (by omega)
  refine ⟨b, o + i * 5, had (by omega) (Option.some.inj e0), e1, fun j u hu => ?_⟩
  refine pct_in h hn i (n - i) (by omega) (by omega) j u ?_
  rw [List.take_of_length_le (by simp [hn])]
  exact hu
theorem full_take {W : World} {q : Addr} {n cap b o : Nat} {L : List TnE} (h : TnIn W (some q) n cap b o (gt L)) (hn : n = L.length) (p : Nat) (hp : p ≤ n) (x : Addr) (hx : some q = some x) : ∀ j u, (listL (L.take p))[j]? = some u → W.cell? (x.add j) = some u := by
  intro j u hu
  obtain rfl := Option.some.inj hx
  rcases Nat.eq_zero_or_pos p with rfl | h0
  · simp [listL] at hu
  · obtain ⟨e0, e1⟩ := h.at_ (by omega)
    obtain rfl := Option.some.inj e0
    rw [addr_add]
    have := pct_in h hn 0 p (by omega) h0 j u (by simpa using hu)
    simpa using this
/-- the first append: onto a full piece -/
theorem app_full {W : World} {ty : TypeId} {ao : Option Addr} {k : Nat} {L1 : List TnE} {M : Nat} {x : TnE} (hL : L1.length = k) (hk : k ≤ 1000) (hnone : ao = none → k = 0)
    (ho : ∀ q, ao = some q → ∀ j u, (listL L1)[j]? = some u → W.cell? (q.add j) = some u) (hx : ∀ j u, x.cells[j]? = some u → W.cell? ((⟨M, 0, none⟩ : Addr).add j) = some u) :
    ∃ v' ob' w', (Builtin.append_ #[60, 60] ty #[.slice ao k k, .slice (some ⟨M, 0, none⟩) 1 1]).run Try.prog W = .ok v' w' ∧ Row w' v' (some ob') 72 5 (L1 ++ [x]).length (listL (L1 ++ [x])) ∧ W.grownBy w' none ∧ W.heap.size ≤ ob' := by
  obtain ⟨i0, hi, hz0, hz1, hz2⟩ := info_parts tnZero
  have hxo : ∀ u ∈ x.cells, u.oneCell' = true := by
    intro u hu
    have : x.cells.all (fun u => u.oneCell') = true := rfl
    exact List.all_eq_true.1 this u hu
  have e1 : (L1 ++ [x]).length = k + 1 := by simp [hL]
  have e2 : listL (L1 ++ [x]) = listL L1 ++ x.cells := by rw [listL_append, listL_one]
  rw [e1, e2]
  cases ao with
  | none =>
    obtain rfl := hnone rfl
    obtain rfl : L1 = [] := List.eq_nil_of_length_eq_zero hL
    obtain ⟨v', ob', w', hr, h2, h3, h4⟩ := run_append_row (P := Try.prog) W 60 ty 72 i0 _ 5 40 Try.underlying60 hi hz0 hz1 hz2 rfl (by decide) _ none 0 [] (Row.nil _ _ _) ⟨M, 0, none⟩ 1 1 x.cells (by decide) rfl hx hxo (by decide) (by decide)
    exact ⟨v', ob', w', hr, h2, h3, by rcases h4 with h | h; cases h; omega⟩
  | some q =>
    obtain ⟨v', w', hrun, ⟨ol, hc⟩, hgr⟩ := run_append_arg_grows (P := Try.prog) W 60 ty 72 i0 _ 5 40 Try.underlying60 hi hz0 hz1 hz2 rfl (by decide) q k k (listL L1) (by rw [listL_len, hL]) (ho q rfl) ⟨M, 0, none⟩ 1 1 x.cells rfl hx (by omega) (by unfold maxLen; omega) (by omega)
    rcases hc with ⟨_, hz⟩ | ⟨g', cap', cur', rfl, k2, k3, k4, k5, k6, k7⟩
    · exact absurd hz (by omega)
    · exact ⟨_, g', w', hrun, Row.mk k3 k4 k5 k6 k7, hgr, k2⟩
/-- the second: a piece onto an own row -/
theorem app_row {W : World} {ty : TypeId} {v : Value} {ob : Nat} {n : Nat} {L1 L2 : List TnE} {a2 : Option Addr} {m c : Nat} (hr : Row W v (some ob) 72 5 n (listL L1)) (hn : n = L1.length) (hp : PcT W a2 m c L2) (h1 : L1.length + m ≤ 1000) :
    ∃ v' ob' w', (Builtin.append_ #[60, 60] ty #[v, .slice a2 m c]).run Try.prog W = .ok v' w' ∧ Row w' v' (some ob') 72 5 (L1 ++ L2).length (listL (L1 ++ L2)) ∧ W.grownBy w' (some ob) ∧ (ob' = ob ∨ W.heap.size ≤ ob') := by
  subst hn
  obtain ⟨i0, hi, hz0, hz1, hz2⟩ := info_parts tnZero
  rcases Nat.eq_zero_or_pos m with rfl | hm
  · have hL2 : L2 = [] := List.eq_nil_of_length_eq_zero hp.len
    rw [hL2, List.append_nil]
    exact ⟨v, ob, W, run_append_row_zero (P := Try.prog) (w := W) 60 ty 72 i0 5 Try.underlying60 hi v (some ob) _ _ hr a2 c, hr, ⟨rfl, rfl, rfl, Nat.le_refl _, fun _ _ _ => rfl⟩, .inl rfl⟩
  · obtain ⟨b, o, rfl, hb, hc⟩ := hp.at_ hm
    obtain ⟨v', ob', w', hrun, h2, h3, h4⟩ := run_append_row (P := Try.prog) W 60 ty 72 i0 _ 5 40 Try.underlying60 hi hz0 hz1 hz2 rfl (by decide) v (some ob) L1.length (listL L1) hr ⟨b, o, none⟩ m c (listL L2) hm (by rw [listL_len, hp.len]) (fun j u hu => by rw [addr_add]; exact hc j u hu) (listL_ones L2) (by unfold maxLen; omega) (by omega)
    refine ⟨v', ob', w', hrun, ?_, h3, ?_⟩
    · rw [listL_append, List.length_append, hp.len]
      exact h2
    · rcases h4 with h | h
      · exact .inl (Option.some.inj h).symm
      · exact .inr (by omega)
end Go.Proofs.Ytpgpcgpecpimlaa
