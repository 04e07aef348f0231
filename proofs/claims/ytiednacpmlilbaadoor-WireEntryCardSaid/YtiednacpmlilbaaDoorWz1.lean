/-
  Things as bytes, and back: as data (for package wire and the document's answer).
-/
import Derived.Test.YtiednacpmlilbaaDoorLib
namespace Go.Proofs.YtiednacpmlilbaaDoor

def u64 (n : Int) : Nat := (n % 18446744073709551616).toNat
def i64 (v : Nat) : Int := if v < 9223372036854775808 then (v : Int) else (v : Int) - 18446744073709551616
/-- a number's eight bytes, the highest first -/
def e8 (n : Int) : List Nat := [u64 n / 72057594037927936 % 256, u64 n / 281474976710656 % 256, u64 n / 1099511627776 % 256, u64 n / 4294967296 % 256, u64 n / 16777216 % 256, u64 n / 65536 % 256, u64 n / 256 % 256, u64 n % 256]
def d8 (l : List Nat) : Int := i64 (l.foldl (fun a x => a * 256 + x) 0)
theorem e8_len (n : Int) : (e8 n).length = 8 := rfl
theorem e8_bd (n : Int) : ∀ x ∈ e8 n, x < 256 := by
  intro x hx
  simp only [e8, List.mem_cons, List.not_mem_nil, or_false] at hx
  rcases hx with rfl | rfl | rfl | rfl | rfl | rfl | rfl | rfl <;> exact Nat.mod_lt _ (by omega)
theorem u64_lt (n : Int) : u64 n < 18446744073709551616 := by unfold u64; omega
theorem i64_u64 {n : Int} (h : -9223372036854775808 ≤ n ∧ n ≤ 9223372036854775807) : i64 (u64 n) = n := by unfold i64 u64; omega
theorem u64_i64 {v : Nat} (h : v < 18446744073709551616) : u64 (i64 v) = v ∧ (-9223372036854775808 ≤ i64 v ∧ i64 v ≤ 9223372036854775807) := by unfold i64 u64; split <;> omega
theorem eight (v : Nat) (h : v < 18446744073709551616) : (((((((v / 72057594037927936 % 256 * 256 + v / 281474976710656 % 256) * 256 + v / 1099511627776 % 256) * 256 + v / 4294967296 % 256) * 256 + v / 16777216 % 256) * 256 + v / 65536 % 256) * 256 + v / 256 % 256) * 256 + v % 256) = v := by
  have st : ∀ k : Nat, v / (k * 256) * 256 + v / k % 256 = v / k := fun k => by rw [← Nat.div_div_eq_div_mul]; omega
  have h1 : v / 256 * 256 + v % 256 = v := by omega
  have h2 := st 256
  have h3 := st 65536
  have h4 := st 16777216
  have h5 := st 4294967296
  have h6 := st 1099511627776
  have h7 := st 281474976710656
  simp only [Nat.reduceMul] at h2 h3 h4 h5 h6 h7
  have h8 : v / 72057594037927936 % 256 = v / 72057594037927936 := Nat.mod_eq_of_lt (Nat.div_lt_of_lt_mul h)
  rw [h8, h7, h6, h5, h4, h3, h2, h1]
theorem d8_e8 {n : Int} (h : -9223372036854775808 ≤ n ∧ n ≤ 9223372036854775807) : d8 (e8 n) = n := by
  unfold d8 e8
  simp only [List.foldl_cons, List.foldl_nil, Nat.zero_mul, Nat.zero_add]
  rw [eight _ (u64_lt n), i64_u64 h]
theorem e8_d8 {l : List Nat} (hl : l.length = 8) (hb : ∀ x ∈ l, x < 256) : e8 (d8 l) = l ∧ (-9223372036854775808 ≤ d8 l ∧ d8 l ≤ 9223372036854775807) := by
  match l, hl with
  | [a, b, c, d, e, f, g, h], _ =>
    have ha := hb a (by simp)
    have hb' := hb b (by simp)
    have hc := hb c (by simp)
    have hd := hb d (by simp)
    have he := hb e (by simp)
    have hf := hb f (by simp)
    have hg := hb g (by simp)
    have hh := hb h (by simp)
    unfold d8
    simp only [List.foldl_cons, List.foldl_nil, Nat.zero_mul, Nat.zero_add]
    obtain ⟨v, hv⟩ : ∃ v, v = ((((((a * 256 + b) * 256 + c) * 256 + d) * 256 + e) * 256 + f) * 256 + g) * 256 + h := ⟨_, rfl⟩
    rw [← hv]
    have hlt : v < 18446744073709551616 := by omega
    obtain ⟨h1, h2⟩ := u64_i64 hlt
    refine ⟨?_, h2⟩
    unfold e8
    rw [h1]
    have e1 : v / 72057594037927936 % 256 = a := by omega
    have e2 : v / 281474976710656 % 256 = b := by omega
    have e3 : v / 1099511627776 % 256 = c := by omega
    have e4 : v / 4294967296 % 256 = d := by omega
    have e5 : v / 16777216 % 256 = e := by omega
    have e6 : v / 65536 % 256 = f := by omega
    have e7 : v / 256 % 256 = g := by omega
    have e9 : v % 256 = h := by omega
    rw [e1, e2, e3, e4, e5, e6, e7, e9]
/-- the kinds of parts -/
inductive WF
  | num
  | small
  | set
  | truth
  | text
/-- a part -/
inductive WD
  | i (n : Int)
  | b (l : List Nat)
def WD.ok : WF → WD → Prop
  | .num, .i n => -9223372036854775808 ≤ n ∧ n ≤ 9223372036854775807
  | .small, .i n => -128 ≤ n ∧ n ≤ 127
  | .set, .i n => 0 ≤ n ∧ n ≤ 255
  | .truth, .i n => n = 0 ∨ n = 1
  | .text, .b l => l.length ≤ 9223372036854775807 ∧ ∀ x ∈ l, x < 256
  | _, _ => False
def u8 (n : Int) : Nat := (n % 256).toNat
def i8 (v : Nat) : Int := if v < 128 then (v : Int) else (v : Int) - 256
def encF : WF → WD → List Nat
  | .num, .i n => e8 n
  | .small, .i n => [u8 n]
  | .set, .i n => [n.toNat]
  | .truth, .i n => [n.toNat]
  | .text, .b l => e8 (l.length : Nat) ++ l
  | _, _ => []
/-- so many bytes, or the place of the first that can't stand there -/
def takeB (b : List Nat) (at_ n : Nat) : Except Nat (List Nat) := if n + at_ ≤ b.length then .ok ((b.drop at_).take n) else .error b.length
def numB (b : List Nat) (at_ : Nat) : Except Nat Int := match takeB b at_ 8 with
  | .ok l => .ok (d8 l)
  | .error e => .error e
/-- how many: a list's length, where so many may stand behind -/
def cntB (b : List Nat) (at_ least : Nat) : Except Nat Nat := match numB b at_ with
  | .ok n => if 0 ≤ n ∧ n ≤ (((b.length - (at_ + 8)) / least : Nat) : Int) then .ok n.toNat else .error at_
  | .error e => .error e
def decF (b : List Nat) (at_ : Nat) : WF → Except Nat (WD × Nat)
  | .num => match numB b at_ with
    | .ok n => .ok (.i n, at_ + 8)
    | .error e => .error e
  | .small => match takeB b at_ 1 with
    | .ok l => .ok (.i (i8 (l.headD 0)), at_ + 1)
    | .error e => .error e
  | .set => match takeB b at_ 1 with
    | .ok l => .ok (.i (l.headD 0 : Nat), at_ + 1)
    | .error e => .error e
  | .truth => match takeB b at_ 1 with
    | .ok l => if l.headD 0 ≤ 1 then .ok (.i (l.headD 0 : Nat), at_ + 1) else .error at_
    | .error e => .error e
  | .text => match cntB b at_ 1 with
    | .ok n => .ok (.b ((b.drop (at_ + 8)).take n), at_ + 8 + n)
    | .error e => .error e
theorem takeB_mid (p l q : List Nat) : takeB (p ++ l ++ q) p.length l.length = .ok l := by
  unfold takeB
  rw [if_pos (by simp; omega), List.append_assoc, List.drop_left, List.take_left]
theorem takeB_ok {b : List Nat} {at_ n : Nat} {l : List Nat} (h : takeB b at_ n = .ok l) : n + at_ ≤ b.length ∧ l.length = n ∧ b.drop at_ = l ++ b.drop (at_ + n) := by
  unfold takeB at h
  split at h
  · rename_i hl
    injection h with h
    subst h
    refine ⟨hl, by rw [List.length_take, List.length_drop]; omega, ?_⟩
    rw [← List.drop_drop, List.take_append_drop]
  · cases h
theorem cnt_mid {p q : List Nat} {n least : Nat} (hn : n ≤ 9223372036854775807) (hq : 0 < least ∧ n * least ≤ q.length) : cntB (p ++ e8 (n : Nat) ++ q) p.length least = .ok n := by
  unfold cntB numB
  rw [show (8 : Nat) = (e8 (n : Nat)).length from rfl, takeB_mid]
  simp only
  rw [d8_e8 (by omega), if_pos, Int.toNat_natCast]
  refine ⟨by omega, ?_⟩
  have h1 : n ≤ ((p ++ e8 (n : Nat) ++ q).length - (p.length + (e8 (n : Nat)).length)) / least := by
    rw [Nat.le_div_iff_mul_le hq.1]
    simp only [List.length_append]
    omega
  omega
theorem i8_u8 {n : Int} (h : -128 ≤ n ∧ n ≤ 127) : i8 (u8 n) = n := by unfold i8 u8; omega
theorem u8_i8 {v : Nat} (h : v < 256) : u8 (i8 v) = v ∧ (-128 ≤ i8 v ∧ i8 v ≤ 127) := by unfold i8 u8; split <;> omega
/-- what was written is read -/
theorem dec_enc {f : WF} {d : WD} (h : d.ok f) (p q : List Nat) : decF (p ++ encF f d ++ q) p.length f = .ok (d, p.length + (encF f d).length) := by
  cases f <;> cases d <;> simp only [WD.ok] at h
  · rename_i n
    show (match numB (p ++ e8 n ++ q) p.length with | .ok n => Except.ok (WD.i n, p.length + 8) | .error e => .error e) = _
    unfold numB
    rw [show (8 : Nat) = (e8 n).length from rfl, takeB_mid]
    simp only
    rw [d8_e8 h]
    rfl
  · rename_i n
    show (match takeB (p ++ [u8 n] ++ q) p.length 1 with | .ok l => Except.ok (WD.i (i8 (l.headD 0)), p.length + 1) | .error e => .error e) = _
    rw [show (1 : Nat) = [u8 n].length from rfl, takeB_mid]
    simp only [List.headD_cons]
    rw [i8_u8 h]
    rfl
  · rename_i n
    show (match takeB (p ++ [n.toNat] ++ q) p.length 1 with | .ok l => Except.ok (WD.i (l.headD 0 : Nat), p.length + 1) | .error e => .error e) = _
    rw [show (1 : Nat) = [n.toNat].length from rfl, takeB_mid]
    simp only [List.headD_cons]
    rw [Int.toNat_of_nonneg h.1]
    rfl
  · rename_i n
    show (match takeB (p ++ [n.toNat] ++ q) p.length 1 with | .ok l => if l.headD 0 ≤ 1 then Except.ok (WD.i (l.headD 0 : Nat), p.length + 1) else .error p.length | .error e => .error e) = _
    rw [show takeB (p ++ [n.toNat] ++ q) p.length 1 = .ok [n.toNat] from takeB_mid p [n.toNat] q]
    show (if n.toNat ≤ 1 then Except.ok (WD.i (n.toNat : Nat), p.length + 1) else .error p.length) = _
    rw [if_pos (by omega), Int.toNat_of_nonneg (by omega)]
    rfl
  · rename_i l
    have hc : cntB (p ++ (e8 (l.length : Nat) ++ l) ++ q) p.length 1 = .ok l.length := by
      have := cnt_mid (p := p) (q := l ++ q) (n := l.length) (least := 1) h.1 ⟨by omega, by simp⟩
      rw [← List.append_assoc, List.append_assoc (p ++ _)]
      exact this
    show (match cntB (p ++ (e8 (l.length : Nat) ++ l) ++ q) p.length 1 with | .ok n => Except.ok (WD.b (((p ++ (e8 (l.length : Nat) ++ l) ++ q).drop (p.length + 8)).take n), p.length + 8 + n) | .error e => .error e) = _
    rw [hc]
    simp only
    have e1 : (p ++ (e8 (l.length : Nat) ++ l) ++ q).drop (p.length + 8) = l ++ q := by
      rw [← List.drop_drop, List.append_assoc, List.drop_left, List.append_assoc]
      exact List.drop_left' (e8_len _)
    rw [e1, List.take_left]
    congr 1
    show (WD.b l, _) = (WD.b l, p.length + (e8 (l.length : Nat) ++ l).length)
    rw [List.length_append, e8_len]
    congr 1
    omega
theorem mem_drop {b : List Nat} (hb : ∀ x ∈ b, x < 256) (n m : Nat) : ∀ x ∈ (b.drop n).take m, x < 256 := fun x hx => hb x (List.mem_of_mem_drop (List.mem_of_mem_take hx))
/-- what was read stands there as it is written -/
theorem enc_dec {b : List Nat} (hb : ∀ x ∈ b, x < 256) (hl : b.length ≤ 9223372036854775807) {at_ at' : Nat} {f : WF} {d : WD} (h : decF b at_ f = .ok (d, at')) : d.ok f ∧ at' ≤ b.length ∧ at_ < at' ∧ b.drop at_ = encF f d ++ b.drop at' := by
  have hT : ∀ {n : Nat} {l : List Nat}, takeB b at_ n = .ok l → ∀ x ∈ l, x < 256 := fun {n l} h x hx => by
    obtain ⟨_, _, h3⟩ := takeB_ok h
    exact hb x (List.mem_of_mem_drop (i := at_) (by rw [h3]; exact List.mem_append.2 (.inl hx)))
  cases f
  · unfold decF numB at h
    cases ht : takeB b at_ 8 with
    | error e => rw [ht] at h; cases h
    | ok l =>
      rw [ht] at h
      injection h with h
      injection h with h1 h2
      subst h1 h2
      obtain ⟨g1, g2, g3⟩ := takeB_ok ht
      obtain ⟨e1, e2⟩ := e8_d8 g2 (hT ht)
      exact ⟨e2, by omega, by omega, by show _ = e8 (d8 l) ++ _; rw [e1, g3]⟩
  · unfold decF at h
    cases ht : takeB b at_ 1 with
    | error e => rw [ht] at h; cases h
    | ok l =>
      rw [ht] at h
      injection h with h
      injection h with h1 h2
      subst h1 h2
      obtain ⟨g1, g2, g3⟩ := takeB_ok ht
      match l, g2 with
      | [x], _ =>
        have hx := hT ht x (by simp)
        obtain ⟨e1, e2⟩ := u8_i8 hx
        exact ⟨e2, by omega, by omega, by show _ = [u8 (i8 x)] ++ _; rw [e1, g3]⟩
  · unfold decF at h
    cases ht : takeB b at_ 1 with
    | error e => rw [ht] at h; cases h
    | ok l =>
      rw [ht] at h
      injection h with h
      injection h with h1 h2
      subst h1 h2
      obtain ⟨g1, g2, g3⟩ := takeB_ok ht
      match l, g2 with
      | [x], _ =>
        have hx := hT ht x (by simp)
        exact ⟨by show 0 ≤ ((x : Nat) : Int) ∧ ((x : Nat) : Int) ≤ 255; omega, by omega, by omega, g3⟩
  · unfold decF at h
    cases ht : takeB b at_ 1 with
    | error e => rw [ht] at h; cases h
    | ok l =>
      rw [ht] at h
      obtain ⟨g1, g2, g3⟩ := takeB_ok ht
      match l, g2 with
      | [x], _ =>
        have h' : (if x ≤ 1 then Except.ok (WD.i (x : Nat), at_ + 1) else .error at_) = .ok (d, at') := h
        by_cases hx1 : x ≤ 1
        · rw [if_pos hx1] at h'
          injection h' with h'
          injection h' with h1 h2
          subst h1 h2
          exact ⟨by show ((x : Nat) : Int) = 0 ∨ ((x : Nat) : Int) = 1; omega, by omega, by omega, g3⟩
        · rw [if_neg hx1] at h'; cases h'
  · unfold decF at h
    cases hc : cntB b at_ 1 with
    | error e => rw [hc] at h; cases h
    | ok n =>
      rw [hc] at h
      injection h with h
      injection h with h1 h2
      subst h1 h2
      unfold cntB numB at hc
      cases ht : takeB b at_ 8 with
      | error e => rw [ht] at hc; cases hc
      | ok l =>
        rw [ht] at hc
        simp only at hc
        split at hc
        · rename_i hn
          injection hc with hc
          obtain ⟨g1, g2, g3⟩ := takeB_ok ht
          obtain ⟨e1, e2⟩ := e8_d8 g2 (hT ht)
          have hle : n ≤ b.length - (at_ + 8) := by
            have := hn.2
            rw [Nat.div_one] at this
            omega
          have hdn : d8 l = (n : Int) := by omega
          have hlen : ((b.drop (at_ + 8)).take n).length = n := by rw [List.length_take, List.length_drop]; omega
          refine ⟨⟨by rw [hlen]; omega, mem_drop hb _ _⟩, by omega, by omega, ?_⟩
          show _ = (e8 (((b.drop (at_ + 8)).take n).length : Nat) ++ (b.drop (at_ + 8)).take n) ++ b.drop (at_ + 8 + n)
          rw [hlen, ← hdn, e1, List.append_assoc, g3, ← List.drop_drop (i := n), List.take_append_drop]
        · cases hc
end Go.Proofs.YtiednacpmlilbaaDoor
