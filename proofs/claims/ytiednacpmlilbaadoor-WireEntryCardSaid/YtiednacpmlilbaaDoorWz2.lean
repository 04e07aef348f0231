/-
  Forms as bytes, and back: as data.
-/
import Derived.Test.YtiednacpmlilbaaDoorWz1
namespace Go.Proofs.YtiednacpmlilbaaDoor

def minF : WF → Nat
  | .num => 8
  | .small => 1
  | .set => 1
  | .truth => 1
  | .text => 8
def minL : List WF → Nat
  | [] => 0
  | f :: l => minF f + minL l
def okFs : List WF → List WD → Prop
  | [], [] => True
  | f :: fs, d :: ds => d.ok f ∧ okFs fs ds
  | _, _ => False
def encFs : List WF → List WD → List Nat
  | f :: fs, d :: ds => encF f d ++ encFs fs ds
  | _, _ => []
def decFs (b : List Nat) : Nat → List WF → Except Nat (List WD × Nat)
  | at_, [] => .ok ([], at_)
  | at_, f :: fs => match decF b at_ f with
    | .error e => .error e
    | .ok (d, a2) => match decFs b a2 fs with
      | .error e => .error e
      | .ok (ds, a3) => .ok (d :: ds, a3)
def encIs (fs : List WF) : List (List WD) → List Nat
  | [] => []
  | d :: l => encFs fs d ++ encIs fs l
def decIs (b : List Nat) (fs : List WF) : Nat → Nat → Except Nat (List (List WD) × Nat)
  | at_, 0 => .ok ([], at_)
  | at_, n + 1 => match decFs b at_ fs with
    | .error e => .error e
    | .ok (d, a2) => match decIs b fs a2 n with
      | .error e => .error e
      | .ok (l, a3) => .ok (d :: l, a3)
/-- a part of a form: one, or a list of things of parts -/
inductive WT
  | one (f : WF)
  | list (fs : List WF)
inductive WV
  | one (d : WD)
  | list (l : List (List WD))
def okV : WT → WV → Prop
  | .one f, .one d => d.ok f
  | .list fs, .list l => l.length ≤ 9223372036854775807 ∧ 0 < minL fs ∧ ∀ d ∈ l, okFs fs d
  | _, _ => False
def encV : WT → WV → List Nat
  | .one f, .one d => encF f d
  | .list fs, .list l => e8 (l.length : Nat) ++ encIs fs l
  | _, _ => []
def decV (b : List Nat) (at_ : Nat) : WT → Except Nat (WV × Nat)
  | .one f => match decF b at_ f with
    | .error e => .error e
    | .ok (d, a2) => .ok (.one d, a2)
  | .list fs => match cntB b at_ (minL fs) with
    | .error e => .error e
    | .ok n => match decIs b fs (at_ + 8) n with
      | .error e => .error e
      | .ok (l, a2) => .ok (.list l, a2)
def okForm : List WT → List WV → Prop
  | [], [] => True
  | f :: fs, d :: ds => okV f d ∧ okForm fs ds
  | _, _ => False
def encForm : List WT → List WV → List Nat
  | f :: fs, d :: ds => encV f d ++ encForm fs ds
  | _, _ => []
def decForm (b : List Nat) : Nat → List WT → Except Nat (List WV × Nat)
  | at_, [] => .ok ([], at_)
  | at_, f :: fs => match decV b at_ f with
    | .error e => .error e
    | .ok (d, a2) => match decForm b a2 fs with
      | .error e => .error e
      | .ok (ds, a3) => .ok (d :: ds, a3)
/-- what a form finds in bytes, all of them -/
def readW (fs : List WT) (b : List Nat) : Except Nat (List WV) := match decForm b 0 fs with
  | .error e => .error e
  | .ok (ds, a) => if a < b.length then .error a else .ok ds
theorem encF_min {f : WF} {d : WD} (h : d.ok f) : minF f ≤ (encF f d).length := by
  cases f <;> cases d <;> simp only [WD.ok] at h <;> simp [encF, minF, e8_len]
theorem decFs_enc : ∀ {fs : List WF} {ds : List WD}, okFs fs ds → ∀ p q : List Nat, decFs (p ++ encFs fs ds ++ q) p.length fs = .ok (ds, p.length + (encFs fs ds).length)
  | [], [], _, p, q => rfl
  | [], _ :: _, h, _, _ => h.elim
  | _ :: _, [], h, _, _ => h.elim
  | f :: fs, d :: ds, h, p, q => by
    have h1 := dec_enc h.1 p (encFs fs ds ++ q)
    have h2 := decFs_enc h.2 (p ++ encF f d) q
    rw [List.length_append] at h2
    have e1 : p ++ encFs (f :: fs) (d :: ds) ++ q = p ++ encF f d ++ (encFs fs ds ++ q) := by simp [encFs]
    have e2 : p ++ encF f d ++ encFs fs ds ++ q = p ++ encF f d ++ (encFs fs ds ++ q) := by simp
    rw [e2] at h2
    rw [e1, decFs, h1]
    simp only
    rw [h2]
    simp [encFs]
    omega
theorem encFs_min : ∀ {fs : List WF} {ds : List WD}, okFs fs ds → minL fs ≤ (encFs fs ds).length
  | [], [], _ => by simp [minL]
  | [], _ :: _, h => h.elim
  | _ :: _, [], h => h.elim
  | f :: fs, d :: ds, h => by
    have h1 := encF_min h.1
    have h2 := encFs_min h.2
    rw [minL, encFs, List.length_append]
    omega
theorem encIs_min {fs : List WF} : ∀ {l : List (List WD)}, (∀ d ∈ l, okFs fs d) → l.length * minL fs ≤ (encIs fs l).length
  | [], _ => by simp
  | d :: l, h => by
    have h1 := encFs_min (h d (by simp))
    have h2 := encIs_min (l := l) (fun d' hd => h d' (List.mem_cons_of_mem _ hd))
    rw [encIs, List.length_append, List.length_cons, Nat.succ_mul]
    omega
theorem decIs_enc {fs : List WF} : ∀ {l : List (List WD)}, (∀ d ∈ l, okFs fs d) → ∀ p q : List Nat, decIs (p ++ encIs fs l ++ q) fs p.length l.length = .ok (l, p.length + (encIs fs l).length)
  | [], _, p, q => rfl
  | d :: l, h, p, q => by
    have h1 := decFs_enc (h d (by simp)) p (encIs fs l ++ q)
    have h2 := decIs_enc (l := l) (fun d' hd => h d' (List.mem_cons_of_mem _ hd)) (p ++ encFs fs d) q
    rw [List.length_append] at h2
    have e1 : p ++ encIs fs (d :: l) ++ q = p ++ encFs fs d ++ (encIs fs l ++ q) := by simp [encIs]
    have e2 : p ++ encFs fs d ++ encIs fs l ++ q = p ++ encFs fs d ++ (encIs fs l ++ q) := by simp
    rw [e2] at h2
    rw [e1, List.length_cons, decIs, h1]
    simp only
    rw [h2]
    simp [encIs]
    omega
theorem decV_enc {f : WT} {v : WV} (h : okV f v) (p q : List Nat) : decV (p ++ encV f v ++ q) p.length f = .ok (v, p.length + (encV f v).length) := by
  cases f <;> cases v <;> simp only [okV] at h
  · rename_i f d
    show (match decF (p ++ encF f d ++ q) p.length f with | .error e => Except.error e | .ok (d, a2) => .ok (WV.one d, a2)) = _
    rw [dec_enc h p q]
    rfl
  · rename_i fs l
    obtain ⟨h1, h2, h3⟩ := h
    have hc : cntB (p ++ (e8 (l.length : Nat) ++ encIs fs l) ++ q) p.length (minL fs) = .ok l.length := by
      have := cnt_mid (p := p) (q := encIs fs l ++ q) (n := l.length) (least := minL fs) h1 ⟨h2, by have := encIs_min h3; rw [List.length_append]; omega⟩
      rw [← List.append_assoc, List.append_assoc (p ++ _)]
      exact this
    have hd := decIs_enc h3 (p ++ e8 (l.length : Nat)) q
    rw [List.length_append, e8_len] at hd
    rw [List.append_assoc p] at hd
    show (match cntB (p ++ (e8 (l.length : Nat) ++ encIs fs l) ++ q) p.length (minL fs) with | .error e => Except.error e | .ok n => match decIs (p ++ (e8 (l.length : Nat) ++ encIs fs l) ++ q) fs (p.length + 8) n with | .error e => .error e | .ok (l, a2) => .ok (WV.list l, a2)) = _
    rw [hc]
    simp only
    rw [hd]
    simp only
    show Except.ok (WV.list l, _) = Except.ok (WV.list l, p.length + (e8 (l.length : Nat) ++ encIs fs l).length)
    rw [List.length_append, e8_len, Nat.add_assoc]
theorem decForm_enc : ∀ {fs : List WT} {ds : List WV}, okForm fs ds → ∀ p q : List Nat, decForm (p ++ encForm fs ds ++ q) p.length fs = .ok (ds, p.length + (encForm fs ds).length)
  | [], [], _, p, q => rfl
  | [], _ :: _, h, _, _ => h.elim
  | _ :: _, [], h, _, _ => h.elim
  | f :: fs, d :: ds, h, p, q => by
    have h1 := decV_enc h.1 p (encForm fs ds ++ q)
    have h2 := decForm_enc h.2 (p ++ encV f d) q
    rw [List.length_append] at h2
    have e1 : p ++ encForm (f :: fs) (d :: ds) ++ q = p ++ encV f d ++ (encForm fs ds ++ q) := by simp [encForm]
    have e2 : p ++ encV f d ++ encForm fs ds ++ q = p ++ encV f d ++ (encForm fs ds ++ q) := by simp
    rw [e2] at h2
    rw [e1, decForm, h1]
    simp only
    rw [h2]
    simp [encForm]
    omega
/-- what was written is read -/
theorem read_enc {fs : List WT} {ds : List WV} (h : okForm fs ds) : readW fs (encForm fs ds) = .ok ds := by
  have := decForm_enc h [] []
  simp only [List.nil_append, List.append_nil, List.length_nil, Nat.zero_add] at this
  unfold readW
  rw [this]
  simp
set_option linter.unusedSectionVars false
section
variable {b : List Nat} (hb : ∀ x ∈ b, x < 256) (hl : b.length ≤ 9223372036854775807)
include hb hl
theorem enc_decFs : ∀ {fs : List WF} {at_ at' : Nat} {ds : List WD}, at_ ≤ b.length → decFs b at_ fs = .ok (ds, at') → okFs fs ds ∧ at' ≤ b.length ∧ at_ + minL fs ≤ at' ∧ b.drop at_ = encFs fs ds ++ b.drop at'
  | [], at_, at', ds, ha, h => by
    injection h with h
    injection h with h1 h2
    subst h1 h2
    exact ⟨trivial, ha, by simp [minL], rfl⟩
  | f :: fs, at_, at', ds, ha, h => by
    rw [decFs] at h
    cases h1 : decF b at_ f with
    | error e => rw [h1] at h; cases h
    | ok x =>
      obtain ⟨d, a2⟩ := x
      rw [h1] at h
      simp only at h
      cases h2 : decFs b a2 fs with
      | error e => rw [h2] at h; cases h
      | ok y =>
        obtain ⟨ds2, a3⟩ := y
        rw [h2] at h
        injection h with h
        injection h with e1 e2
        subst e1 e2
        obtain ⟨g1, g2, g3, g4⟩ := enc_dec hb hl h1
        obtain ⟨k1, k2, k3, k4⟩ := enc_decFs g2 h2
        have hm := encF_min g1
        have hlen := congrArg List.length g4
        rw [List.length_append, List.length_drop, List.length_drop] at hlen
        exact ⟨⟨g1, k1⟩, k2, by rw [minL]; omega, by rw [g4, k4, encFs, List.append_assoc]⟩
theorem enc_decIs {fs : List WF} : ∀ {n at_ at' : Nat} {l : List (List WD)}, at_ ≤ b.length → decIs b fs at_ n = .ok (l, at') → (∀ d ∈ l, okFs fs d) ∧ l.length = n ∧ at' ≤ b.length ∧ at_ ≤ at' ∧ b.drop at_ = encIs fs l ++ b.drop at'
  | 0, at_, at', l, ha, h => by
    injection h with h
    injection h with h1 h2
    subst h1 h2
    exact ⟨by simp, rfl, ha, Nat.le_refl _, rfl⟩
  | n + 1, at_, at', l, ha, h => by
    rw [decIs] at h
    cases h1 : decFs b at_ fs with
    | error e => rw [h1] at h; cases h
    | ok x =>
      obtain ⟨d, a2⟩ := x
      rw [h1] at h
      simp only at h
      cases h2 : decIs b fs a2 n with
      | error e => rw [h2] at h; cases h
      | ok y =>
        obtain ⟨l2, a3⟩ := y
        rw [h2] at h
        injection h with h
        injection h with e1 e2
        subst e1 e2
        obtain ⟨g1, g2, g3, g4⟩ := enc_decFs hb hl ha h1
        obtain ⟨k1, k2, k3, k4, k5⟩ := enc_decIs g2 h2
        refine ⟨fun d' hd => ?_, by simp [k2], k3, by omega, by rw [g4, k5, encIs, List.append_assoc]⟩
        rcases List.mem_cons.1 hd with rfl | hd
        · exact g1
        · exact k1 d' hd
theorem cnt_ok {at_ least n : Nat} (h : cntB b at_ least = .ok n) : at_ + 8 ≤ b.length ∧ n ≤ b.length ∧ b.drop at_ = e8 (n : Nat) ++ b.drop (at_ + 8) := by
  unfold cntB numB at h
  cases ht : takeB b at_ 8 with
  | error e => rw [ht] at h; cases h
  | ok l =>
    rw [ht] at h
    simp only at h
    split at h
    · rename_i hn
      injection h with h
      obtain ⟨g1, g2, g3⟩ := takeB_ok ht
      have hx : ∀ x ∈ l, x < 256 := fun x hx => hb x (List.mem_of_mem_drop (i := at_) (by rw [g3]; exact List.mem_append.2 (.inl hx)))
      obtain ⟨e1, e2⟩ := e8_d8 g2 hx
      have hdn : d8 l = (n : Int) := by omega
      have hdl := Nat.div_le_self (b.length - (at_ + 8)) least
      exact ⟨by omega, by omega, by rw [← hdn, e1, g3]⟩
    · cases h
theorem enc_decV {f : WT} (hf : ∀ fs, f = .list fs → 0 < minL fs) {at_ at' : Nat} {v : WV} (h : decV b at_ f = .ok (v, at')) : okV f v ∧ at' ≤ b.length ∧ at_ ≤ at' ∧ b.drop at_ = encV f v ++ b.drop at' := by
  cases f with
  | one f =>
    have h : (match decF b at_ f with | .error e => Except.error e | .ok (d, a2) => .ok (WV.one d, a2)) = .ok (v, at') := h
    cases h1 : decF b at_ f with
    | error e => rw [h1] at h; cases h
    | ok x =>
      obtain ⟨d, a2⟩ := x
      rw [h1] at h
      injection h with h
      injection h with e1 e2
      subst e1 e2
      obtain ⟨g1, g2, g3, g4⟩ := enc_dec hb hl h1
      exact ⟨g1, g2, by omega, g4⟩
  | list fs =>
    have h : (match cntB b at_ (minL fs) with | .error e => Except.error e | .ok n => match decIs b fs (at_ + 8) n with | .error e => .error e | .ok (l, a2) => .ok (WV.list l, a2)) = .ok (v, at') := h
    cases h1 : cntB b at_ (minL fs) with
    | error e => rw [h1] at h; cases h
    | ok n =>
      rw [h1] at h
      simp only at h
      cases h2 : decIs b fs (at_ + 8) n with
      | error e => rw [h2] at h; cases h
      | ok y =>
        obtain ⟨l, a3⟩ := y
        rw [h2] at h
        injection h with h
        injection h with e1 e2
        subst e1 e2
        obtain ⟨g1, g2, g3⟩ := cnt_ok hb hl h1
        obtain ⟨k1, k2, k3, k4, k5⟩ := enc_decIs hb hl g1 h2
        exact ⟨⟨by omega, hf fs rfl, k1⟩, k3, by omega, by show _ = (e8 (l.length : Nat) ++ encIs fs l) ++ _; rw [k2, g3, k5, List.append_assoc]⟩
theorem enc_decForm : ∀ {fs : List WT} {at_ at' : Nat} {ds : List WV}, (∀ gs, .list gs ∈ fs → 0 < minL gs) → at_ ≤ b.length → decForm b at_ fs = .ok (ds, at') → okForm fs ds ∧ at' ≤ b.length ∧ at_ ≤ at' ∧ b.drop at_ = encForm fs ds ++ b.drop at'
  | [], at_, at', ds, hf, ha, h => by
    injection h with h
    injection h with h1 h2
    subst h1 h2
    exact ⟨trivial, ha, Nat.le_refl _, rfl⟩
  | f :: fs, at_, at', ds, hf, ha, h => by
    rw [decForm] at h
    cases h1 : decV b at_ f with
    | error e => rw [h1] at h; cases h
    | ok x =>
      obtain ⟨d, a2⟩ := x
      rw [h1] at h
      simp only at h
      cases h2 : decForm b a2 fs with
      | error e => rw [h2] at h; cases h
      | ok y =>
        obtain ⟨ds2, a3⟩ := y
        rw [h2] at h
        injection h with h
        injection h with e1 e2
        subst e1 e2
        obtain ⟨g1, g2, g3, g4⟩ := enc_decV hb hl (fun gs e => hf gs (by rw [e]; simp)) h1
        obtain ⟨k1, k2, k3, k4⟩ := enc_decForm (fun gs hg => hf gs (List.mem_cons_of_mem _ hg)) g2 h2
        exact ⟨⟨g1, k1⟩, k2, by omega, by rw [g4, k4, encForm, List.append_assoc]⟩
/-- what was read is written as it stood -/
theorem enc_read {fs : List WT} {ds : List WV} (hf : ∀ gs, .list gs ∈ fs → 0 < minL gs) (h : readW fs b = .ok ds) : okForm fs ds ∧ encForm fs ds = b := by
  unfold readW at h
  cases h1 : decForm b 0 fs with
  | error e => rw [h1] at h; cases h
  | ok x =>
    obtain ⟨d, a⟩ := x
    rw [h1] at h
    simp only at h
    split at h
    · cases h
    · rename_i ha
      injection h with h
      subst h
      obtain ⟨g1, g2, g3, g4⟩ := enc_decForm hb hl hf (Nat.zero_le _) h1
      rw [List.drop_zero, List.drop_eq_nil_of_le (by omega), List.append_nil] at g4
      exact ⟨g1, g4.symm⟩
end
def entryW : List WF := [.num, .small, .num, .set, .text]
def answerW : List WF := [.num, .num, .num, .num, .num]
def tenantW : List WF := [.num, .num, .num, .num, .truth]
def leaseW : List WF := [.num, .num, .num, .num, .num, .num, .num]
def sessionW : List WF := [.num, .num] ++ answerW
def deskW : List WF := [.num, .num, .num] ++ answerW
def ones (l : List WF) : List WT := l.map .one
def entryT : List WT := ones entryW
def answerT : List WT := ones answerW
def messageT : List WT := ones [.small, .num, .num, .num, .num, .num, .num, .truth] ++ [.list entryW] ++ ones [.num, .num, .set, .text, .text]
def commandT : List WT := ones [.small, .num, .num, .num, .num, .num, .num, .num, .num, .num, .num, .truth] ++ [.list [.num]]
def stateT : List WT := ones [.num, .num, .num] ++ [.list tenantW, .list leaseW, .list sessionW, .list deskW]
theorem mins : minL entryW = 26 ∧ minL tenantW = 33 ∧ minL leaseW = 56 ∧ minL sessionW = 56 ∧ minL deskW = 64 ∧ minL [.num] = 8 := by decide
end Go.Proofs.YtiednacpmlilbaaDoor
