/-
  New and Make of package disk, by their contracts.
-/
import Derived.Test.YtgbbbjddooiaeaaQuiet2
namespace Go.Proofs.Ytgbbbjddooiaeaa
open Go.RowKit

/-- A disk lies at D, its blocks are those of l. -/
def Disk (w : World) (D : Nat) (l : List Nat) (d : PD) : Prop := ∃ p fv pv, DRep w D p d fv pv ∧ l = p.foot D

/-- What a call has made of a disk: it lies in its old blocks and in new ones, and no other old block has turned. -/
def To (D : Nat) (l : List Nat) (w : World) (d' : PD) (w' : World) : Prop := ∃ l', Disk w' D l' d' ∧ Fr l w w' ∧ ∀ k ∈ l', k ∈ l ∨ w.heap.size ≤ k

theorem Disk.fr {w w' : World} {D : Nat} {l l2 : List Nat} {d : PD} (h : Disk w D l d) (hf : Fr l2 w w') (hl : ∀ k ∈ l, k ∉ l2) : Disk w' D l d := by
  obtain ⟨p, fv, pv, h1, rfl⟩ := h
  exact ⟨p, fv, pv, h1.fr hf hl, rfl⟩
theorem Disk.lt {w : World} {D : Nat} {l : List Nat} {d : PD} (h : Disk w D l d) : ∀ k ∈ l, k < w.heap.size := by
  obtain ⟨p, fv, pv, h1, rfl⟩ := h
  exact h1.lt
theorem Disk.below {w w' : World} {D : Nat} {l : List Nat} {d : PD} (h : Disk w D l d) (hf : Below w.heap.size w w') : Disk w' D l d := h.fr (Fr.of_below hf) (by simp)
theorem To.same {w w' : World} {D : Nat} {l : List Nat} {d : PD} (h : Disk w D l d) (hf : Below w.heap.size w w') : To D l w d w' :=
  ⟨l, h.below hf, (Fr.of_below hf).mono (by simp), fun _ hk => .inl hk⟩
theorem To.trans {w w1 w2 : World} {D : Nat} {l : List Nat} {d' : PD} {l1 : List Nat} (hf : Fr l w w1) (h1 : ∀ k ∈ l1, k ∈ l ∨ w.heap.size ≤ k) (h : To D l1 w1 d' w2) : To D l w d' w2 := by
  obtain ⟨l', h2, h3, h4⟩ := h
  refine ⟨l', h2, hf.trans h3 h1, fun k hk => ?_⟩
  rcases h4 k hk with h5 | h5
  · exact h1 k h5
  · have := hf.size; exact .inr (by omega)
theorem To.from_below {w w1 w2 : World} {D : Nat} {l : List Nat} {d' : PD} (hb : Below w.heap.size w w1) (h : To D l w1 d' w2) : To D l w d' w2 :=
  To.trans ((Fr.of_below hb).mono (by simp)) (fun _ hk => .inl hk) h

def PD.new : PD := { files := [], down := false, lit := false, pass := 0, plan := [] }

theorem new_any (w : World) : Calls Try.prog 11 #[] w fun r w' => r = .returned (.pointer (some ⟨w.heap.size, 0, none⟩)) ∧ Disk w' w.heap.size [w.heap.size] PD.new ∧ Below w.heap.size w w' := by
  go_enter Try.func11, Try.ntmps11
  go_wp2
  go_ret
  refine ⟨rfl, ⟨⟨none, [], none⟩, .slice none 0 0, .slice none 0 0, ⟨heap_alloc_new w _, Row.nil _ _ _, .nil, Row.nil _ _ _, by simp [Place.foot], by simp [PD.new], by simp [PD.new], by simp [PD.new], by simp [PD.new], by simp [PD.new]⟩, by simp [Place.foot]⟩, (Below.refl _ _).alloc (Nat.le_refl _) _⟩

/-- The word of a disk that is there. -/
def PD.word (d : PD) : Int := if d.down then 5 else 0

def PD.make (d : PD) (s : ByteArray) : PD × Int :=
  if d.down then (d, 5) else if nameB s = false then (d, 2) else if (d.find s).isSome then (d, 101) else if 64 ≤ d.files.length then (d, 100)
  else ({ d with files := d.files ++ [⟨s, [], 0⟩] }, 0)

theorem infoF : (Try.prog.info? 69).map (fun i => (i.zero, i.size, i.bytes)) = some (some (.pointer none), 1, 8) := by kernel_rfl

theorem count_zero {l : List Nat} {N a : Nat} (h : ∀ k ∈ l, k < N) (ha : ¬ a < N) : l.count a = 0 := List.count_eq_zero.2 fun hm => ha (h a hm)

/-- What a disk has for blocks, each apart. -/
theorem DRep.lts {w : World} {D : Nat} {p : Place} {d : PD} {fv pv : Value} (h : DRep w D p d fv pv) :
    D < w.heap.size ∧ (∀ k ∈ p.row.toList, k < w.heap.size) ∧ (∀ k ∈ p.files.flatMap foot1, k < w.heap.size) ∧ (∀ k ∈ p.plan.toList, k < w.heap.size) :=
  ⟨lt_of_block h.head, h.row.lt', files_lt h.files, h.plan.lt'⟩
theorem DRep.row_ne {w : World} {D : Nat} {p : Place} {d : PD} {fv pv : Value} (h : DRep w D p d fv pv) : p.row ≠ some D ∧ (∀ k ∈ p.files.flatMap foot1, k ≠ D ∧ p.row ≠ some k) ∧ (∀ k ∈ p.plan.toList, k ≠ D ∧ p.row ≠ some k ∧ k ∉ p.files.flatMap foot1) := by
  have hn := h.apart
  simp only [Place.foot, List.nodup_cons, List.nodup_append, List.mem_append, not_or, Option.mem_toList] at hn
  obtain ⟨⟨h1, h2, h3⟩, h4, ⟨h5, h6, h7⟩, h8⟩ := hn
  refine ⟨fun e => h1 (by simp [e]), fun k hk => ⟨fun e => h2 (e ▸ hk), fun e => h8 k (by simp [e]) k (.inl hk) rfl⟩, fun k hk => ⟨fun e => h3 (e ▸ by simpa using hk), fun e => h8 k (by simp [e]) k (.inr (by simpa using hk)) rfl, fun hm => h7 k hm k (by simpa using hk) rfl⟩⟩

theorem make_end {w1 w2 : World} {D : Nat} {p : Place} {d : PD} {fv pv v' : Value} {ob' : Nat} {s : ByteArray} {A C : Obj} (h1 : DRep w1 D p d fv pv)
    (hname : nameB s = true) (hfind : d.find s = none) (hfew : d.files.length < 64)
    (hrow2 : Row w2 v' (some ob') 69 1 (p.files.length + 1) (ptrs p.files ++ [.pointer (some ⟨w1.heap.size + 1, 0, none⟩)]))
    (hg : (((w1.alloc A).alloc (.cells #[.string s, .slice none 0 0, .int .i64 0] 76)).alloc C).grownBy w2 p.row)
    (hob : p.row = some ob' ∨ ob' = w1.heap.size + 1 + 1 + 1) :
    To D (p.foot D) w1 { d with files := d.files ++ [⟨s, [], 0⟩] } (w2.setCell ⟨D, 0, none⟩ v') := by
  obtain ⟨l1, l2, l3, l4⟩ := h1.lts
  obtain ⟨n1, n2, n3⟩ := h1.row_ne
  obtain ⟨N, hN⟩ : ∃ N, N = w1.heap.size := ⟨_, rfl⟩
  have hsz : (((w1.alloc A).alloc (.cells #[.string s, .slice none 0 0, .int .i64 0] 76)).alloc C).heap.size = N + 3 := by simp [hN]
  have hold : ∀ k, k < N → k ≠ D → p.row ≠ some k → (w2.setCell ⟨D, 0, none⟩ v').heap[k]? = w1.heap[k]? := fun k hk hD hr => by
    rw [heap_setCell_ne _ _ _ _ hD, hg.block k (by omega) (fun e => hr e.symm), Below.heap_alloc _ _ _ (by simp; omega), Below.heap_alloc _ _ _ (by simp; omega), Below.heap_alloc _ _ _ (by omega)]
  have hD2 : w2.heap[D]? = w1.heap[D]? := by
    rw [hg.block D (by omega) (fun e => n1 e.symm), Below.heap_alloc _ _ _ (by simp; omega), Below.heap_alloc _ _ _ (by simp; omega), Below.heap_alloc _ _ _ (by omega)]
  have hobD : ob' ≠ D := by
    rintro rfl
    rcases hob with e | e
    · exact n1 e
    · omega
  have hrowlt : ∀ k, p.row = some k → k < N := fun k e => hN ▸ l2 k (by simp [e])
  have hnew : (w2.setCell ⟨D, 0, none⟩ v').heap[N + 1]? = some (.cells #[.string s, .slice none 0 0, .int .i64 0] 76 (0, 0)) := by
    rw [heap_setCell_ne _ _ _ _ (by simp; omega), hg.block (N + 1) (by omega) (fun e => by have := hrowlt _ e.symm; omega), Below.heap_alloc _ _ _ (by simp; omega)]
    have := heap_alloc_new (w1.alloc A) (.cells #[.string s, .slice none 0 0, .int .i64 0] 76)
    simpa [hN] using this
  refine ⟨_, ⟨⟨some ob', p.files ++ [(N + 1, none)], p.plan⟩, v', pv, ⟨?_, ?_, ?_, ?_, ?_, ?_, ?_, h1.passes, h1.keeps, h1.short⟩, rfl⟩, ?_, ?_⟩
  · have := heap_setCell_same (hD2.trans h1.head) 0 v'
    simpa using this
  · refine Row.congr (w := w2) ?_ fun g hg' => heap_setCell_ne _ _ _ _ (by obtain rfl := Option.some.inj hg'; exact hobD)
    simpa [ptrs, hN] using hrow2
  · refine All2.append (h1.files.imp fun a b ha hr => hr.congr fun k hk => ?_) (.cons ⟨.slice none 0 0, 0, [], hnew, Row.nil _ _ _, ⟨by simp, by simp, by simp, by simp, by simp⟩, hname, by simp, by simp⟩ .nil)
    have hm : k ∈ p.files.flatMap foot1 := List.mem_flatMap.2 ⟨a, ha, hk⟩
    exact hold k (hN ▸ l3 k hm) (n2 k hm).1 (n2 k hm).2
  · exact h1.plan.congr fun g hg' => hold g (hN ▸ l4 g (by simpa using hg')) (n3 g (by simpa using hg')).1 (n3 g (by simpa using hg')).2.1
  · rw [List.nodup_iff_count]
    intro a
    have hn := (List.nodup_iff_count.1 h1.apart) a
    simp only [Place.foot, List.count_cons, List.count_append, List.flatMap_append, List.flatMap_cons, List.flatMap_nil, List.append_nil, foot1, Option.toList_some, Option.toList_none, List.count_nil] at hn ⊢
    by_cases ha : a < N
    · have e1 : (N + 1 == a) = false := by simp; omega
      rcases hob with e | e
      · rw [e] at hn
        simp only [Option.toList_some, List.count_cons, List.count_nil] at hn
        rw [e1]; simp only [Bool.false_eq_true, if_false, Nat.add_zero, Nat.zero_add]; omega
      · have e2 : (ob' == a) = false := by simp; omega
        rw [e1, e2]; simp only [Bool.false_eq_true, if_false, Nat.add_zero, Nat.zero_add]; omega
    · have c1 := count_zero (a := a) (N := N) (hN ▸ l3) ha
      have c2 := count_zero (a := a) (N := N) (hN ▸ l4) ha
      have e3 : (D == a) = false := by simp; omega
      rw [c1, c2, e3]
      rcases hob with e | e
      · have : (ob' == a) = false := by have := hrowlt _ e; simp; omega
        rw [this]; simp; split <;> omega
      · by_cases e4 : N + 1 = a
        · have : (ob' == a) = false := by simp; omega
          simp [this, e4]
        · simp [e4]; split <;> omega
  · have := hfew; simp; omega
  · rw [List.map_append, List.nodup_append]
    refine ⟨h1.names, by simp, ?_⟩
    intro x hx y hy
    simp at hy
    subst hy
    obtain ⟨f, hf, rfl⟩ := List.mem_map.1 hx
    obtain ⟨j, hj, rfl⟩ := List.mem_iff_getElem.1 hf
    exact PD.find_none hfind j hj
  · refine Fr.setCell (Fr.grown ((((Fr.refl _ _).alloc _).alloc _).alloc _) hg fun k hk => .inl ?_) _ (.inl (by simp [Place.foot])) _
    simp [Place.foot, hk]
  · intro k hk
    simp only [Place.foot, List.mem_cons, List.mem_append, List.flatMap_append, List.flatMap_cons, List.flatMap_nil, List.append_nil, foot1, Option.toList_some, Option.toList_none, List.not_mem_nil, or_false] at hk ⊢
    rcases hk with rfl | rfl | (hk | rfl) | hk
    · exact .inl (.inl rfl)
    · rcases hob with e | e
      · exact .inl (.inr (.inl (by simp [e])))
      · exact .inr (by omega)
    · exact .inl (.inr (.inr (.inl hk)))
    · exact .inr (by omega)
    · exact .inl (.inr (.inr (.inr hk)))

set_option maxHeartbeats 1000000 in
set_option maxRecDepth 100000 in
theorem make_ok {w : World} {D : Nat} {l : List Nat} {d : PD} (h : Disk w D l d) (s : ByteArray) (hs : s.size ≤ maxLen) (hup : d.down = false) (hname : nameB s = true) (hfind : d.find s = none) (hfew : d.files.length < 64) :
    Calls Try.prog 23 #[.pointer (some ⟨D, 0, none⟩), .string s] w fun r w' => r = .returned (.int .i64 0) ∧ To D l w { d with files := d.files ++ [⟨s, [], 0⟩] } w' := by
  obtain ⟨p, fv, pv, h, rfl⟩ := h
  have hlen := h.files.length
  have hc1 := h.cells.2.1
  rw [hup] at hc1
  have hl := lost_up D w hc1
  have hn := isName_any s w hs
  clear hc1
  obtain ⟨i0, hi, hz0, hz1, hz2⟩ := info_parts infoF
  have HF : Hid (d.find s = none) := hfind
  have HN : Hid (nameB s = true) := hname
  have HU : Hid (d.down = false) := hup
  clear hfind hup
  go_enter Try.func23, Try.ntmps23
  go_wp2_with (go_at_call 46; refine hl.mono ?_; rintro e w1 ⟨rfl, hb⟩; clear hl hn)
  have h1 := h.below hb
  have hn := isName_any s w1 hs
  rw [hname] at hn
  have hfi := find_miss h1 s HF.out
  have hc0 := h1.cells.1
  clear hname
  obtain ⟨a, cap, hfv, hcap, hmax, ha⟩ := h1.row.shape
  have hrow := h1.row
  subst hfv
  have hN : p.files.length < 64 := by omega
  have hdec : decide ((64 : Int) ≤ (p.files.length : Nat)) = false := by simp; omega
  have HL : Hid (p.files.length = d.files.length) := hlen
  have HA : Hid (a = Option.map (fun g => ⟨g, 0, none⟩) p.row) := ha
  have hDlt : D < w1.heap.size := h1.lt D (by simp [Place.foot])
  clear hlen ha
  go_wp2_with (first
    | (go_at_call 54; refine hn.mono ?_; rintro e w' ⟨rfl, rfl⟩)
    | (go_at_call 49; refine hfi.mono ?_; rintro e w' ⟨rfl, rfl⟩)
    | (go_at_call 55; refine (row_some _ _ _ hc0).mono ?_; rintro e w' ⟨rfl, rfl⟩)
    | (go_at_call 53; (with_reducible refine (when_t _ _).mono ?_); rintro e w' ⟨rfl, rfl⟩)
    | (go_at_call 53; (with_reducible refine (when_f _ _).mono ?_); rintro e w' ⟨rfl, rfl⟩)
    | (go_at_call 47; (with_reducible refine (first_four _ _ _ _ 0 _ (by decide)).mono ?_); rintro e w' ⟨rfl, rfl⟩; clear hn hfi)
    | (at_builtin; go_loud (refine wpList_append_row _ rfl (.tmp 30) (.tmp 34) 63 rfl 69 i0 (.pointer none) 1 8 Try.underlying63 hi hz0 hz1 hz2 rfl (by decide) _ p.row p.files.length (ptrs p.files) rfl ?c0 ⟨w1.heap.size + 2, 0, none⟩ 1 1 [.pointer (some ⟨w1.heap.size + 1, 0, none⟩)] rfl (by decide) rfl ?c1 ?c2 ?c3 ?c4 ?_)))
  case c0 => exact ((hrow.alloc _).alloc _).alloc _
  case c1 =>
    intro j u hj
    match j, hj with
    | 0, hj => simp at hj; subst hj; simp [Addr.add]; rw [World.cell?_alloc_at _ _ _ _ (by simp)]; rfl
  case c2 => intro u hu; simp at hu; subst hu; rfl
  case c3 => unfold maxLen; omega
  case c4 => omega
  intro v' ob' w2 hrow2 hg hob
  have hE := make_end h1 HN.out HF.out hfew hrow2 hg hob
  have hD2 : w2.heap[D]? = w1.heap[D]? := by
    rw [hg.block D (by simp; omega) (fun e => h1.row_ne.1 e.symm), Below.heap_alloc _ _ _ (by simp; omega), Below.heap_alloc _ _ _ (by simp; omega), Below.heap_alloc _ _ _ (by omega)]
  have hf2 := free_at (hD2.trans h1.head) 0
  have hcl := cell_at (hD2.trans h1.head) 0
  obtain ⟨a', cap', rfl, hx1, hx2, hx3⟩ := hrow2.shape
  clear hrow2 hg hob hD2 hrow hi hz0 hz1 hz2 hc0 hx1 hx2 hx3
  go_wp2
  go_ret
  exact ⟨rfl, To.from_below hb hE⟩

end Go.Proofs.Ytgbbbjddooiaeaa
