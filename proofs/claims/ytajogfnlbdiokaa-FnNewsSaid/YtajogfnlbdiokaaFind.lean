/-
  The contracts of the model's l2find, Find.
-/
import Derived.Test.YtajogfnlbdiokaaRead
namespace Go.Proofs.Ytajogfnlbdiokaa
open Go.RowKit
set_option linter.unusedVariables false

/-- Slot j of span k has the object with that address. -/
def IsObj (D : WD) (addr : Int) (k j : Nat) : Prop := ∃ s, D.spans[k]? = some s ∧ j < s.lens.length ∧ 0 < s.lens[j]?.getD 0 ∧ D.base + atW s (j : Int) = addr
theorem pages_up {D : WD} (h : HeapForm D) {k k' : Nat} {s s' : SpanD} (hk : D.spans[k]? = some s) (hk' : D.spans[k']? = some s') (hlt : k < k') : s.page < s'.page := by
  induction k' generalizing s' with
  | zero => omega
  | succ n ih =>
    have hl := (List.getElem?_eq_some_iff.1 hk').1
    obtain ⟨t, ht⟩ : ∃ t, D.spans[n]? = some t := ⟨_, List.getElem?_eq_getElem (by omega)⟩
    have h1 := (h.span (n + 1) s' hk').prev t (by omega) (by simpa using ht)
    by_cases e : k = n
    · subst e
      rw [hk] at ht
      cases ht
      exact h1
    · have := ih ht (by omega)
      omega
theorem sz_pos {c : Int} (h : sl' c ≠ 0) : 2 ≤ sz c := by
  revert h; unfold sl' sz; (repeat' split) <;> simp
theorem mul_inj {a b z : Int} (hz : 2 ≤ z) (h : a * z = b * z) : a = b := Int.eq_of_mul_eq_mul_right (by omega) h
theorem IsObj.unique {D : WD} {addr : Int} (hF : HeapForm D) {k j k' j' : Nat} (h : IsObj D addr k j) (h' : IsObj D addr k' j') : k = k' ∧ j = j' := by
  obtain ⟨s, hs, hj, _, ha⟩ := h
  obtain ⟨s', hs', hj', _, ha'⟩ := h'
  have A := hF.span k s hs
  have A' := hF.span k' s' hs'
  have l := A.lens
  have l' := A'.lens
  have i1 := slot_in (c := s.cls) (i := (j : Int)) (t := 0) (by omega) (by omega) (by omega) (by have := sz_pos A.cls; omega)
  have i2 := slot_in (c := s'.cls) (i := (j' : Int)) (t := 0) (by omega) (by omega) (by omega) (by have := sz_pos A'.cls; omega)
  unfold atW at ha ha'
  have hp : s.page = s'.page := by omega
  have hk : k = k' := by
    rcases Nat.lt_trichotomy k k' with h | h | h
    · have := pages_up hF hs hs' h; omega
    · exact h
    · have := pages_up hF hs' hs h; omega
  subst hk
  rw [hs] at hs'
  cases hs'
  refine ⟨rfl, ?_⟩
  have := mul_inj (sz_pos A.cls) (show (j : Int) * sz s.cls = (j' : Int) * sz s.cls by omega)
  omega
/-- It returned where the object is, or -1 and -1. -/
def FindIs (D : WD) (addr : Int) (e : Ending) : Prop := ∃ r q : Int, e = .returned (.tuple #[.int .i64 r, .int .i64 q]) ∧
  ((∃ k j : Nat, HeapForm D ∧ IsObj D addr k j ∧ r = k ∧ q = j) ∨ ((HeapForm D → ∀ k j, ¬ IsObj D addr k j) ∧ r = -1 ∧ q = -1))
theorem FindIs.unique {D : WD} {addr : Int} {e e' : Ending} (h : FindIs D addr e) (h' : FindIs D addr e') : e = e' := by
  obtain ⟨r, q, rfl, h⟩ := h
  obtain ⟨r', q', rfl, h'⟩ := h'
  rcases h with ⟨k, j, hF, ho, rfl, rfl⟩ | ⟨hn, rfl, rfl⟩ <;> rcases h' with ⟨k', j', hF', ho', rfl, rfl⟩ | ⟨hn', rfl, rfl⟩
  · obtain ⟨rfl, rfl⟩ := ho.unique hF ho'
    rfl
  · exact absurd ho (hn' hF k j)
  · exact absurd ho' (hn hF' k' j')
  · rfl
theorem FindIs.no {D : WD} {addr : Int} (h : HeapForm D → ∀ k j, ¬ IsObj D addr k j) : FindIs D addr (.returned (.tuple #[.int .i64 (-1), .int .i64 (-1)])) := ⟨_, _, rfl, .inr ⟨h, rfl, rfl⟩⟩
theorem FindIs.yes {D : WD} {addr : Int} {k j : Nat} (hF : HeapForm D) (h : IsObj D addr k j) : FindIs D addr (.returned (.tuple #[.int .i64 (k : Int), .int .i64 (j : Int)])) := ⟨_, _, rfl, .inl ⟨k, j, hF, h, rfl, rfl⟩⟩

theorem no_next {D : WD} {addr : Int} {k : Nat} {s : SpanD} (hks : D.spans[k]? = some s) (h1 : ∀ k2 j2, k2 < k → ¬ IsObj D addr k2 j2) (h2 : ∀ j2, j2 < s.lens.length → ¬ IsObj D addr k j2) : ∀ k2 j2, k2 < k + 1 → ¬ IsObj D addr k2 j2 := by
  intro k2 j2 h ho
  by_cases e : k2 = k
  · subst e
    have ho' := ho
    obtain ⟨s2, g1, g2, _⟩ := ho
    rw [hks] at g1
    cases g1
    exact h2 j2 g2 ho'
  · exact h1 k2 j2 (by omega) ho
set_option maxRecDepth 100000 in
set_option maxHeartbeats 4000000 in
theorem find_at (B : Nat) (v : Value) (D : WD) (hF : HeapForm D) (addr : Int) (w : World) (hr : RdW w v D) (hB : BoxW w B v) :
    Calls Try.prog 139 #[.pointer (some ⟨B, 0, none⟩), .int .i64 addr] w fun e w' => FindIs D addr e ∧ Below w.heap.size w w' := by
  have hr' := Lib.hid hr
  have hB' := Lib.hid hB
  have hF' := Lib.hid hF
  obtain ⟨vw, vd, vs, vm, vg, rfl, a1, a2, a3, a4, a5⟩ := hr
  obtain ⟨cs, he, hh⟩ := hB
  obtain rfl := (Value.agg.inj he).symm
  obtain ⟨aS, cS, rfl, hsl, hx⟩ := a3
  unfold maxLen at hsl
  have hf4 := Lib.hid (fun (w' : World) (hb : Below w.heap.size w w') => cell_below hb (cell_of_heap hh 4 _ rfl))
  clear a1 a2 a4 a5 hF he hh hx
  go_enter Try.func139, Try.ntmps139
  go_wp2_with fail
  go_loopw [6] (fun k wr => ∃ k' : Nat, k' ≤ D.spans.length ∧ k = .int .i64 k' ∧ Hid (∀ k2 j2, k2 < k' → ¬ IsObj D addr k2 j2) ∧ Below w.heap.size w wr) (fun k _ => D.spans.length - (intOf k).toNat)
  case atStart => exact ⟨0, Nat.zero_le _, rfl, (fun k2 j2 h => absurd h (by omega)), Below.refl _ _⟩
  case round =>
    obtain ⟨k, hk, rfl, hno, hB⟩ := hrel
    have g4 := hf4.out _ hB
    by_cases hlt : k < D.spans.length
    · obtain ⟨s, hks⟩ : ∃ s, D.spans[k]? = some s := ⟨_, List.getElem?_eq_getElem hlt⟩
      have hks' := Lib.hid hks
      have hlt1 : (k : Int) < (D.spans.length : Int) := by omega
      obtain ⟨b1, o1, rfl, vl, vp, x0, x1, x2, x3, x4, x5, ⟨al, cl, rfl, hll, _⟩, _⟩ := (hr'.out.below hB).parts.2.2.1.at_ k s hks
      unfold maxLen at hll
      have A := Lib.hid (hF'.out.span k s hks)
      clear hks x0 x1 x2 x3 x5
      go_wp2_with fail
      clear x4 g4
      go_loopw [7] (fun j wj => ∃ j' : Nat, j' ≤ s.lens.length ∧ j = .int .i64 j' ∧ Hid (∀ j2, j2 < j' → ¬ IsObj D addr k j2) ∧ Below w.heap.size w wj) (fun j _ => s.lens.length - (intOf j).toNat)
      case atStart => exact ⟨0, Nat.zero_le _, rfl, (fun j2 h => absurd h (by omega)), hB⟩
      case round =>
        obtain ⟨j, hj, rfl, hnj, hB⟩ := hrel
        have g4 := hf4.out _ hB
        obtain ⟨b1', o1', he, vl', vp', x0, x1, x2, x3, x4, x5, ⟨al', cl', rfl, _, xl⟩, _⟩ := (hr'.out.below hB).parts.2.2.1.at_ k s hks'.out
        obtain ⟨rfl, rfl⟩ : b1 = b1' ∧ o1 = o1' := by simpa using he
        clear he x0 x1 x2 x3 x5
        by_cases hjl : j < s.lens.length
        · have hj1 : (j : Int) < (s.lens.length : Int) := by omega
          obtain ⟨bl, ol, rfl, xj⟩ := xl j hjl
          have hobj := Lib.hid (show IsObj D addr k j ↔ (0 < s.lens[j]?.getD 0 ∧ D.base + atW s (j : Int) = addr) from ⟨fun ⟨s2, h1, h2, h3, h4⟩ => by rw [hks'.out] at h1; cases h1; exact ⟨h3, h4⟩, fun h => ⟨s, hks'.out, hjl, h.1, h.2⟩⟩)
          have hnext := Lib.hid (fun (h : ¬ IsObj D addr k j) => (fun j2 (hj2 : j2 < j + 1) => if e : j2 = j then by subst e; exact h else hnj.out j2 (by omega) : ∀ j2, j2 < j + 1 → ¬ IsObj D addr k j2))
          clear xl
          generalize s.lens[j]?.getD 0 = l at *
          by_cases hl : 0 < l
          · have hg := hF'.out.geo
            have hsp := A.out
            have hlb := hsp.lens
            have hl2 := (sl_bd s.cls).2
            have hcall := Lib.hid (addr_any B _ D k j s hks'.out hsp.pg0 (by have := hsp.pg1; have := hg.2.2.2.2.1; omega) (by omega) (by have := hg.1; omega) hg.2.1 _ (hr'.out.below hB) (hB'.out.below hB))
            clear hg hsp hlb hl2
            by_cases he : D.base + atW s (j : Int) = addr
            · have y := Lib.hid (FindIs.yes hF'.out (hobj.out.2 ⟨hl, he⟩))
              have heb : (D.base + atW s (j : Int) == addr) = true := beq_iff_eq.2 he
              clear he
              go_wp2_with fail
              refine hcall.out.mono ?_
              rintro e w2 ⟨rfl, b2⟩
              have hB2 := Lib.hid (below_trans hB b2)
              clear b2
              go_wp2_with fail
              go_ret2
              exact ⟨y.out, hB2.out⟩
            · have hn := Lib.hid (hnext.out (fun h => he (hobj.out.1 h).2))
              have heb : (D.base + atW s (j : Int) == addr) = false := beq_eq_false_iff_ne.2 he
              clear he
              go_wp2_with fail
              refine hcall.out.mono ?_
              rintro e w2 ⟨rfl, b2⟩
              have hB2 := below_trans hB b2
              clear b2 hB x4 xj g4
              go_wp2_with fail
              go_roundw
              case rel => exact ⟨j + 1, by omega, by go_num, hn, hB2⟩
              case measure => simp [intOf]; omega
          · have hn := Lib.hid (hnext.out (fun h => hl (hobj.out.1 h).1))
            go_wp2_with fail
            go_roundw
            case rel => exact ⟨j + 1, by omega, by go_num, hn, hB⟩
            case measure => simp [intOf]; omega
        · obtain rfl : j = s.lens.length := by omega
          have hn := Lib.hid (no_next hks'.out hno.out hnj.out)
          clear xl
          go_wp2_with fail
          go_roundw
          case rel => exact ⟨k + 1, by omega, by go_num, hn, hB⟩
          case measure => simp [intOf]; omega
    · obtain rfl : k = D.spans.length := by omega
      have n := Lib.hid (FindIs.no (D := D) (addr := addr) fun _ k j h => h.elim fun s hs => hno.out k j (List.getElem?_eq_some_iff.1 hs.1).1 h)
      go_wp2_with fail
      go_ret2
      exact ⟨n.out, hB⟩

set_option maxRecDepth 100000 in
set_option maxHeartbeats 4000000 in
theorem find_any (v : Value) (D : WD) (addr : Int) (w : World) (hr : RdW w v D) :
    Calls Try.prog 89 #[v, .int .i64 addr] w fun e w' => FindIs D addr e ∧ Below w.heap.size w w' := by
  obtain ⟨vw, vd, vs, vm, vg, rfl, a1, a2, a3, a4, a5⟩ := hr
  have bx := Lib.hid (box_new w (.cells #[.int .i64 D.base, .int .i64 D.pages, vw, vd, vs, vm, .int .i64 D.phase, .int .i64 D.next, vg] 32))
  have bw := below_box w (.cells #[.int .i64 D.base, .int .i64 D.pages, vw, vd, vs, vm, .int .i64 D.phase, .int .i64 D.next, vg] 32)
  have hW := Lib.hid (show RdW (w.alloc (.cells #[.int .i64 D.base, .int .i64 D.pages, vw, vd, vs, vm, .int .i64 D.phase, .int .i64 D.next, vg] 32)) (.agg #[.int .i64 D.base, .int .i64 D.pages, vw, vd, vs, vm, .int .i64 D.phase, .int .i64 D.next, vg]) D from
    ⟨vw, vd, vs, vm, vg, rfl, a1.below bw, a2.below bw, a3.below bw, a4.below bw, a5.below bw⟩)
  have bw' := Lib.hid bw
  clear a1 a2 a3 a4 a5 bw
  go_enter Try.func89, Try.ntmps89
  go_wp2_with fail
  refine (formOk_any _ D _ hW.out).mono ?_
  rintro e w1 ⟨hq, b1⟩
  have hB := Lib.hid (below_trans bw'.out b1)
  have hx1 := Lib.hid (heap_below b1 bx.out)
  have hW1 := Lib.hid (hW.out.below b1)
  have hq := hq.elim
  clear b1
  rcases hq with ⟨hF, rfl⟩ | ⟨hF, rfl⟩
  case inr =>
    have n := Lib.hid (FindIs.no (D := D) (addr := addr) fun h => absurd h hF)
    clear hF
    go_wp2_with fail
    go_ret2
    exact ⟨n.out, hB.out⟩
  have hcall := Lib.hid (find_at w.heap.size _ D hF addr w1 hW1.out ⟨_, rfl, hx1.out⟩)
  clear hF
  go_wp2_with fail
  refine hcall.out.mono ?_
  rintro e w2 ⟨⟨r, q, rfl, hq2⟩, b2⟩
  have hq2' := Lib.hid hq2
  clear hq2
  go_wp2_with fail
  go_ret2
  exact ⟨⟨r, q, rfl, hq2'.out⟩, below_trans hB.out b2⟩
end Go.Proofs.Ytajogfnlbdiokaa
