/-
  The program's readDecimal. Condition: the table of powers of ten is as the program lays it.
-/
import Derived.Test.YtjldjeokcpjgkaaDoorTxQ
import Derived.Laws.RangeString
import Derived.Laws.RangeAny
namespace Go.Proofs.YtjldjeokcpjgkaaDoor
open Go.RowKit
set_option linter.unusedVariables false

theorem snoc_head {t : List UInt8} {c : UInt8} (h : t ≠ [] ∨ c ≠ 45) : sgn (t ++ [c]) = sgn t ∧ digs (t ++ [c]) = digs t ++ [c] := by
  cases t with
  | nil =>
    have hc : c ≠ 45 := h.elim (fun h => absurd rfl h) id
    simp [sgn, digs, hc]
  | cons b r =>
    unfold sgn digs
    simp only [List.cons_append, List.head?_cons]
    by_cases hb : b = 45
    · simp [hb]
    · simp [hb]
theorem valT_snoc {t : List UInt8} {c : UInt8} (h : t ≠ [] ∨ c ≠ 45) : valT (t ++ [c]) = valT t * 10 + sgn t * ((c.toNat : Int) - 48) := by
  unfold valT
  rw [(snoc_head h).1, (snoc_head h).2]
  unfold fold10
  rw [List.foldl_append]
  rfl
theorem okT_snoc {t : List UInt8} {c : UInt8} (h : t ≠ [] ∨ c ≠ 45) : okT (t ++ [c]) ↔ okT t ∧ 48 ≤ c.toNat ∧ c.toNat ≤ 57 := by
  unfold okT Digits
  rw [(snoc_head h).2]
  simp only [List.mem_append, List.mem_cons, List.not_mem_nil, or_false]
  exact ⟨fun h => ⟨fun b hb => h b (.inl hb), h c (.inr rfl)⟩, fun h b hb => hb.elim (h.1 b) (fun e => e ▸ h.2)⟩
theorem okT_more {t r : List UInt8} {c : UInt8} (h : t ≠ [] ∨ c ≠ 45) (hc : ¬ (48 ≤ c.toNat ∧ c.toNat ≤ 57)) : ¬ okT (t ++ c :: r) := by
  intro hk
  apply hc
  refine hk c ?_
  cases t with
  | nil =>
    have hc : c ≠ 45 := h.elim (fun h => absurd rfl h) id
    simp [digs, hc]
  | cons b s =>
    unfold digs
    simp only [List.cons_append, List.head?_cons]
    by_cases hb : b = 45 <;> simp [hb]
theorem num_bad {t : List UInt8} (h : ¬ okT t) : NumIs t 0 false := .inr ⟨rfl, rfl, fun m hm e => h (e ▸ (itoa_val m).1)⟩
theorem num_end {t : List UInt8} {n : Int} (hn : n = IntKind.i64.wrap (valT t)) (h : Lib.itoa n ≠ t) : NumIs t 0 false := .inr ⟨rfl, rfl, fun m hm e => by
  apply h
  have hv := (itoa_val m).2
  rw [e] at hv
  rw [hn, hv, show IntKind.i64.wrap m = m from IntWalk.i64_in _ (by unfold I64 at hm; omega), e]⟩
theorem num_good {t : List UInt8} {n : Int} (hn : n = IntKind.i64.wrap (valT t)) (h : Lib.itoa n = t) : NumIs t n true := .inl ⟨rfl, by rw [hn]; exact wrap_i64_in _, h⟩
def NumE (t : List UInt8) (e : Ending) : Prop := ∃ (n : Int) (b : Bool), e = .returned (.tuple #[.int .i64 n, .bool b]) ∧ NumIs t n b
theorem below_iter (w : World) (s : ByteArray) (k : Nat) : Below w.heap.size w (w.iter s k) := below_box w (.stringIter s k)

set_option maxRecDepth 100000 in
set_option maxHeartbeats 8000000 in
theorem idec_any (s : ByteArray) (w : World) (ht : TabP w) (hs : s.size ≤ 1048576) :
    Calls Tryd.prog 35 #[.string s] w fun e w' => NumE s.data.toList e ∧ Below w.heap.size w w' := by
  obtain ⟨l, hl⟩ : ∃ l, l = s.data.toList := ⟨_, rfl⟩
  rw [← hl]
  have hl' := Lib.hid hl
  have hlen := Lib.hid (show l.length = s.size by rw [hl]; simp)
  have ht' := Lib.hid ht
  clear hl ht
  go_enter Tryd.func35, Tryd.ntmps35
  go_wp2_with fail
  go_loopw [4, 5] (fun n g wr => ∃ (k : Nat) (N G : Int), wr = w.iter s k ∧ k ≤ s.size ∧ n = .int .i64 N ∧ g = .int .i64 G ∧ Hid (N = IntKind.i64.wrap (valT (l.take k)) ∧ G = sgn (l.take k) ∧ okT (l.take k))) (fun _ _ wr => s.size - wr.iterPos w.heap.size)
  case atStart => exact ⟨0, 0, 1, rfl, Nat.zero_le _, rfl, rfl, Lib.hid ⟨rfl, rfl, fun b hb => by simp [digs] at hb⟩⟩
  case round =>
    obtain ⟨k, N, G, rfl, hk, rfl, rfl, hst⟩ := hrel
    by_cases hp : k < s.size
    · have hnx0 : ∀ ty, (Instr.next (.pointer (some ⟨w.heap.size, 0, none⟩)) true ty).run Tryd.prog (w.iter s k) = _ := fun ty => run_next_any w s k ty hp
      have hkl : k < l.length := by rw [hlen.out]; exact hp
      have hgd := get_data s k hp
      rw [← hl'.out] at hgd
      have hgl : l[k] = s[k] := by rw [List.getElem?_eq_getElem hkl] at hgd; exact Option.some.inj hgd
      have htk := Lib.hid (show l.take (k + 1) = l.take k ++ [s[k]] by rw [List.take_succ_eq_append_getElem hkl, hgl])
      have hall := Lib.hid (show l = l.take k ++ s[k] :: l.drop (k + 1) by
        conv => lhs; rw [← List.take_append_drop k l, List.drop_eq_getElem_cons hkl, hgl])
      have hne := Lib.hid (show l.take k ≠ [] ↔ k ≠ 0 by
        rw [Ne, List.take_eq_nil_iff]
        constructor
        · intro h e; exact h (.inl e)
        · intro h e; rcases e with e | e
          · exact h e
          · rw [e] at hkl; simp at hkl)
      have hbi := Lib.hid (fun q => below_iter w s q)
      clear hgd hgl
      by_cases ha : s[k].toNat < 128
      · rw [decode_ascii s k hp ha] at hnx0
        dsimp only at hnx0
        have hnx := hnx0
        clear hnx0
        by_cases hm : k = 0 ∧ s[k] = 45
        · obtain ⟨rfl, hb⟩ := hm
          have hb1 : s[0].toNat = 45 := by rw [hb]; rfl
          have hnew := Lib.hid (show N = IntKind.i64.wrap (valT (l.take 1)) ∧ (-1 : Int) = sgn (l.take 1) ∧ okT (l.take 1) by
            rw [show l.take 1 = [45] by rw [htk.out, hb]; rfl]
            refine ⟨?_, rfl, fun b hb => by simp [digs] at hb⟩
            rw [hst.out.1]
            rfl)
          rw [hb1] at hnx
          clear hst htk hall hne hb hb1 ha
          go_wp2_with fail
          go_roundw
          case rel => exact ⟨1, N, -1, rfl, by omega, rfl, rfl, hnew⟩
          case measure => simp; omega
        · have hor : l.take k ≠ [] ∨ s[k] ≠ 45 := by
            by_cases h0 : k = 0
            · exact .inr (fun e => hm ⟨h0, e⟩)
            · exact .inl (hne.out.2 h0)
          have hguard : k = 0 → ((s[k].toNat : Nat) : Int) ≠ 45 := fun h0 e => hm ⟨h0, UInt8.toNat_inj.1 (by have h45 : (45 : UInt8).toNat = 45 := rfl; omega)⟩
          by_cases hd : 48 ≤ s[k].toNat ∧ s[k].toNat ≤ 57
          · have hnew := Lib.hid (show valT (l.take (k + 1)) = valT (l.take k) * 10 + G * (((s[k].toNat : Nat) : Int) - 48) ∧ G = sgn (l.take (k + 1)) ∧ okT (l.take (k + 1)) by
              rw [htk.out, valT_snoc hor, (snoc_head hor).1, okT_snoc hor, ← hst.out.2.1]
              exact ⟨rfl, rfl, hst.out.2.2, hd⟩)
            have hN := Lib.hid hst.out.1
            have hG : G = 1 ∨ G = -1 := by
              rw [hst.out.2.1]
              unfold sgn
              split
              · exact .inr rfl
              · exact .inl rfl
            have hz := wrap_i64_in (valT (l.take k))
            rw [← hN.out] at hz
            unfold I64 at hz
            obtain ⟨hd1, hd2⟩ := hd
            generalize valT (l.take k) = V0 at *
            generalize s[k].toNat = y at *
            clear hst htk hall hne hm hor hkl
            by_cases h0 : k = 0
            · have hb1 : ((y : Int) == 45) = false := beq_eq_false_iff_ne.2 (hguard h0)
              subst h0
              clear hguard
              rcases hG with rfl | rfl
              all_goals
                go_wp2_with fail
                go_roundw
                case rel => exact ⟨1, _, _, rfl, by omega, rfl, rfl, Lib.hid ⟨by rw [hnew.out.1]; have h1 := hN.out; rw [IntKind.wrap_i64] at h1 ⊢; (try unfold wrap64); omega, hnew.out.2.1, hnew.out.2.2⟩⟩
                case measure => simp; omega
            · have hk0 : ((k : Int) == 0) = false := beq_eq_false_iff_ne.2 (by omega)
              have hk1 : (k == 0) = false := beq_eq_false_iff_ne.2 h0
              clear hguard
              rcases hG with rfl | rfl
              all_goals
                go_wp2_with fail
                go_roundw
                case rel => exact ⟨k + 1, _, _, rfl, by omega, rfl, rfl, Lib.hid ⟨by rw [hnew.out.1]; have h1 := hN.out; rw [IntKind.wrap_i64] at h1 ⊢; (try unfold wrap64); omega, hnew.out.2.1, hnew.out.2.2⟩⟩
                case measure => simp; omega
          · have hbad := Lib.hid (show NumIs l 0 false by
              have := okT_more (r := l.drop (k + 1)) hor hd
              rw [← hall.out] at this
              exact num_bad this)
            have hd' : s[k].toNat < 48 ∨ 57 < s[k].toNat := by omega
            generalize s[k].toNat = y at *
            clear hst htk hall hne hm hor hkl hd
            by_cases h0 : k = 0
            · have hb1 : ((y : Int) == 45) = false := beq_eq_false_iff_ne.2 (hguard h0)
              subst h0
              clear hguard
              rcases hd' with hd' | hd'
              · go_wp2_with fail
                go_ret2
                exact ⟨⟨_, _, rfl, hbad.out⟩, hbi.out _⟩
              · have hd2 : 48 ≤ y := by omega
                go_wp2_with fail
                go_ret2
                exact ⟨⟨_, _, rfl, hbad.out⟩, hbi.out _⟩
            · have hk0 : ((k : Int) == 0) = false := beq_eq_false_iff_ne.2 (by omega)
              have hk1 : (k == 0) = false := beq_eq_false_iff_ne.2 h0
              clear hguard
              rcases hd' with hd' | hd'
              · go_wp2_with fail
                go_ret2
                exact ⟨⟨_, _, rfl, hbad.out⟩, hbi.out _⟩
              · have hd2 : 48 ≤ y := by omega
                go_wp2_with fail
                go_ret2
                exact ⟨⟨_, _, rfl, hbad.out⟩, hbi.out _⟩
      · have hhi := (decode_high s k hp (by omega)).1
        have h45 : s[k] ≠ 45 := fun e => ha (by rw [e]; decide)
        have hbad := Lib.hid (show NumIs l 0 false by
          have := okT_more (t := l.take k) (r := l.drop (k + 1)) (.inr h45) (c := s[k]) (by omega)
          rw [← hall.out] at this
          exact num_bad this)
        generalize hR : Utf8.decode s k = R at *
        obtain ⟨R, wd⟩ := R
        dsimp only at hnx0 hhi
        have hnx := hnx0
        have hb1 : ((R : Int) == 45) = false := beq_eq_false_iff_ne.2 (by omega)
        have hd2 : 48 ≤ R := by omega
        clear hst htk hall hne hkl hR hnx0 ha h45
        by_cases h0 : k = 0
        · subst h0
          go_wp2_with fail
          go_ret2
          exact ⟨⟨_, _, rfl, hbad.out⟩, hbi.out _⟩
        · have hk0 : ((k : Int) == 0) = false := beq_eq_false_iff_ne.2 (by omega)
          have hk1 : (k == 0) = false := beq_eq_false_iff_ne.2 h0
          go_wp2_with fail
          go_ret2
          exact ⟨⟨_, _, rfl, hbad.out⟩, hbi.out _⟩
    · obtain rfl : k = s.size := by omega
      have hnx : ∀ ty, (Instr.next (.pointer (some ⟨w.heap.size, 0, none⟩)) true ty).run Tryd.prog (w.iter s s.size) = _ := fun ty => run_next_end w s s.size ty hp
      have hN := Lib.hid (show N = IntKind.i64.wrap (valT l) by
        have := hst.out.1
        rwa [List.take_of_length_le (by rw [hlen.out]; exact Nat.le_refl _)] at this)
      have hNI : I64 N := by rw [hN.out]; exact wrap_i64_in _
      have hit := Lib.hid (itoa_any N hNI (w.iter s s.size) (ht'.out.below (below_iter w s s.size)))
      have hbi := Lib.hid (below_iter w s s.size)
      have hsl : s.toList = l := by rw [hl'.out]; exact ByteArray.toList_eq ..
      by_cases he : Lib.itoa N = l
      · have y := Lib.hid (num_good hN.out he)
        have hcmp : (Lib.itoa N == s.toList) = true := by rw [hsl, he]; exact beq_self_eq_true l
        clear hst hNI hsl he
        go_wp2_with fail
        refine hit.out.mono ?_
        rintro e w2 ⟨rfl, b2⟩
        have b2' := Lib.hid (below_trans hbi.out b2)
        clear b2
        go_wp2_with fail
        go_ret2
        exact ⟨⟨_, _, rfl, y.out⟩, b2'.out⟩
      · have y := Lib.hid (num_end hN.out he)
        have hcmp : (Lib.itoa N == s.toList) = false := by rw [hsl]; exact beq_eq_false_iff_ne.2 he
        clear hst hNI hsl he
        go_wp2_with fail
        refine hit.out.mono ?_
        rintro e w2 ⟨rfl, b2⟩
        have b2' := Lib.hid (below_trans hbi.out b2)
        clear b2
        go_wp2_with fail
        go_ret2
        exact ⟨⟨_, _, rfl, y.out⟩, b2'.out⟩
end Go.Proofs.YtjldjeokcpjgkaaDoor
