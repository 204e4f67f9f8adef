import Derived.Test.YtmkldekangdfmaaGreatPkCoreA

/-
  Plain: what holds while addresses are still to be shaded; one of them is.
-/
namespace Go.Proofs.YtmkldekangdfmaaGreat
open Go.RowKit
set_option linter.unusedVariables false

theorem SameO.inSlot {s t : SpanD} (h : SameS s t) {j n x : Nat} : InSlot t j n x ↔ InSlot s j n x := by unfold InSlot; rw [atW_same h]
theorem SameO.inSlots {s t : SpanD} (h : SameS s t) {j x : Nat} : InSlots t j x ↔ InSlots s j x := by
  unfold InSlots
  rw [h.lens]
  exact ⟨fun ⟨j', h1, h2⟩ => ⟨j', h1, (SameO.inSlot h).1 h2⟩, fun ⟨j', h1, h2⟩ => ⟨j', h1, (SameO.inSlot h).2 h2⟩⟩
theorem SameO.used {D E : WD} (h : SameO D E) {x : Nat} (hu : Used D x) : Used E x := by
  obtain ⟨k, s, hk, hs, hx⟩ := hu
  obtain ⟨t, ht, hst⟩ := h.at_ hs
  exact ⟨k, t, by rw [h.len]; exact hk, ht, by rw [hst.lens]; exact (SameO.inSlots hst).2 hx⟩
/-- The form stays, where marks fit. -/
theorem SameO.form {D E : WD} (h : SameO D E) (hF : HeapForm D) (hp : E.pages = D.pages) (hd : E.dirty.length = D.dirty.length) (hmu : E.muts = D.muts) (p0 : 0 ≤ E.phase) (p1 : E.phase ≤ 4)
    (hm : ∀ (k : Nat) (s t : SpanD), D.spans[k]? = some s → E.spans[k]? = some t → 0 ≤ t.mark ∧ t.mark < 2 ^ t.lens.length ∧ ∀ i, i < t.lens.length → t.lens[i]?.getD 0 = 0 → ¬ bitI t.mark i) : HeapForm E := by
  refine ⟨by rw [h.base, hp, hmu]; exact hF.geo, by rw [h.words, hp]; exact hF.words, by rw [hd, hp]; exact hF.dirty, by rw [h.len, hp]; exact hF.spans, p0, p1, fun k t ht => ?_, fun i hi hu => ?_, by rw [hmu]; exact hF.roots⟩
  · obtain ⟨s, hs, hts⟩ := h.symm.at_ ht
    have hst := hts.symm
    have A := hF.span k s hs
    obtain ⟨m0, m1, mb⟩ := hm k s t hs ht
    refine ⟨by rw [hst.page]; exact A.pg0, by rw [hst.page, hp]; exact A.pg1, fun t' hk ht' => ?_, by rw [hst.cls]; exact A.cls, by rw [hst.lens, hst.cls]; exact A.lens, by rw [hst.ptrs, hst.cls]; exact A.ptrs, fun i hi => ?_, m0, m1⟩
    · obtain ⟨s', hs', hts'⟩ := h.symm.at_ ht'
      have := A.prev s' hk hs'
      rw [hst.page, hts'.symm.page]
      exact this
    · have S := A.slot i (by rw [← hst.lens]; exact hi)
      exact ⟨by rw [hst.lens]; exact S.l0, by rw [hst.lens, hst.cls]; exact S.l1, by rw [hst.ptrs]; exact S.p0, by rw [hst.ptrs, hst.lens]; exact S.p1, fun hz => mb i hi hz⟩
  · rw [h.words] at hi ⊢
    exact hF.zero i hi fun hu' => hu (h.used hu')

theorem ShadeIs.rest {D E : WD} {a : Int} (h : ShadeIs D a E) : E.pages = D.pages ∧ E.dirty = D.dirty ∧ E.muts = D.muts ∧ E.phase = D.phase ∧ E.next = D.next := by
  rcases h with ⟨k, j, s, _, _, _, _, rfl⟩ | ⟨_, rfl⟩
  · exact ⟨rfl, rfl, rfl, rfl, rfl⟩
  · exact ⟨rfl, rfl, rfl, rfl, rfl⟩
theorem ShadeIs.form {D E : WD} {a : Int} (hF : HeapForm D) (h : ShadeIs D a E) : HeapForm E := by
  have hO := h.same
  have hR := h.rest
  refine hO.form hF hR.1 (by rw [hR.2.1]) hR.2.2.1 (by rw [hR.2.2.2.1]; exact hF.ph0) (by rw [hR.2.2.2.1]; exact hF.ph1) fun q t u h1 h2 => ?_
  have A := hF.span q t h1
  have old : u = t → 0 ≤ u.mark ∧ u.mark < 2 ^ u.lens.length ∧ ∀ i, i < u.lens.length → u.lens[i]?.getD 0 = 0 → ¬ bitI u.mark i := by
    rintro rfl
    exact ⟨A.mk0, A.mk1, fun i hi hz => (A.slot i hi).bit hz⟩
  rcases h with ⟨k, j, s, _, ho, hs, hnm, rfl⟩ | ⟨_, rfl⟩
  · by_cases e : q = k
    · subst e
      rw [hs] at h1
      cases h1
      obtain ⟨s', hs', hj, hl, _⟩ := ho
      rw [hs] at hs'
      cases hs'
      have hlen := (List.getElem?_eq_some_iff.1 hs).1
      obtain ⟨m0, m1, j16⟩ := mark_range hF hs hj
      obtain ⟨n, r, e1, e2, _, hlt⟩ := or_nat m0 m1 j16
      have hu : u = { t with mark := bits .or .i64 t.mark ((2 : Int) ^ j) } := by
        simp [shadeD, hlen] at h2
        exact h2.symm
      subst hu
      have e3 : ((2 : Int) ^ t.lens.length) = ((2 ^ t.lens.length : Nat) : Int) := by simp
      have hm1 := A.mk1
      refine ⟨by show 0 ≤ bits .or .i64 t.mark ((2 : Int) ^ j); omega, ?_, fun i hi hz hb => ?_⟩
      · show bits .or .i64 t.mark ((2 : Int) ^ j) < 2 ^ t.lens.length
        have := hlt t.lens.length (by omega) hj
        rw [e2, e3]
        omega
      · rcases (bit_or m0 m1 j16 i).1 hb with hb | rfl
        · exact (A.slot i hi).bit hz hb
        · have hz' : t.lens[i]?.getD 0 = 0 := hz
          omega
    · simp only [shadeD] at h2
      rw [List.getElem?_set_ne (fun h => e h.symm), h1] at h2
      cases h2
      exact old rfl
  · rw [h1] at h2
    cases h2
    exact old rfl

/-- What holds in the midst of a step in which the addresses Z are still to be shaded. -/
structure Mid (D : WD) (Z : List Int) : Prop where
  form : HeapForm D
  ph : D.phase = 1 ∨ D.phase = 2
  roots : ∀ r, r ∈ D.muts → ∀ a, a ∈ r → a = 0 ∨ HasObj D a
  ptrs : ∀ a k j s, IsObj D a k j → D.spans[k]? = some s → ∀ b, b ∈ ptrW D s j → b = 0 ∨ HasObj D b
  span : ∀ s, s ∈ D.spans → SpanRight D s
  next : NextRight D
  grey : GreyMarked D D.grey
  seen : ∀ (m : Nat) (r : List Int), D.muts[m]? = some r → SeenP D m → ∀ a, a ∈ r → KeptP D Z a
  kept : ∀ a k j s, IsObj D a k j → D.spans[k]? = some s → MarkedP D k j → ∀ b, b ∈ ptrW D s j → KeptP D Z b
theorem GreyMarked.add {D : WD} {L : List Int} {x : Int} (h : GreyMarked D L) (hm : MarkedObj D x) (hx : x ∉ L) : GreyMarked D (L ++ [x]) :=
  ⟨List.nodup_append.2 ⟨h.1, by simp, fun a ha b hb => by obtain rfl := List.mem_singleton.1 hb; exact fun e => hx (e ▸ ha)⟩, fun a ha => (List.mem_append.1 ha).elim (h.2 a) fun hb => by rw [List.mem_singleton.1 hb]; exact hm⟩
theorem Mid.shade {D E : WD} {b : Int} {Z : List Int} (h : Mid D (b :: Z)) (hs : ShadeIs D b E) : Mid E Z := by
  have hO := hs.same
  obtain ⟨r1, r2, r3, r4, r5⟩ := hs.rest
  have hE := hs.form h.form
  have hptr : ∀ a k j s, IsObj E a k j → E.spans[k]? = some s → ∀ b, b ∈ ptrW E s j → b = 0 ∨ HasObj E b := fun a k j t ho ht b hb => by
    obtain ⟨s, hs, hts⟩ := hO.symm.at_ ht
    rw [hO.ptrs hts.symm] at hb
    exact (h.ptrs a k j s (hO.symm.obj ho) hs b hb).imp id hO.has.2
  refine ⟨hE, by rw [r4]; exact h.ph, by rw [r3]; exact fun r hr a ha => (h.roots r hr a ha).imp id hO.has.2, hptr, fun t ht => ?_, ?_, ?_, ?_, fun a k j t ho ht hm c hc => ?_⟩
  · obtain ⟨q, hq⟩ := List.mem_iff_getElem?.1 ht
    rcases hs with ⟨k, j, s, hph, ho, hsk, hnm, rfl⟩ | ⟨_, rfl⟩
    · by_cases e : q = k
      · subst e
        have hl := (List.getElem?_eq_some_iff.1 hsk).1
        simp [shadeD, hl] at hq
        subst hq
        have hr := h.span s (List.mem_of_getElem? hsk)
        refine ⟨fun hsw => hr.1 hsw, fun _ => ⟨fun e => ?_, ?_⟩⟩
        · have e' : D.phase = 0 := e
          omega
        · show s.swept = false
          cases hsw : s.swept
          · rfl
          · have := hr.1 hsw
            omega
      · simp only [shadeD] at hq
        rw [List.getElem?_set_ne (fun h => e h.symm)] at hq
        exact h.span t (List.mem_of_getElem? hq)
    · exact h.span t ht
  · unfold NextRight
    rw [r5, r3, r4]
    exact h.next
  · have hold : GreyMarked E D.grey := ⟨h.grey.1, fun a ha => hs.keeps h.form (h.grey.2 a ha)⟩
    rcases id hs with ⟨k, j, s, hph, ho, hsk, hnm, rfl⟩ | ⟨_, rfl⟩
    · refine hold.add (hs.marked h.form h.ph ⟨k, j, ho⟩) fun hb => ?_
      obtain ⟨q, i, hoq, hmq⟩ := h.grey.2 b hb
      obtain ⟨rfl, rfl⟩ := hoq.unique h.form ho
      exact hnm ((MarkedP.iff hsk).1 hmq)
    · exact hold
  · intro m r hr hsn a ha
    rw [r3] at hr
    exact hs.kept h.form h.ph (h.seen m r hr (by unfold SeenP at hsn ⊢; rw [r4, r5] at hsn; exact hsn) a ha)
  · obtain ⟨s, hsk, hts⟩ := hO.symm.at_ ht
    have hcD : c ∈ ptrW D s j := by rw [hO.ptrs hts.symm] at hc; exact hc
    by_cases hmD : MarkedP D k j
    · exact hs.kept h.form h.ph (h.kept a k j s (hO.symm.obj ho) hsk hmD c hcD)
    · rcases hptr a k j t ho ht c hc with rfl | hob
      · exact .inl rfl
      · right; left
        rcases id hs with ⟨k', j', s', hph, ho', hs', hnm, rfl⟩ | ⟨_, rfl⟩
        · have hj : j' < s'.lens.length := by obtain ⟨u, hu, hj, _⟩ := ho'; rw [hs'] at hu; cases hu; exact hj
          rcases (shade_marked h.form hs' hj).1 hm with hm | ⟨rfl, rfl⟩
          · exact absurd hm hmD
          · have hab : a = b := by
              obtain ⟨u, hu, _, _, e1⟩ := hO.symm.obj ho
              obtain ⟨u', hu', _, _, e2⟩ := ho'
              rw [hu] at hu'
              cases hu'
              omega
            subst hab
            exact .grey ⟨a, k, j, t, by simp [shadeD], ho, ht, hc⟩ hob
        · exact absurd hm hmD
/-- Each of a list is shaded, one after the other. -/
inductive ShadesIs : WD → List Int → WD → Prop
  | nil (D : WD) : ShadesIs D [] D
  | cons {D E F : WD} {a : Int} {L : List Int} : ShadeIs D a E → ShadesIs E L F → ShadesIs D (a :: L) F
theorem Mid.shades {D E : WD} {L Z : List Int} (h : Mid D (L ++ Z)) (hs : ShadesIs D L E) : Mid E Z := by
  induction hs with
  | nil D => exact h
  | cons h1 h2 ih => exact ih (h.shade h1)
theorem ShadeIs.unique {D : WD} {a : Int} {E F : WD} (hF : HeapForm D) (h : ShadeIs D a E) (g : ShadeIs D a F) : F = E := by
  rcases h with ⟨k, j, s, hp, ho, hs, hb, rfl⟩ | ⟨hn, rfl⟩ <;> rcases g with ⟨k', j', s', hp', ho', hs', hb', rfl⟩ | ⟨hn', rfl⟩
  · obtain ⟨rfl, rfl⟩ := ho.unique hF ho'
    rw [hs] at hs'
    cases hs'
    rfl
  · exact absurd ((MarkedP.iff hs).1 (hn' hp k j ho)) hb
  · exact absurd ((MarkedP.iff hs').1 (hn hp' k' j' ho')) hb'
  · rfl
end Go.Proofs.YtmkldekangdfmaaGreat
