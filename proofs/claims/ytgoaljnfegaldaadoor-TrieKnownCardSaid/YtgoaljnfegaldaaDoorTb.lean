/- The law's GreatPath, sameFields, wakes (stage 12) walked. (mktb.py writes it.) -/
import Derived.Test.YtgoaljnfegaldaaDoorTa
namespace Go.Proofs.YtgoaljnfegaldaaDoor
open Go.RowKit
attribute [local go_sem] store_one B_match B_store S_match S_store

def greatF (l : List Txt) : Bool := decide (12 < l.length) || l.any fun s => decide (40 < s.length)
theorem great_ok {l : List Txt} (h : greatF l = false) : PathOk l := by
  unfold greatF at h
  rw [Bool.or_eq_false_iff, List.any_eq_false] at h
  exact ⟨by have := of_decide_eq_false h.1; omega, fun s hs => by have := h.2 s hs; rw [decide_eq_true_eq] at this; omega⟩
set_option maxRecDepth 100000 in
set_option maxHeartbeats 1000000 in
theorem great12_any (l : List Txt) (V : Value) (b o : Nat) (w : World) (hV : TA w V l b o) : Calls Tryd.prog 7 #[V] w fun e w' => e = .returned (.bool (greatF l)) ∧ w' = w := by
  have hlV := hV.len 3
  obtain ⟨N, hN⟩ : ∃ N, N = l.length := ⟨_, rfl⟩
  rw [← hN] at hlV
  have HV := Lib.hid (And.intro hV hN)
  obtain ⟨O, hO⟩ : ∃ O, O = greatF l := ⟨_, rfl⟩
  rw [← hO]
  have HO := Lib.hid hO
  clear hV hN hO
  by_cases h12 : 12 < N
  · have g1 : decide ((12 : Int) < (N : Int)) = true := decide_eq_true (by omega)
    have HP : Hid (O = true) := Lib.hid (by rw [HO.out]; unfold greatF; rw [decide_eq_true (by rw [← HV.out.2]; exact h12)]; rfl)
    go_enter Tryd.func7, Tryd.ntmps7
    go_wp2
    go_ret
    exact ⟨by rw [HP.out]; rfl, rfl⟩
  have g1 : decide ((12 : Int) < (N : Int)) = false := decide_eq_false (by omega)
  go_enter Tryd.func7, Tryd.ntmps7
  go_wp2
  go_loopw [3] (fun iv wr => ∃ i : Nat, i ≤ N ∧ iv = .int .i64 (i : Int) ∧ wr = w ∧ Hid (∀ s ∈ l.take i, s.length ≤ 40)) (fun iv _ => N - (intOf iv).toNat)
  case atStart => exact ⟨0, Nat.zero_le _, rfl, rfl, Lib.hid (by simp)⟩
  case round =>
    obtain ⟨i, hi, rfl, hwr, HR⟩ := hrel
    subst hwr
    by_cases hlt : i < N
    · have g2 : decide ((i : Int) < (N : Int)) = true := decide_eq_true (by omega)
      obtain ⟨x, hx⟩ : ∃ x, l[i]? = some x := ⟨l[i]'(by have := HV.out.2; omega), List.getElem?_eq_getElem _⟩
      have hix := HV.out.1.index i (by have := HV.out.2; omega)
      have k0 := HV.out.1.cell i x hx
      obtain ⟨kk, hkk⟩ : ∃ k, k = o + i := ⟨_, rfl⟩
      rw [← hkk] at hix k0
      have hl1 := run_len_S (P := Tryd.prog) Tryd.underlying9 3 x
      obtain ⟨lx, hlx⟩ : ∃ a, a = x.length := ⟨_, rfl⟩
      rw [← hlx] at hl1
      have hw1 : IntKind.i64.wrap ((i : Int) + 1) = (i : Int) + 1 := by rw [IntKind.wrap_i64]; omega
      by_cases h40 : 40 < lx
      · have g3 : decide ((40 : Int) < (lx : Int)) = true := decide_eq_true (by omega)
        have HP : Hid (O = true) := Lib.hid (by
          rw [HO.out]; unfold greatF
          rw [Bool.or_eq_true, List.any_eq_true]
          exact .inr ⟨x, List.mem_of_getElem? hx, decide_eq_true (by omega)⟩)
        clear hx hlx hkk
        go_wp2
        go_ret
        exact ⟨by rw [HP.out]; rfl, rfl⟩
      · have g3 : decide ((40 : Int) < (lx : Int)) = false := decide_eq_false (by omega)
        have HX : Hid (∀ s ∈ l.take (i + 1), s.length ≤ 40) := Lib.hid (by
          intro s hs
          rw [List.take_add_one, hx] at hs
          rcases List.mem_append.1 hs with hs | hs
          · exact HR.out s hs
          · have : s = x := by simpa using hs
            rw [this]; omega)
        clear hx hlx hkk
        go_wp2
        exact ⟨⟨i + 1, by omega, by go_num, by trivial, HX⟩, by simp [intOf]; omega⟩
    · obtain rfl : i = N := by omega
      have HP : Hid (O = false) := Lib.hid (by
        have h := HR.out
        rw [HV.out.2, List.take_length] at h
        rw [HO.out]; unfold greatF
        rw [Bool.or_eq_false_iff, List.any_eq_false]
        exact ⟨decide_eq_false (by rw [← HV.out.2]; exact h12), fun s hs => by have := h s hs; rw [decide_eq_true_eq]; omega⟩)
      have g2 : decide ((i : Int) < (i : Int)) = false := decide_eq_false (by omega)
      go_wp2
      go_ret
      exact ⟨by rw [HP.out]; rfl, rfl⟩
set_option maxRecDepth 100000 in
set_option maxHeartbeats 1000000 in
theorem sameF12_true (fs : List (Txt × Txt)) (Va Vb : Value) (ga oa gb ob : Nat) (hlen : fs.length ≤ 1000000) (w : World) (ha : FA w Va fs ga oa) (hb : FA w Vb fs gb ob) :
    Calls Tryd.prog 13 #[Va, Vb] w fun e w' => e = .returned (.bool true) ∧ Below w.heap.size w w' := by
  have hla := ha.len 3
  have hlb := hb.len 3
  have HH := Lib.hid (And.intro ha hb)
  obtain ⟨N, hN⟩ : ∃ N, N = fs.length := ⟨_, rfl⟩
  rw [← hN] at hla hlb hlen
  have HN := Lib.hid hN
  clear hN ha hb
  have g0 : ((N : Int) != (N : Int)) = false := by simp
  go_enter Tryd.func13, Tryd.ntmps13
  go_wp2
  go_loopw [5] (fun iv wr => ∃ i : Nat, i ≤ N ∧ iv = .int .i64 (i : Int) ∧ Hid (Below w.heap.size w wr)) (fun iv _ => N - (intOf iv).toNat)
  case atStart => exact ⟨0, Nat.zero_le _, rfl, Lib.hid (Below.refl _ _)⟩
  case round =>
    obtain ⟨i, hi, rfl, HB⟩ := hrel
    by_cases hlt : i < N
    · have g1 : decide ((i : Int) < (N : Int)) = true := decide_eq_true (by omega)
      obtain ⟨⟨n, u⟩, hf⟩ : ∃ f, fs[i]? = some f := ⟨fs[i]'(by have := HN.out; omega), List.getElem?_eq_getElem _⟩
      have ha := HH.out.1.below HB.out
      have hb := HH.out.2.below HB.out
      have hia := ha.index i (by have := HN.out; omega)
      have hib := hb.index i (by have := HN.out; omega)
      have ca := ha.cell i _ hf
      have cb := hb.cell i _ hf
      obtain ⟨ka, hka⟩ : ∃ k, k = oa + i * 2 := ⟨_, rfl⟩
      obtain ⟨kb, hkb⟩ : ∃ k, k = ob + i * 2 := ⟨_, rfl⟩
      rw [← hka] at hia ca
      rw [← hkb] at hib cb
      have ca0 : wr.cell? ⟨ga, ka, none⟩ = some (S n) := ca.1
      have ca1 : wr.cell? ⟨ga, ka + 1, none⟩ = some (S u) := ca.2
      have cb0 : wr.cell? ⟨gb, kb, none⟩ = some (S n) := cb.1
      have cb1 : wr.cell? ⟨gb, kb + 1, none⟩ = some (S u) := cb.2
      have ea0 : wr.drew.cell? ⟨ga, ka, none⟩ = some (S n) := ca.1
      have ea1 : wr.drew.cell? ⟨ga, ka + 1, none⟩ = some (S u) := ca.2
      have eb0 : wr.drew.cell? ⟨gb, kb, none⟩ = some (S n) := cb.1
      have eb1 : wr.drew.cell? ⟨gb, kb + 1, none⟩ = some (S u) := cb.2
      have hw1 : IntKind.i64.wrap ((i : Int) + 1) = (i : Int) + 1 := by rw [IntKind.wrap_i64]; omega
      have q1 := eq_self n
      have q2 := eq_self u
      clear ha hb ca cb hf hka hkb
      have hmx : Tryd.prog.follows .mixedOrders = true := by kernel_rfl
      go_wp2
      go_region
      go_wp2
      exact ⟨⟨i + 1, by omega, by go_num, Lib.hid (HB.out.trans ⟨rfl, rfl, rfl, Nat.le_refl _, fun _ _ => rfl⟩)⟩, by simp [intOf]; omega⟩
    · have g1 : decide ((i : Int) < (N : Int)) = false := decide_eq_false (by omega)
      go_wp2
      go_ret
      exact ⟨rfl, HB.out⟩
def bestB (l : Ents Int) (path : List Txt) (e : Txt × Int) : Bool := l.contains e && (fitsF (segD e.1) path && l.all fun f => !fitsF (segD f.1) path || (decide (f = e) || betterF (segD e.1) (segD f.1)))
theorem best_of {l : Ents Int} {path : List Txt} {e : Txt × Int} (h : bestB l path e = true) : FindIs l path (some e) := by
  unfold bestB at h
  rw [Bool.and_eq_true, Bool.and_eq_true, List.all_eq_true] at h
  refine ⟨List.contains_iff_mem.1 h.1, h.2.1, fun f hf hff => ?_⟩
  have := h.2.2 f hf
  rw [hff] at this
  simpa using this
def wk1 : Ents Int := [([47, 97, 47, 58, 120], 2)]
def wk2 : Ents Int := [([47, 97, 47, 58, 120], 2), ([47, 97, 47, 98], 3)]
set_option maxRecDepth 100000 in
set_option maxHeartbeats 1000000 in
theorem wakes12_any {w : World} {RA : World → (Nat → Prop) → Nat → Int → Ents Int → Prop} (C : IntI w RA) (R : RightI w) : Calls Tryd.prog 8 #[] w fun e w' => e = .returned (.bool true) ∧ Below w.heap.size w w' := by
  have HC := Lib.hid C
  have HR := Lib.hid R
  clear C R
  have HM := Lib.hid (OneT.make HC.out 9 (by decide) (Below.refl _ w))
  go_enter Tryd.func8, Tryd.ntmps8
  go_wp2_with fail
  refine HM.out.mono ?_
  rintro e W1 ⟨g, rfl, hT⟩
  have HT := Lib.hid hT
  clear hT HM
  have ha := OneT.add HC.out HT.out [47, 97, 47, 58, 120] 2 (by decide)
  rw [show addE ((9 : Nat) : Int) [] [47, 97, 47, 58, 120] 2 = (0, wk1) by decide] at ha
  have HA := Lib.hid ha
  clear ha
  go_wp2_with fail
  refine HA.out.mono ?_
  rintro e W2 ⟨rfl, hT⟩
  clear HT
  have HT := Lib.hid hT
  clear hT HA
  have ha := OneT.add HC.out HT.out [47, 97, 47, 98] 3 (by decide)
  rw [show addE ((9 : Nat) : Int) wk1 [47, 97, 47, 98] 3 = (0, wk2) by decide] at ha
  have HA := Lib.hid ha
  clear ha
  go_wp2_with fail
  refine HA.out.mono ?_
  rintro e W3 ⟨rfl, hT⟩
  clear HT
  have HT := Lib.hid hT
  clear hT HA
  have ha := OneT.add HC.out HT.out [47, 97, 47, 58, 121] 4 (by decide)
  rw [show addE ((9 : Nat) : Int) wk2 [47, 97, 47, 58, 121] 4 = (5, wk2) by decide] at ha
  have HA := Lib.hid ha
  clear ha
  go_wp2_with fail
  refine HA.out.mono ?_
  rintro e W4 ⟨rfl, hT⟩
  clear HT
  have HT := Lib.hid hT
  clear hT HA
  have HB5 : Hid (Below W4.heap.size W4 (W4.alloc (.cells #[.string ⟨#[97]⟩, .string ⟨#[122]⟩] 9))) := Lib.hid ((Below.refl _ W4).alloc (Nat.le_refl _) _)
  have hf := OneT.find HC.out (HT.out.below HC.out HB5.out) (path := [[97], [122]]) (V := .slice (some ⟨W4.heap.size, 0, none⟩) 2 2) (ta_row (row_new W4 #[.string ⟨#[97]⟩, .string ⟨#[122]⟩] 9) rfl) (by unfold PathOk; decide) (r := some ([47, 97, 47, 58, 120], 2)) (best_of (by decide))
  rw [show fdF (some ([47, 97, 47, 58, 120], (2 : Int))) [[97], [122]] = [([120], [122])] by decide, show iV (fdX 0 (some ([47, 97, 47, 58, 120], 2))) = .int .i64 2 from rfl, show S (fdP (some ([47, 97, 47, 58, 120], (2 : Int)))) = .string ⟨#[47, 97, 47, 58, 120]⟩ from rfl] at hf
  have HF := Lib.hid hf
  clear hf
  go_wp2_with fail
  refine HF.out.mono ?_
  rintro e W6 ⟨VF4, gf4, of4, rfl, hT, hB⟩
  clear HT
  have HT := Lib.hid hT.one
  have HFA := Lib.hid hT.row
  clear hT hB HF HB5
  have HB7 : Hid (Below W6.heap.size W6 (W6.alloc (.cells #[.string ⟨#[97]⟩, .string ⟨#[98]⟩] 9))) := Lib.hid ((Below.refl _ W6).alloc (Nat.le_refl _) _)
  have hf := OneT.find HC.out (HT.out.below HC.out HB7.out) (path := [[97], [98]]) (V := .slice (some ⟨W6.heap.size, 0, none⟩) 2 2) (ta_row (row_new W6 #[.string ⟨#[97]⟩, .string ⟨#[98]⟩] 9) rfl) (by unfold PathOk; decide) (r := some ([47, 97, 47, 98], 3)) (best_of (by decide))
  rw [show fdF (some ([47, 97, 47, 98], (3 : Int))) [[97], [98]] = [] by decide, show iV (fdX 0 (some ([47, 97, 47, 98], 3))) = .int .i64 3 from rfl, show S (fdP (some ([47, 97, 47, 98], (3 : Int)))) = .string ⟨#[47, 97, 47, 98]⟩ from rfl] at hf
  have HF := Lib.hid hf
  clear hf
  go_wp2_with fail
  refine HF.out.mono ?_
  rintro e W8 ⟨VF6, gf6, of6, rfl, hT, hB⟩
  clear HT
  have HT := Lib.hid hT.one
  have HFB := Lib.hid (HFA.out.below (HB7.out.trans (hB.mono HB7.out.size)))
  clear hT hB HF HB7
  obtain ⟨kk, hkk⟩ : ∃ k, k = of4 + 0 * 2 := ⟨_, rfl⟩
  have k := HFB.out.cell 0 ([120], [122]) rfl
  have hl : ∀ w', (Builtin.len_ #[30] 3 #[VF4]).run Tryd.prog w' = .ok (.int .i64 1) w' := HFB.out.len 3
  have hix : ∀ w', (Instr.indexAt 30 VF4 (.int .i64 0)).run Tryd.prog w' = .ok (.pointer (some ⟨gf4, kk, none⟩)) w' := by rw [hkk]; exact HFB.out.index 0 (by decide)
  rw [← hkk] at k
  have c0 := k.1
  have c1 := k.2
  have q1 : ∀ w, (Op.equalIn 9999 9 (S [120]) (.string ⟨#[120]⟩)).run Tryd.prog w = .ok true w := eq_self [120]
  have q2 : ∀ w, (Op.equalIn 9999 9 (S [122]) (.string ⟨#[122]⟩)).run Tryd.prog w = .ok true w := eq_self [122]
  have HR1 := Lib.hid (HR.out [47] W8 (by decide) HT.out.bel)
  clear k hkk HFB
  go_wp2_with fail
  refine HR1.out.mono ?_
  rintro e W9 ⟨rfl, hB⟩
  have H9 := Lib.hid (HT.out.bel.trans (hB.mono HT.out.bel.size))
  have HR2 := Lib.hid (HR.out [97] W9 (by decide) H9.out)
  clear hB HR1
  go_wp2_with fail
  refine HR2.out.mono ?_
  rintro e W10 ⟨rfl, hB⟩
  have H10 := Lib.hid (H9.out.trans (hB.mono H9.out.size))
  clear hB HR2 H9
  go_wp2
  go_ret
  exact ⟨rfl, H10.out⟩
end Go.Proofs.YtgoaljnfegaldaaDoor
