/- The walk of the document's One. -/
import Derived.Test.YtmamklahnpmgjaaS2
namespace Go.Proofs.Ytmamklahnpmgjaa
open Go.RowKit
attribute [local go_sem] store_one B_match B_store

set_option maxRecDepth 100000 in
set_option maxHeartbeats 4000000 in
theorem one_any (s : List UInt8) (p : Nat) (hp : p ≤ s.length) (hs : s.length < 1000000000) (w : World) :
    Calls Try.prog 22 #[S s, .int .i64 (p : Int)] w fun e w' => e = .returned (.int .i64 (oneF shp (s.drop p) 0)) ∧ Below w.heap.size w w' := by
  have hlenS := run_len_S (P := Try.prog) Try.underlying9 3 s
  have hgl := guard_leq 5
  have hgg := guard_geq 5
  go_enter Try.func22, Try.ntmps22
  go_wp2_with fail
  refine (shapes_any w).mono ?_
  rintro e W1 ⟨rfl, hsh, B1⟩
  obtain ⟨g, hg0⟩ : ∃ g, g = w.heap.size := ⟨_, rfl⟩
  have HG := Lib.hid hg0
  rw [← hg0] at hsh B1
  rw [← hg0]
  have hg : g + 10 < W1.heap.size := (Array.getElem?_eq_some_iff.1 hsh.2).1
  have H1 := Lib.hid (And.intro hsh B1)
  clear hsh B1 hg0
  obtain ⟨t, ht⟩ : ∃ t, t = s.drop p := ⟨_, rfl⟩
  have htl : t.length = s.length - p := by rw [ht, List.length_drop]
  have HT := Lib.hid ht
  have HTL := Lib.hid htl
  clear ht htl
  go_wp2
  go_loopw [6, 7] (fun mv iv wr => ∃ i most : Nat, i ≤ 9 ∧ most ≤ 4 ∧ iv = .int .i64 i ∧ mv = .int .i64 most ∧ oneF shp (s.drop p) 0 = oneF (shp.drop i) (s.drop p) most ∧ Shapes wr g ∧ Below g w wr ∧ W1.heap.size ≤ wr.heap.size) (fun _ iv _ => 9 - (intOf iv).toNat)
  case atStart => exact ⟨0, 0, by omega, by omega, rfl, rfl, rfl, H1.out.1, H1.out.2, Nat.le_refl _⟩
  case round =>
    obtain ⟨i, most, hi, hm, rfl, rfl, hf, hsh, hB, hsz⟩ := hrel
    rw [← HT.out] at hf
    have HF := Lib.hid hf
    clear hf
    by_cases hlt : i < 9
    · obtain ⟨l, hl⟩ : ∃ l, shp[i]? = some l := ⟨shp[i]'hlt, List.getElem?_eq_getElem hlt⟩
      have hl4 : l.length ≤ 4 := (by decide : ∀ k : Fin 9, (shp[k.val]'k.isLt).length ≤ 4) ⟨i, hlt⟩ |> fun h => by
        have := (List.getElem?_eq_some_iff.1 hl).2
        rw [← this]; exact h
      have HW := Lib.hid (And.intro hsh (And.intro hB hsz))
      have HL := Lib.hid hl
      obtain ⟨q, hq⟩ : ∃ q, q = pre l t := ⟨_, rfl⟩
      have hql := pre_le l t
      rw [← hq] at hql
      have HQ := Lib.hid hq
      clear hsh hB hsz hl hq
      go_wp2
      go_loopw [8] (fun nv wr => ∃ n : Nat, n ≤ q ∧ nv = .int .i64 n ∧ Shapes wr g ∧ Below g w wr ∧ W1.heap.size ≤ wr.heap.size) (fun nv _ => q - (intOf nv).toNat)
      case atStart => exact ⟨0, Nat.zero_le _, rfl, HW.out⟩
      case round =>
        obtain ⟨n, hn, rfl, hsh, hB, hsz⟩ := hrel
        obtain ⟨hc0, hcn⟩ := hsh.at HL.out
        have HW2 := Lib.hid (And.intro hsh (And.intro hB hsz))
        clear hsh hB hsz
        by_cases hnq : n < q
        · obtain ⟨ab, c, h1, h2, h3, h4⟩ := pre_more l t n (by rw [← HQ.out]; exact hnq)
          obtain ⟨ha, hb⟩ := hcn n ab h1
          have hnl := (List.getElem?_eq_some_iff.1 h1).1
          have hnt := (List.getElem?_eq_some_iff.1 h2).1
          have hpc : s[p + n]? = some c := by rw [HT.out, List.getElem?_drop] at h2; exact h2
          have hidx : ∀ w, (Instr.index 9 (S s) (.int .i64 ((p : Int) + (n : Int)))).run Try.prog w = .ok (B c) w := fun w => by
            have := index_S (P := Try.prog) Try.underlying9 s (p + n) c hpc w
            rw [show ((p + n : Nat) : Int) = (p : Int) + (n : Int) by omega] at this
            exact this
          have hpn : (p : Int) + (n : Int) < (s.length : Int) := by have := HTL.out; omega
          have hle := B_leq 5 c ab.2
          rw [show decide (c ≤ ab.2) = true from decide_eq_true h4] at hle
          have hge := B_geq 5 c ab.1
          rw [show decide (ab.1 ≤ c) = true from decide_eq_true h3] at hge
          have hnlI : decide (n < l.length) = true := decide_eq_true hnl
          have hpnB : decide ((p : Int) + (n : Int) < (s.length : Int)) = true := decide_eq_true hpn
          have hwr : IntKind.i64.wrap ((p : Int) + (n : Int)) = (p : Int) + (n : Int) := by rw [IntKind.wrap_i64]; have := HTL.out; omega
          have hw0 : (0 : Int) ≤ (p : Int) + (n : Int) := by omega
          generalize l.length = L at *
          clear hcn h1 h2 h3 h4 hpc
          go_wp2
          go_quiet (fail)
          clear hwr
          go_wp2
          have hsz2 : W1.heap.size ≤ (wr.drewN nq).heap.size := HW2.out.2.2
          exact ⟨⟨n + 1, by omega, by go_num, HW2.out.1, HW2.out.2.1.trans ((below_drewN wr nq).mono (by have := HW2.out.2.2; omega)), hsz2⟩, by simp [intOf]; omega⟩
        · obtain rfl : n = q := by omega
          have hend := pre_end l t
          rw [← HQ.out] at hend
          have hstep : oneF (shp.drop i) t most = if n = l.length then (l.length : Int) else if n = t.length then 0 else oneF (shp.drop (i + 1)) t (max most n) := by
            have hd : shp.drop i = l :: shp.drop (i + 1) := by
              have := List.drop_eq_getElem_cons (show i < shp.length from hlt)
              rw [this, (List.getElem?_eq_some_iff.1 HL.out).2]
            rw [hd, oneF, ← HQ.out]
          have HS := Lib.hid hstep
          clear hstep
          by_cases ha : n = l.length
          · have HR : Hid ((n : Int) = oneF shp (s.drop p) 0) := Lib.hid (by
              have := HS.out
              rw [if_pos ha] at this
              have h2 := HF.out
              rw [HT.out] at h2 this
              rw [h2, this, ha])
            rw [← ha] at hc0
            clear hcn hend ha
            go_wp2
            go_quiet (fail)
            go_wp2
            go_ret
            exact ⟨congrArg Ending.returned (show Value.int .i64 (n : Int) = .int .i64 (oneF shp (s.drop p) 0) from by rw [HR.out]), by
              rw [← HG.out]; exact HW2.out.2.1.trans ((below_drewN wr nq).mono (by have := HW2.out.2.2; omega))⟩
          · have haL : n < l.length := by omega
            have haB : decide (n < l.length) = true := decide_eq_true haL
            have haE : (n == l.length) = false := by rw [beq_eq_false_iff_ne]; exact ha
            have haI : ((n : Int) == (l.length : Int)) = false := by rw [beq_eq_false_iff_ne]; omega
            have hwr : IntKind.i64.wrap ((p : Int) + (n : Int)) = (p : Int) + (n : Int) := by rw [IntKind.wrap_i64]; have := HTL.out; omega
            have hw0 : (0 : Int) ≤ (p : Int) + (n : Int) := by omega
            by_cases hb : n = t.length
            · have HR : Hid ((0 : Int) = oneF shp (s.drop p) 0) := Lib.hid (by
                have := HS.out
                rw [if_neg ha, if_pos hb] at this
                have h2 := HF.out
                rw [HT.out] at h2 this
                rw [h2, this])
              have hbe : (p : Int) + (n : Int) = (s.length : Int) := by have := HTL.out; omega
              have hbB : decide ((p : Int) + (n : Int) < (s.length : Int)) = false := by rw [decide_eq_false_iff_not]; omega
              have hbE : ((p : Int) + (n : Int) == (s.length : Int)) = true := by rw [beq_iff_eq]; exact hbe
              clear hcn hend ha hb hbe
              generalize l.length = L at *
              go_wp2
              go_quiet (fail)
              clear hwr
              go_wp2
              go_ret
              exact ⟨congrArg Ending.returned (show Value.int .i64 0 = .int .i64 (oneF shp (s.drop p) 0) from by rw [← HR.out]), by
                rw [← HG.out]; exact HW2.out.2.1.trans ((below_drewN wr nq).mono (by have := HW2.out.2.2; omega))⟩
            · have hnt : n < t.length := by omega
              have HR : Hid (oneF shp (s.drop p) 0 = oneF (shp.drop (i + 1)) (s.drop p) (max most n)) := Lib.hid (by
                have := HS.out
                rw [if_neg ha, if_neg hb] at this
                have h2 := HF.out
                rw [HT.out] at h2 this
                rw [h2, this])
              obtain ⟨ab, h1⟩ : ∃ ab, l[n]? = some ab := ⟨l[n], List.getElem?_eq_getElem haL⟩
              obtain ⟨c, h2⟩ : ∃ c, t[n]? = some c := ⟨t[n], List.getElem?_eq_getElem hnt⟩
              obtain ⟨hab, hbb⟩ := hcn n ab h1
              have hpc : s[p + n]? = some c := by rw [HT.out, List.getElem?_drop] at h2; exact h2
              have hidx : ∀ w, (Instr.index 9 (S s) (.int .i64 ((p : Int) + (n : Int)))).run Try.prog w = .ok (B c) w := fun w => by
                have := index_S (P := Try.prog) Try.underlying9 s (p + n) c hpc w
                rw [show ((p + n : Nat) : Int) = (p : Int) + (n : Int) by omega] at this
                exact this
              have hpn : (p : Int) + (n : Int) < (s.length : Int) := by have := HTL.out; omega
              have hpnB : decide ((p : Int) + (n : Int) < (s.length : Int)) = true := decide_eq_true hpn
              have hpnE : ((p : Int) + (n : Int) == (s.length : Int)) = false := by rw [beq_eq_false_iff_ne]; omega
              have hor : ¬ ab.1 ≤ c ∨ (ab.1 ≤ c ∧ ¬ c ≤ ab.2) := by
                by_cases h3 : ab.1 ≤ c
                · exact .inr ⟨h3, fun h4 => hend ⟨ab, c, h1, h2, h3, h4⟩⟩
                · exact .inl h3
              have hle := B_leq 5 c ab.2
              have hge := B_geq 5 c ab.1
              have hmx : max most n = if most < n then n else most := by rw [Nat.max_def]; split <;> split <;> omega
              have HMX := Lib.hid hmx
              have hn4 : n ≤ 4 := by omega
              clear hcn hend h1 h2 hpc ha hb hmx
              generalize l.length = L at *
              by_cases hmo : most < n
              · have hmB : decide (most < n) = true := decide_eq_true hmo
                rcases hor with h3 | ⟨h3, h4⟩
                · rw [show decide (ab.1 ≤ c) = false from decide_eq_false h3] at hge
                  clear h3
                  go_wp2
                  go_quiet (fail)
                  clear hwr
                  go_wp2
                  have hsz2 : W1.heap.size ≤ (wr.drewN nq).heap.size := HW2.out.2.2
                  exact ⟨⟨i + 1, n, by omega, by omega, by go_num, rfl, by rw [HR.out, HMX.out, if_pos hmo], HW2.out.1, HW2.out.2.1.trans ((below_drewN wr nq).mono (by have := HW2.out.2.2; omega)), hsz2⟩, by simp [intOf]; omega⟩
                · rw [show decide (ab.1 ≤ c) = true from decide_eq_true h3] at hge
                  rw [show decide (c ≤ ab.2) = false from decide_eq_false h4] at hle
                  clear h3 h4
                  go_wp2
                  go_quiet (fail)
                  clear hwr
                  go_wp2
                  have hsz2 : W1.heap.size ≤ (wr.drewN nq).heap.size := HW2.out.2.2
                  exact ⟨⟨i + 1, n, by omega, by omega, by go_num, rfl, by rw [HR.out, HMX.out, if_pos hmo], HW2.out.1, HW2.out.2.1.trans ((below_drewN wr nq).mono (by have := HW2.out.2.2; omega)), hsz2⟩, by simp [intOf]; omega⟩
              · have hmB : decide (most < n) = false := decide_eq_false hmo
                rcases hor with h3 | ⟨h3, h4⟩
                · rw [show decide (ab.1 ≤ c) = false from decide_eq_false h3] at hge
                  clear h3
                  go_wp2
                  go_quiet (fail)
                  clear hwr
                  go_wp2
                  have hsz2 : W1.heap.size ≤ (wr.drewN nq).heap.size := HW2.out.2.2
                  exact ⟨⟨i + 1, most, by omega, by omega, by go_num, rfl, by rw [HR.out, HMX.out, if_neg hmo], HW2.out.1, HW2.out.2.1.trans ((below_drewN wr nq).mono (by have := HW2.out.2.2; omega)), hsz2⟩, by simp [intOf]; omega⟩
                · rw [show decide (ab.1 ≤ c) = true from decide_eq_true h3] at hge
                  rw [show decide (c ≤ ab.2) = false from decide_eq_false h4] at hle
                  clear h3 h4
                  go_wp2
                  go_quiet (fail)
                  clear hwr
                  go_wp2
                  have hsz2 : W1.heap.size ≤ (wr.drewN nq).heap.size := HW2.out.2.2
                  exact ⟨⟨i + 1, most, by omega, by omega, by go_num, rfl, by rw [HR.out, HMX.out, if_neg hmo], HW2.out.1, HW2.out.2.1.trans ((below_drewN wr nq).mono (by have := HW2.out.2.2; omega)), hsz2⟩, by simp [intOf]; omega⟩
    · obtain rfl : i = 9 := by omega
      have hR : oneF shp (s.drop p) 0 = -1 - (most : Int) := by
        have := HF.out
        rw [HT.out] at this
        rw [this]; rfl
      have HR := Lib.hid hR
      clear hR
      rw [show (((9 : Nat) : Int)) = 9 from rfl]
      go_wp2
      go_ret
      exact ⟨congrArg Ending.returned (show Value.int .i64 (-1 - (most : Int)) = .int .i64 (oneF shp (s.drop p) 0) from by rw [HR.out]), by rw [← HG.out]; exact hB⟩
end Go.Proofs.Ytmamklahnpmgjaa
