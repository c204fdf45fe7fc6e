/- The walk of Write. -/
import Derived.Test.YtihgmgphfdjcfaaDoorStr
import Derived.Test.YtihgmgphfdjcfaaDoorW4
import Derived.IntWalk
import Derived.StillTailTactics
import Derived.Deep.DeepCutAuto
import Derived.Test.YtihgmgphfdjcfaaDoorReg
namespace Go.Proofs.YtihgmgphfdjcfaaDoor
open Go.RowKit
attribute [local go_sem] U_add U_xor U_and U_or U_not U_shl U_shr store_one U_match B_match U_store B_store

theorem i38 : (Tryd.prog.info? 38).map (·.size) = some 70 := by kernel_rfl

set_option maxRecDepth 100000 in
set_option maxHeartbeats 2000000 in
theorem write_any (b : Nat) (t l : List UInt8) (w : World) (h0 : IsHash b t w) (hs : Start w) (ht : t.length + l.length < 1000000000000000) :
    Calls Tryd.prog 13 #[.pointer (some ⟨b, 0, none⟩), S l] w fun e w' => e = .returned (.tuple #[]) ∧ Mid b (t ++ l) w' ∧ Keeps b w w' := by
  obtain ⟨ws, bg, HR, hbg, hinv⟩ := h0
  have hn := HR.num hbg
  have HB := Lib.hid hbg
  have HI := Lib.hid hinv
  have HT := Lib.hid ht
  have HS := Lib.hid hs
  clear hbg hinv ht hs
  go_enter Tryd.func13, Tryd.ntmps13
  go_upto_if 12 with fail
  go_cut [] (fun wx => Mid b t wx ∧ Keeps b w wx)
  case first =>
    by_cases h : t = []
    · have hz : ((t.length : Int) == 0) = true := by subst h; rfl
      go_wp2_with (first
        | (refine wpList_load_start rfl (by with_reducible rfl) HS.out ?_)
        | (refine wpList_store_ws rfl rfl (.tmp 16) (.tmp 14) (by with_reducible rfl) b rfl start5 rfl HR HB.out ?_; intro W1 R1 K1))
      go_meet
      exact ⟨⟨start5, bg, R1, by subst h; exact inv_start bg HB.out⟩, K1⟩
    · have hz : ((t.length : Int) == 0) = false := by simp [h]
      go_wp2
      go_meet
      exact ⟨⟨ws, bg, HR, HI.out h⟩, Keeps.refl _ _⟩
  case rest =>
    obtain ⟨hm, hk⟩ := hcut
    clear hn
    go_wp2
    go_loopw [1] (fun sv wr => ∃ x r, l = x ++ r ∧ sv = S r ∧ Mid b (t ++ x) wr ∧ Keeps b w wr) (fun sv _ => slen sv)
    case atStart => exact ⟨[], l, rfl, rfl, by rw [List.append_nil]; exact hm, hk⟩
    case round =>
      obtain ⟨x, r, hl, rfl, ⟨ws1, bg1, R1, I1⟩, hk1⟩ := hrel
      have HLX := Lib.hid hl
      clear hl
      by_cases hr : r = []
      · subst hr
        go_wp2_with (with_reducible refine wpList_len_str rfl (.tmp 17) rfl [] rfl ?_)
        go_end0
        refine ⟨rfl, ?_, hk1⟩
        have e := HLX.out
        rw [List.append_nil] at e
        rw [e]; exact ⟨ws1, bg1, R1, I1⟩
      · have hpos : 0 < r.length := List.length_pos_iff.2 hr
        have hlen : (t ++ x).length + r.length < 1000000000000000 := by
          have h1 := HLX.out
          have h2 := HT.out
          rw [h1, List.length_append] at h2
          rw [List.length_append]; omega
        obtain ⟨n, hn⟩ : ∃ n, n = (t ++ x).length := ⟨_, rfl⟩
        rw [← hn] at R1 hlen
        have c69 := R1.num I1.len
        obtain ⟨m, hm⟩ : ∃ m, m = Nat.min r.length (64 - n % 64) := ⟨_, rfl⟩
        have hmr : m ≤ r.length := by rw [hm]; exact Nat.min_le_left _ _
        have hm64 : n % 64 + m ≤ 64 := by have : m ≤ 64 - n % 64 := by rw [hm]; exact Nat.min_le_right _ _
                                          omega
        have hm0 : 0 < m := by rw [hm]; exact Nat.lt_min.2 ⟨hpos, by omega⟩
        have HN := Lib.hid hn
        have HM := Lib.hid hm
        have HI1 := Lib.hid I1
        have HR1 := Lib.hid R1
        have HK1 := Lib.hid hk1
        clear hn hm I1 R1 hk1 hr
        have hi0 : ((n : Int) % 64) = ((n % 64 : Nat) : Int) := by omega
        have HI0 := Lib.hid hi0
        clear hi0
        have HA : Hid ((n : Int) + (m : Int) = ((n + m : Nat) : Int)) := by unfold Hid; omega
        have HP : Hid ((put bg1 r (n % 64) m).length = 64) := put_length _ _ _ _ HI1.out.len hm64 hmr
        by_cases hfull : n % 64 + m = 64
        · have hbe : (((n : Int) % 64 + (m : Int)) == 64) = true := by rw [beq_iff_eq]; omega
          have HF := Lib.hid hfull
          clear hfull
          go_wp2_with (first
            | (with_reducible refine wpList_len_str rfl (.tmp 17) rfl r rfl ?_)
            | (refine wpList_slice_begun rfl (.tmp 27) (.tmp 28) (by with_reducible rfl) b rfl _ (n % 64) rfl HI0.out (Nat.mod_lt _ (by decide)) ?_)
            | (refine wpList_copy_hash rfl (.tmp 29) (.tmp 30) (by with_reducible rfl) b (n % 64) _ r rfl rfl HR1.out HI1.out.len m HM.out hm64 ?_; intro W2 R2 K2; have d69 := R2.num HP.out)
            | (refine wpList_store_n rfl rfl (.tmp 39) (.tmp 37) (by with_reducible rfl) b rfl _ (n + m) rfl HA.out R2 HP.out ?_; intro W3 R3 K3)
            | (refine wpList_drop_str rfl (.tmp 40) (.tmp 41) (by with_reducible rfl) r rfl m rfl hmr ?_))
          have RD := R3.drew
          obtain ⟨bg2, hbg2⟩ : ∃ bg2, bg2 = put bg1 r (n % 64) m := ⟨_, rfl⟩
          rw [← hbg2] at RD
          have HBG := Lib.hid hbg2
          have hP2 : bg2.length = 64 := by rw [hbg2]; exact HP.out
          have HP2 := Lib.hid hP2
          have hu := Tryd.underlying36
          have hi : (Tryd.prog.info? 36).map (·.size) = some (bg2.map B).length := by rw [List.length_map, hP2]; kernel_rfl
          have hl : (bg2.map B).length = 64 := by rw [List.length_map, hP2]
          have h1 : ∀ v ∈ bg2.map B, v.oneCell' = true := fun v hv => by
            obtain ⟨x, _, rfl⟩ := List.mem_map.1 hv; rfl
          clear hbg2 hP2
          have hRD : W3.drew.rangeAt b 5 (bg2.map B) := RD.range2
          refine wp_region_noPanic ?_
          refine wp_region_held_drew (S := fun w' => w'.rangeAt b 5 (bg2.map B)) (by kernel_rfl) hRD (fun hHeld => ?_)
          refine take_at (i := 0) (d := some 47) (v := .pointer (some ⟨b, 0, none⟩)) rfl (by kernel_rfl) (by kernel_rfl) (by kernel_rfl) (fun _ _ _ h => h) (fun oi ho => ?_) hHeld ?_
          · obtain rfl := Option.some.inj ho
            exact Or.inl ⟨by rfl, fun wx _ => by go_simp⟩
          simp only [Act.put, List.setIfInBounds_toArray, List.set_cons_zero, List.set_cons_succ]
          refine take_at (i := 1) (d := some 48) (v := .pointer (some ⟨b, 0, none⟩)) rfl (by kernel_rfl) (by kernel_rfl) (by kernel_rfl) (fun _ _ _ h => h) (fun oi ho => ?_) hHeld ?_
          · obtain rfl := Option.some.inj ho
            exact Or.inl ⟨by rfl, fun wx _ => by go_simp⟩
          simp only [Act.put, List.setIfInBounds_toArray, List.set_cons_zero, List.set_cons_succ]
          refine take_at (i := 2) (d := some 49) (v := .pointer (some ⟨b, 0, none⟩)) rfl (by kernel_rfl) (by kernel_rfl) (by kernel_rfl) (fun _ _ _ h => h) (fun oi ho => ?_) hHeld ?_
          · obtain rfl := Option.some.inj ho
            exact Or.inl ⟨by rfl, fun wx _ => by go_simp⟩
          simp only [Act.put, List.setIfInBounds_toArray, List.set_cons_zero, List.set_cons_succ]
          refine take_at (i := 3) (d := some 50) (v := .pointer (some ⟨b, 0, none⟩)) rfl (by kernel_rfl) (by kernel_rfl) (by kernel_rfl) (fun _ _ _ h => h) (fun oi ho => ?_) hHeld ?_
          · obtain rfl := Option.some.inj ho
            exact Or.inl ⟨by rfl, fun wx _ => by go_simp⟩
          simp only [Act.put, List.setIfInBounds_toArray, List.set_cons_zero, List.set_cons_succ]
          refine take_at (i := 5) (d := some 52) (v := .pointer (some ⟨b, 0, none⟩)) rfl (by kernel_rfl) (by kernel_rfl) (by kernel_rfl) (fun _ _ _ h => h) (fun oi ho => ?_) hHeld ?_
          · obtain rfl := Option.some.inj ho
            exact Or.inl ⟨by rfl, fun wx _ => by go_simp⟩
          simp only [Act.put, List.setIfInBounds_toArray, List.set_cons_zero, List.set_cons_succ]
          refine take_at (i := 6) (d := some 53) (v := .pointer (some ⟨b, 0, none⟩)) rfl (by kernel_rfl) (by kernel_rfl) (by kernel_rfl) (fun _ _ _ h => h) (fun oi ho => ?_) hHeld ?_
          · obtain rfl := Option.some.inj ho
            exact Or.inl ⟨by rfl, fun wx _ => by go_simp⟩
          simp only [Act.put, List.setIfInBounds_toArray, List.set_cons_zero, List.set_cons_succ]
          refine take_at (i := 7) (d := some 54) (v := .pointer (some ⟨b, 5, none⟩)) rfl (by kernel_rfl) (by kernel_rfl) (by kernel_rfl) (fun _ _ _ h => h) (fun oi ho => ?_) hHeld ?_
          · obtain rfl := Option.some.inj ho
            exact Or.inl ⟨by rfl, fun wx _ => by go_simp⟩
          simp only [Act.put, List.setIfInBounds_toArray, List.set_cons_zero, List.set_cons_succ]
          refine take_at (i := 8) (d := some 55) (v := .agg (bcells bg2)) rfl (by kernel_rfl) (by kernel_rfl) (by kernel_rfl) (fun _ _ _ h => h) (fun oi ho => ?_) hHeld ?_
          · obtain rfl := Option.some.inj ho
            exact Or.inl ⟨by rfl, fun wx hSw => exec_load_mid 36 (.tmp 54) rfl b 5 rfl (bg2.map B) _ hSw Tryd.underlying36 rfl hi⟩
          simp only [Act.put, List.setIfInBounds_toArray, List.set_cons_zero, List.set_cons_succ]
          refine ready_value (i := 4) (d := some 51) (v := .agg (ucells ws1.l)) rfl (by kernel_rfl) (fun oi ho => ?_) hHeld ?_
          · obtain rfl := Option.some.inj ho
            exact ⟨by rfl, exec_load_mid 35 (.tmp 50) rfl b 0 rfl (ws1.l.map U) _ RD.range Tryd.underlying35 rfl (by kernel_rfl)⟩
          simp only [Act.put, List.setIfInBounds_toArray, List.set_cons_zero, List.set_cons_succ]
          refine ready_call (i := 9) (d := some 56) (f := 17) (args := #[.agg (ucells ws1.l), .agg (bcells bg2)]) rfl (by kernel_rfl) (fun oi ho => ?_) ?_
          · obtain rfl := Option.some.inj ho
            exact ⟨by rfl, by go_simp⟩
          refine (addBlock_any ws1 bg2 HP2.out _).mono ?_
          rintro e W5 ⟨rfl, B5⟩
          have R5 := RD.below B5 RD.lt
          refine ⟨_, rfl, R5.range2, ?_⟩
          simp only [Act.put, List.setIfInBounds_toArray, List.set_cons_zero, List.set_cons_succ]
          refine take_at (i := 10) (d := some 57) (v := .pointer (some ⟨b, 0, none⟩)) rfl (by kernel_rfl) (by kernel_rfl) (by kernel_rfl) (fun _ _ _ h => h) (fun oi ho => ?_) R5.range2 ?_
          · obtain rfl := Option.some.inj ho
            exact Or.inl ⟨by rfl, fun wx _ => by go_simp⟩
          simp only [Act.put, List.setIfInBounds_toArray, List.set_cons_zero, List.set_cons_succ]
          refine take_at (i := 11) (d := some 58) (v := .pointer (some ⟨b, 0, none⟩)) rfl (by kernel_rfl) (by kernel_rfl) (by kernel_rfl) (fun _ _ _ h => h) (fun oi ho => ?_) R5.range2 ?_
          · obtain rfl := Option.some.inj ho
            exact Or.inl ⟨by rfl, fun wx _ => by go_simp⟩
          simp only [Act.put, List.setIfInBounds_toArray, List.set_cons_zero, List.set_cons_succ]
          have R6 : HRow (W5.setRow b (hcl (blk ws1 bg2) bg2 (n + m)).toArray) b (blk ws1 bg2) bg2 (n + m) := R5.setRow rfl
          refine ready_skip (i := 12) (d := none) (w' := W5.setRow b (hcl (blk ws1 bg2) bg2 (n + m)).toArray) rfl (by kernel_rfl) (fun oi ho => ?_) R6.range2 ?_
          · obtain rfl := Option.some.inj ho
            exact ⟨by rfl, exec_store_ws (.tmp 58) (.tmp 56) rfl b rfl (blk ws1 bg2) rfl R5 HP2.out⟩
          simp only [Act.put]
          refine wpAnyH_done (by kernel_rfl) ?_ _
          have K6 : Keeps b W5 (W5.setRow b (hcl (blk ws1 bg2) bg2 (n + m)).toArray) := Keeps.setRow _ _
          generalize W5.setRow b (hcl (blk ws1 bg2) bg2 (n + m)).toArray = W6 at *
          refine NoPanic.normal ?_
          go_wp2
          have hN := HN.out
          have e1 : t ++ (x ++ r.take m) = (t ++ x) ++ r.take m := by rw [List.append_assoc]
          have e2 : (t ++ (x ++ r.take m)).length = n + m := by rw [e1, List.length_append, ← hN, List.length_take, Nat.min_eq_left hmr]
          have e3 := inv_full HI1.out r m hmr (by rw [← hN]; exact HF.out)
          rw [← hN, ← HBG.out] at e3
          refine ⟨⟨x ++ r.take m, r.drop m, by rw [List.append_assoc, List.take_append_drop]; exact HLX.out, rfl, ⟨blk ws1 bg2, bg2, by rw [e2]; exact R6, by rw [e1]; exact e3⟩, ((((HK1.out.trans K2).trans K3).trans (Keeps.drew _)).trans (Keeps.of_below B5)).trans K6⟩, ?_⟩
          rw [slen_S, slen_S, List.length_drop]; omega
        · have hbe : (((n : Int) % 64 + (m : Int)) == 64) = false := by rw [beq_eq_false_iff_ne]; omega
          have hless : n % 64 + m < 64 := by omega
          have HF := Lib.hid hless
          clear hfull hless
          go_wp2_with (first
            | (with_reducible refine wpList_len_str rfl (.tmp 17) rfl r rfl ?_)
            | (refine wpList_slice_begun rfl (.tmp 27) (.tmp 28) (by with_reducible rfl) b rfl _ (n % 64) rfl HI0.out (Nat.mod_lt _ (by decide)) ?_)
            | (refine wpList_copy_hash rfl (.tmp 29) (.tmp 30) (by with_reducible rfl) b (n % 64) _ r rfl rfl HR1.out HI1.out.len m HM.out hm64 ?_; intro W2 R2 K2; have d69 := R2.num HP.out)
            | (refine wpList_store_n rfl rfl (.tmp 39) (.tmp 37) (by with_reducible rfl) b rfl _ (n + m) rfl HA.out R2 HP.out ?_; intro W3 R3 K3)
            | (refine wpList_drop_str rfl (.tmp 40) (.tmp 41) (by with_reducible rfl) r rfl m rfl hmr ?_))
          have hN := HN.out
          have e1 : t ++ (x ++ r.take m) = (t ++ x) ++ r.take m := by rw [List.append_assoc]
          have e2 : (t ++ (x ++ r.take m)).length = n + m := by rw [e1, List.length_append, ← hN, List.length_take, Nat.min_eq_left hmr]
          have e3 := inv_less HI1.out r m hmr (by rw [← hN]; exact HF.out)
          rw [← hN] at e3
          refine ⟨⟨x ++ r.take m, r.drop m, by rw [List.append_assoc, List.take_append_drop]; exact HLX.out, rfl, ⟨ws1, put bg1 r (n % 64) m, by rw [e2]; exact R3, by rw [e1]; exact e3⟩, (HK1.out.trans K2).trans K3⟩, ?_⟩
          rw [slen_S, slen_S, List.length_drop]; omega
end Go.Proofs.YtihgmgphfdjcfaaDoor
