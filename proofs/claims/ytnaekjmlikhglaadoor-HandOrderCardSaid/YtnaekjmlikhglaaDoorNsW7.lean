/- Texts of this proof, one behind the other. -/
import Derived.Test.YtnaekjmlikhglaaDoorNsReg
import Derived.Test.YtnaekjmlikhglaaDoorNsW4
import Derived.IntWalk
import Derived.StillTailTactics
import Derived.Deep.DeepCutAuto
import Derived.Test.YtnaekjmlikhglaaDoorNsW5
import Derived.Test.YtnaekjmlikhglaaDoorNsW3
/- The walk of Write. -/
namespace Go.Proofs.YtnaekjmlikhglaaDoor.sa
open Go.RowKit
attribute [local go_sem] U_add U_xor U_and U_or U_not U_shl U_shr store_one U_match B_match U_store B_store

theorem i38 : (Tryd.prog.info? 68).map (·.size) = some 70 := by kernel_rfl

set_option maxRecDepth 100000 in
set_option maxHeartbeats 2000000 in
theorem write_any (b : Nat) (t l : List UInt8) (w : World) (h0 : IsHash b t w) (hs : Start w) (ht : t.length + l.length < 1000000000000000) :
    Calls Tryd.prog 52 #[.pointer (some ⟨b, 0, none⟩), S l] w fun e w' => e = .returned (.tuple #[]) ∧ Mid b (t ++ l) w' ∧ Keeps b w w' := by
  obtain ⟨ws, bg, HR, hbg, hinv⟩ := h0
  have hn := HR.num hbg
  have HB := Lib.hid hbg
  have HI := Lib.hid hinv
  have HT := Lib.hid ht
  have HS := Lib.hid hs
  clear hbg hinv ht hs
  go_enter Tryd.func52, Tryd.ntmps52
  go_upto_if 12 with fail
  go_cut [] (fun wx => Mid b t wx ∧ Keeps b w wx)
  case first =>
    by_cases h : t = []
    · have hz : ((t.length : Int) == 0) = true := by subst h; rfl
      go_wp2_with (first
        | (refine wpList_load_start rfl (by with_reducible rfl) HS.out ?_)
        | (refine wpList_store_ws rfl rfl (.tmp 16) (.tmp 14) (by with_reducible rfl) b rfl start5 rfl HR HB.out ?_; intro W1 R1 K1))
      go_meet
      exact ⟨⟨start5, bg, R1, by subst h; exact inv_start bg HB.out⟩, K1⟩
    · have hz : ((t.length : Int) == 0) = false := by simp [h]
      go_wp2
      go_meet
      exact ⟨⟨ws, bg, HR, HI.out h⟩, Keeps.refl _ _⟩
  case rest =>
    obtain ⟨hm, hk⟩ := hcut
    clear hn
    go_wp2
    go_loopw [1] (fun sv wr => ∃ x r, l = x ++ r ∧ sv = S r ∧ Mid b (t ++ x) wr ∧ Keeps b w wr) (fun sv _ => slen sv)
    case atStart => exact ⟨[], l, rfl, rfl, by rw [List.append_nil]; exact hm, hk⟩
    case round =>
      obtain ⟨x, r, hl, rfl, ⟨ws1, bg1, R1, I1⟩, hk1⟩ := hrel
      have HLX := Lib.hid hl
      clear hl
      by_cases hr : r = []
      · subst hr
        go_wp2_with (with_reducible refine wpList_len_str rfl (.tmp 17) rfl [] rfl ?_)
        go_end0
        refine ⟨rfl, ?_, hk1⟩
        have e := HLX.out
        rw [List.append_nil] at e
        rw [e]; exact ⟨ws1, bg1, R1, I1⟩
      · have hpos : 0 < r.length := List.length_pos_iff.2 hr
        have hlen : (t ++ x).length + r.length < 1000000000000000 := by
          have h1 := HLX.out
          have h2 := HT.out
          rw [h1, List.length_append] at h2
          rw [List.length_append]; omega
        obtain ⟨n, hn⟩ : ∃ n, n = (t ++ x).length := ⟨_, rfl⟩
        rw [← hn] at R1 hlen
        have c69 := R1.num I1.len
        obtain ⟨m, hm⟩ : ∃ m, m = Nat.min r.length (64 - n % 64) := ⟨_, rfl⟩
        have hmr : m ≤ r.length := by rw [hm]; exact Nat.min_le_left _ _
        have hm64 : n % 64 + m ≤ 64 := by have : m ≤ 64 - n % 64 := by rw [hm]; exact Nat.min_le_right _ _
                                          omega
        have hm0 : 0 < m := by rw [hm]; exact Nat.lt_min.2 ⟨hpos, by omega⟩
        have HN := Lib.hid hn
        have HM := Lib.hid hm
        have HI1 := Lib.hid I1
        have HR1 := Lib.hid R1
        have HK1 := Lib.hid hk1
        clear hn hm I1 R1 hk1 hr
        have hi0 : ((n : Int) % 64) = ((n % 64 : Nat) : Int) := by omega
        have HI0 := Lib.hid hi0
        clear hi0
        have HA : Hid ((n : Int) + (m : Int) = ((n + m : Nat) : Int)) := by unfold Hid; omega
        have HP : Hid ((put bg1 r (n % 64) m).length = 64) := put_length _ _ _ _ HI1.out.len hm64 hmr
        by_cases hfull : n % 64 + m = 64
        · have hbe : (((n : Int) % 64 + (m : Int)) == 64) = true := by rw [beq_iff_eq]; omega
          have HF := Lib.hid hfull
          clear hfull
          go_wp2_with (first
            | (with_reducible refine wpList_len_str rfl (.tmp 17) rfl r rfl ?_)
            | (refine wpList_slice_begun rfl (.tmp 27) (.tmp 28) (by with_reducible rfl) b rfl _ (n % 64) rfl HI0.out (Nat.mod_lt _ (by decide)) ?_)
            | (refine wpList_copy_hash rfl (.tmp 29) (.tmp 30) (by with_reducible rfl) b (n % 64) _ r rfl rfl HR1.out HI1.out.len m HM.out hm64 ?_; intro W2 R2 K2; have d69 := R2.num HP.out)
            | (refine wpList_store_n rfl rfl (.tmp 39) (.tmp 37) (by with_reducible rfl) b rfl _ (n + m) rfl HA.out R2 HP.out ?_; intro W3 R3 K3)
            | (refine wpList_drop_str rfl (.tmp 40) (.tmp 41) (by with_reducible rfl) r rfl m rfl hmr ?_))
          have RD := R3.drew
          obtain ⟨bg2, hbg2⟩ : ∃ bg2, bg2 = put bg1 r (n % 64) m := ⟨_, rfl⟩
          rw [← hbg2] at RD
          have HBG := Lib.hid hbg2
          have hP2 : bg2.length = 64 := by rw [hbg2]; exact HP.out
          have HP2 := Lib.hid hP2
          have hu := Tryd.underlying66
          have hi : (Tryd.prog.info? 66).map (·.size) = some (bg2.map B).length := by rw [List.length_map, hP2]; kernel_rfl
          have hl : (bg2.map B).length = 64 := by rw [List.length_map, hP2]
          have h1 : ∀ v ∈ bg2.map B, v.oneCell' = true := fun v hv => by
            obtain ⟨x, _, rfl⟩ := List.mem_map.1 hv; rfl
          clear hbg2 hP2
          have hRD : W3.drew.rangeAt b 5 (bg2.map B) := RD.range2
          refine wp_region_noPanic ?_
          refine wp_region_held_drew (S := fun w' => w'.rangeAt b 5 (bg2.map B)) (by kernel_rfl) hRD (fun hHeld => ?_)
          refine take_at (i := 0) (d := some 47) (v := .pointer (some ⟨b, 0, none⟩)) rfl (by kernel_rfl) (by kernel_rfl) (by kernel_rfl) (fun _ _ _ h => h) (fun oi ho => ?_) hHeld ?_
          · obtain rfl := Option.some.inj ho
            exact Or.inl ⟨by rfl, fun wx _ => by go_simp⟩
          simp only [Act.put, List.setIfInBounds_toArray, List.set_cons_zero, List.set_cons_succ]
          refine take_at (i := 1) (d := some 48) (v := .pointer (some ⟨b, 0, none⟩)) rfl (by kernel_rfl) (by kernel_rfl) (by kernel_rfl) (fun _ _ _ h => h) (fun oi ho => ?_) hHeld ?_
          · obtain rfl := Option.some.inj ho
            exact Or.inl ⟨by rfl, fun wx _ => by go_simp⟩
          simp only [Act.put, List.setIfInBounds_toArray, List.set_cons_zero, List.set_cons_succ]
          refine take_at (i := 2) (d := some 49) (v := .pointer (some ⟨b, 0, none⟩)) rfl (by kernel_rfl) (by kernel_rfl) (by kernel_rfl) (fun _ _ _ h => h) (fun oi ho => ?_) hHeld ?_
          · obtain rfl := Option.some.inj ho
            exact Or.inl ⟨by rfl, fun wx _ => by go_simp⟩
          simp only [Act.put, List.setIfInBounds_toArray, List.set_cons_zero, List.set_cons_succ]
          refine take_at (i := 3) (d := some 50) (v := .pointer (some ⟨b, 0, none⟩)) rfl (by kernel_rfl) (by kernel_rfl) (by kernel_rfl) (fun _ _ _ h => h) (fun oi ho => ?_) hHeld ?_
          · obtain rfl := Option.some.inj ho
            exact Or.inl ⟨by rfl, fun wx _ => by go_simp⟩
          simp only [Act.put, List.setIfInBounds_toArray, List.set_cons_zero, List.set_cons_succ]
          refine take_at (i := 5) (d := some 52) (v := .pointer (some ⟨b, 0, none⟩)) rfl (by kernel_rfl) (by kernel_rfl) (by kernel_rfl) (fun _ _ _ h => h) (fun oi ho => ?_) hHeld ?_
          · obtain rfl := Option.some.inj ho
            exact Or.inl ⟨by rfl, fun wx _ => by go_simp⟩
          simp only [Act.put, List.setIfInBounds_toArray, List.set_cons_zero, List.set_cons_succ]
          refine take_at (i := 6) (d := some 53) (v := .pointer (some ⟨b, 0, none⟩)) rfl (by kernel_rfl) (by kernel_rfl) (by kernel_rfl) (fun _ _ _ h => h) (fun oi ho => ?_) hHeld ?_
          · obtain rfl := Option.some.inj ho
            exact Or.inl ⟨by rfl, fun wx _ => by go_simp⟩
          simp only [Act.put, List.setIfInBounds_toArray, List.set_cons_zero, List.set_cons_succ]
          refine take_at (i := 7) (d := some 54) (v := .pointer (some ⟨b, 5, none⟩)) rfl (by kernel_rfl) (by kernel_rfl) (by kernel_rfl) (fun _ _ _ h => h) (fun oi ho => ?_) hHeld ?_
          · obtain rfl := Option.some.inj ho
            exact Or.inl ⟨by rfl, fun wx _ => by go_simp⟩
          simp only [Act.put, List.setIfInBounds_toArray, List.set_cons_zero, List.set_cons_succ]
          refine take_at (i := 8) (d := some 55) (v := .agg (bcells bg2)) rfl (by kernel_rfl) (by kernel_rfl) (by kernel_rfl) (fun _ _ _ h => h) (fun oi ho => ?_) hHeld ?_
          · obtain rfl := Option.some.inj ho
            exact Or.inl ⟨by rfl, fun wx hSw => exec_load_mid 66 (.tmp 54) rfl b 5 rfl (bg2.map B) _ hSw Tryd.underlying66 rfl hi⟩
          simp only [Act.put, List.setIfInBounds_toArray, List.set_cons_zero, List.set_cons_succ]
          refine ready_value (i := 4) (d := some 51) (v := .agg (ucells ws1.l)) rfl (by kernel_rfl) (fun oi ho => ?_) hHeld ?_
          · obtain rfl := Option.some.inj ho
            exact ⟨by rfl, exec_load_mid 65 (.tmp 50) rfl b 0 rfl (ws1.l.map U) _ RD.range Tryd.underlying65 rfl (by kernel_rfl)⟩
          simp only [Act.put, List.setIfInBounds_toArray, List.set_cons_zero, List.set_cons_succ]
          refine ready_call (i := 9) (d := some 56) (f := 62) (args := #[.agg (ucells ws1.l), .agg (bcells bg2)]) rfl (by kernel_rfl) (fun oi ho => ?_) ?_
          · obtain rfl := Option.some.inj ho
            exact ⟨by rfl, by go_simp⟩
          refine (addBlock_any ws1 bg2 HP2.out _).mono ?_
          rintro e W5 ⟨rfl, B5⟩
          have R5 := RD.below B5 RD.lt
          refine ⟨_, rfl, R5.range2, ?_⟩
          simp only [Act.put, List.setIfInBounds_toArray, List.set_cons_zero, List.set_cons_succ]
          refine take_at (i := 10) (d := some 57) (v := .pointer (some ⟨b, 0, none⟩)) rfl (by kernel_rfl) (by kernel_rfl) (by kernel_rfl) (fun _ _ _ h => h) (fun oi ho => ?_) R5.range2 ?_
          · obtain rfl := Option.some.inj ho
            exact Or.inl ⟨by rfl, fun wx _ => by go_simp⟩
          simp only [Act.put, List.setIfInBounds_toArray, List.set_cons_zero, List.set_cons_succ]
          refine take_at (i := 11) (d := some 58) (v := .pointer (some ⟨b, 0, none⟩)) rfl (by kernel_rfl) (by kernel_rfl) (by kernel_rfl) (fun _ _ _ h => h) (fun oi ho => ?_) R5.range2 ?_
          · obtain rfl := Option.some.inj ho
            exact Or.inl ⟨by rfl, fun wx _ => by go_simp⟩
          simp only [Act.put, List.setIfInBounds_toArray, List.set_cons_zero, List.set_cons_succ]
          have R6 : HRow (W5.setRow b (hcl (blk ws1 bg2) bg2 (n + m)).toArray) b (blk ws1 bg2) bg2 (n + m) := R5.setRow rfl
          refine ready_skip (i := 12) (d := none) (w' := W5.setRow b (hcl (blk ws1 bg2) bg2 (n + m)).toArray) rfl (by kernel_rfl) (fun oi ho => ?_) R6.range2 ?_
          · obtain rfl := Option.some.inj ho
            exact ⟨by rfl, exec_store_ws (.tmp 58) (.tmp 56) rfl b rfl (blk ws1 bg2) rfl R5 HP2.out⟩
          simp only [Act.put]
          refine wpAnyH_done (by kernel_rfl) ?_ _
          have K6 : Keeps b W5 (W5.setRow b (hcl (blk ws1 bg2) bg2 (n + m)).toArray) := Keeps.setRow _ _
          generalize W5.setRow b (hcl (blk ws1 bg2) bg2 (n + m)).toArray = W6 at *
          refine NoPanic.normal ?_
          go_wp2
          have hN := HN.out
          have e1 : t ++ (x ++ r.take m) = (t ++ x) ++ r.take m := by rw [List.append_assoc]
          have e2 : (t ++ (x ++ r.take m)).length = n + m := by rw [e1, List.length_append, ← hN, List.length_take, Nat.min_eq_left hmr]
          have e3 := inv_full HI1.out r m hmr (by rw [← hN]; exact HF.out)
          rw [← hN, ← HBG.out] at e3
          refine ⟨⟨x ++ r.take m, r.drop m, by rw [List.append_assoc, List.take_append_drop]; exact HLX.out, rfl, ⟨blk ws1 bg2, bg2, by rw [e2]; exact R6, by rw [e1]; exact e3⟩, ((((HK1.out.trans K2).trans K3).trans (Keeps.drew _)).trans (Keeps.of_below B5)).trans K6⟩, ?_⟩
          rw [slen_S, slen_S, List.length_drop]; omega
        · have hbe : (((n : Int) % 64 + (m : Int)) == 64) = false := by rw [beq_eq_false_iff_ne]; omega
          have hless : n % 64 + m < 64 := by omega
          have HF := Lib.hid hless
          clear hfull hless
          go_wp2_with (first
            | (with_reducible refine wpList_len_str rfl (.tmp 17) rfl r rfl ?_)
            | (refine wpList_slice_begun rfl (.tmp 27) (.tmp 28) (by with_reducible rfl) b rfl _ (n % 64) rfl HI0.out (Nat.mod_lt _ (by decide)) ?_)
            | (refine wpList_copy_hash rfl (.tmp 29) (.tmp 30) (by with_reducible rfl) b (n % 64) _ r rfl rfl HR1.out HI1.out.len m HM.out hm64 ?_; intro W2 R2 K2; have d69 := R2.num HP.out)
            | (refine wpList_store_n rfl rfl (.tmp 39) (.tmp 37) (by with_reducible rfl) b rfl _ (n + m) rfl HA.out R2 HP.out ?_; intro W3 R3 K3)
            | (refine wpList_drop_str rfl (.tmp 40) (.tmp 41) (by with_reducible rfl) r rfl m rfl hmr ?_))
          have hN := HN.out
          have e1 : t ++ (x ++ r.take m) = (t ++ x) ++ r.take m := by rw [List.append_assoc]
          have e2 : (t ++ (x ++ r.take m)).length = n + m := by rw [e1, List.length_append, ← hN, List.length_take, Nat.min_eq_left hmr]
          have e3 := inv_less HI1.out r m hmr (by rw [← hN]; exact HF.out)
          rw [← hN] at e3
          refine ⟨⟨x ++ r.take m, r.drop m, by rw [List.append_assoc, List.take_append_drop]; exact HLX.out, rfl, ⟨ws1, put bg1 r (n % 64) m, by rw [e2]; exact R3, by rw [e1]; exact e3⟩, (HK1.out.trans K2).trans K3⟩, ?_⟩
          rw [slen_S, slen_S, List.length_drop]; omega
end Go.Proofs.YtnaekjmlikhglaaDoor.sa
/- The walks of a hash's Sum, Len and New, and of Sum. -/
namespace Go.Proofs.YtnaekjmlikhglaaDoor.sa
open Go.RowKit
attribute [local go_sem] U_add U_xor U_and U_or U_not U_shl U_shr store_one U_match B_match U_store B_store

/-- Seventy noughts: a hash of nothing yet. -/
def Z70 : Array Value := (hcl ⟨0, 0, 0, 0, 0⟩ (List.replicate 64 0) 0).toArray
theorem z38 : ∀ w, (zeroValue 68).run Tryd.prog w = .ok (.agg Z70) w := (zero_of_info (n := 70) (by kernel_rfl)).1
theorem isHash_new (w : World) (b : Nat) (h : Row w b Z70 68) : IsHash b [] w :=
  ⟨⟨0, 0, 0, 0, 0⟩, List.replicate 64 0, h, by simp, fun h => absurd rfl h⟩
theorem hcl_one (ws : S5) (bg : List UInt8) (n : Nat) : (hcl ws bg n).toArray.all (·.oneCell') = true := by
  refine Array.all_eq_true_iff_forall_mem.2 fun v hv => ?_
  simp only [hcl, List.mem_toArray, List.mem_append, List.mem_map, List.mem_singleton] at hv
  rcases hv with ⟨x, _, rfl⟩ | ⟨x, _, rfl⟩ | rfl <;> rfl

set_option maxRecDepth 100000 in
set_option maxHeartbeats 2000000 in
theorem hashSum_any (b : Nat) (t : List UInt8) (w : World) (h0 : IsHash b t w) (hs : Start w) (ht : t.length < 100000000000000) :
    Calls Tryd.prog 53 #[.pointer (some ⟨b, 0, none⟩)] w fun e w' => e = .returned (.agg (bcells (shaL t))) ∧ Below w.heap.size w w' := by
  obtain ⟨ws, bg, R0, hb, hinv⟩ := h0
  have hz1 := z22
  have hz2 := z38
  have HB := Lib.hid hb
  have HI := Lib.hid hinv
  have hsz : Hid ((Tryd.prog.info? 68).map (·.size) = some (hcl ws bg t.length).toArray.size) := by
    unfold Hid; rw [List.size_toArray, hcl_length _ _ _ hb]; exact i38
  have hold : Hid (Z70.size = (hcl ws bg t.length).toArray.size) := by
    have e : (hcl ws bg t.length).toArray.size = 70 := by rw [List.size_toArray, hcl_length _ _ _ hb]
    unfold Hid; rw [e]; rfl
  have e1 : (w.alloc (.cells Z20 55)).heap.size = w.heap.size + 1 := alloc_size _ _
  have R1 : Row (w.alloc (.cells Z20 55)) b (hcl ws bg t.length).toArray 68 := Row.alloc R0.cells _
  have RN : Row ((w.alloc (.cells Z20 55)).alloc (.cells Z70 68)) (w.heap.size + 1) Z70 68 := by
    have := row_new (w.alloc (.cells Z20 55)) Z70 68
    rw [e1] at this; exact this
  have RR : Row ((w.alloc (.cells Z20 55)).alloc (.cells Z70 68)) w.heap.size Z20 55 := Row.alloc (row_new w Z20 55) _
  have RB := Row.alloc R1 (.cells Z70 68)
  have S1 := (hs.alloc (.cells Z20 55)).alloc (.cells Z70 68)
  have b2 : Below w.heap.size w ((w.alloc (.cells Z20 55)).alloc (.cells Z70 68)) := ((Below.refl _ _).alloc (Nat.le_refl _) _).alloc (by simp) _
  have hlt := HRow.lt R0
  have HH := Lib.hid (And.intro RN (And.intro RR (And.intro RB (And.intro S1 (And.intro b2 R1)))))
  clear hb hinv e1 R1 RN RR RB S1 b2
  go_enter Tryd.func53, Tryd.ntmps53
  go_wp2_with (first
    | (refine wpList_load_var rfl 68 (.tmp 8) (by with_reducible rfl) b rfl HH.out.2.2.2.2.2 _ Tryd.underlying68 rfl hsz.out ?_)
    | (refine wpList_store_var rfl rfl 68 (.tmp 3) (.tmp 9) (by with_reducible rfl) (w.heap.size + 1) _ rfl rfl HH.out.1 hsz.out hold.out (hcl_one _ _ _) ?_; intro W3 R3 K3; have c69 := HRow.num (HH.out.2.2.1.keeps K3 (by omega)) HB.out)
    | (go_at_call 63; refine (padding_any t.length (by omega) _).mono ?_; rintro e W4 ⟨rfl, B4⟩)
    | fail)
  obtain ⟨RN, RR, RB, S1, b2, R1⟩ := HH.out
  have S3 := S1.keeps K3 (by omega)
  have S4 := S3.below B4 S3.lt
  have IH4 : IsHash (w.heap.size + 1) t W4 := ⟨ws, bg, R3.below B4 R3.lt, HB.out, HI.out⟩
  have RR3 := RR.keeps K3 (by omega)
  have RR4 := RR3.below B4 RR3.lt
  have z2 := b2.size
  have z3 := K3.size
  have z4 := B4.size
  have c3 := K3.below (k := w.heap.size) z2 (by omega)
  have b4 := (b2.trans c3).trans (B4.mono (by omega))
  refine (write_any (w.heap.size + 1) t (padL t.length) W4 IH4 S4 (by rw [padL_length]; omega)).mono ?_
  rintro e W5 ⟨rfl, ⟨ws5, bg5, R5, I5⟩, K5⟩
  have RR5 := RR4.keeps K5 (by omega)
  have z5 := K5.size
  have b5 := b4.trans (K5.below (k := w.heap.size) (by omega) (by omega))
  have hsha : shaL t = wbs ws5.l 20 := by rw [shaL, full, ← I5.words]
  have HSH := Lib.hid hsha
  have HS1 : Hid ((Tryd.prog.info? 55).map (·.size) = some (bcells (wbs ws5.l 20)).size) := by unfold Hid; rw [bcells_size, wbs_length]; exact i22
  have HS2 : Hid (Z20.size = (bcells (wbs ws5.l 20)).size) := by unfold Hid; rw [bcells_size, wbs_length]; rfl
  clear hsha c69 RN RR RB S1 b2 R1 c3 b4 z2 z3
  go_wp2_with (first
    | (refine wpList_load_ws rfl (.tmp 16) (by with_reducible rfl) (w.heap.size + 1) rfl R5 ?_)
    | (go_at_call 64; refine (wordBytes_any ws5.l rfl _).mono ?_; rintro e W6 ⟨rfl, B6⟩; have RR6 := RR5.below B6 RR5.lt)
    | (refine wpList_store_var rfl rfl 55 (.tmp 2) (.tmp 18) (by with_reducible rfl) w.heap.size _ rfl rfl RR6 HS1.out HS2.out (bcells_one _) ?_; intro W7 R7 K7))
  have z6 := B6.size
  have z7 := b5.size
  refine bodyPost_ret (v := .agg (bcells (wbs ws5.l 20))) (results_cell_row rfl _ _ w.heap.size 55 _ (0, 0) _ rfl R7 Tryd.underlying55 rfl HS1.out) rfl ⟨by rw [HSH.out], ?_⟩
  exact (b5.trans (B6.mono (by omega))).trans (K7.below (k := w.heap.size) (by omega) (Nat.le_refl _))
set_option maxRecDepth 100000 in
set_option maxHeartbeats 2000000 in
theorem sum_any (t : List UInt8) (w : World) (hs : Start w) (ht : t.length < 100000000000000) :
    Calls Tryd.prog 41 #[S t] w fun e w' => e = .returned (.agg (bcells (shaL t))) ∧ Below w.heap.size w w' := by
  have hz1 := z22
  have hz2 := z38
  have e1 : (w.alloc (.cells Z20 55)).heap.size = w.heap.size + 1 := alloc_size _ _
  have RN : Row ((w.alloc (.cells Z20 55)).alloc (.cells Z70 68)) (w.heap.size + 1) Z70 68 := by
    have := row_new (w.alloc (.cells Z20 55)) Z70 68
    rw [e1] at this; exact this
  have RR : Row ((w.alloc (.cells Z20 55)).alloc (.cells Z70 68)) w.heap.size Z20 55 := Row.alloc (row_new w Z20 55) _
  have S1 := (hs.alloc (.cells Z20 55)).alloc (.cells Z70 68)
  have b2 : Below w.heap.size w ((w.alloc (.cells Z20 55)).alloc (.cells Z70 68)) := ((Below.refl _ _).alloc (Nat.le_refl _) _).alloc (by simp) _
  have HH := Lib.hid (And.intro RN (And.intro RR (And.intro S1 b2)))
  have HS1 : Hid ((Tryd.prog.info? 55).map (·.size) = some (bcells (shaL t)).size) := by unfold Hid; rw [bcells_size, shaL, wbs_length]; exact i22
  have HS2 : Hid (Z20.size = (bcells (shaL t)).size) := by unfold Hid; rw [bcells_size, shaL, wbs_length]; rfl
  clear e1 RN RR S1 b2
  go_enter Tryd.func41, Tryd.ntmps41
  go_wp2_with fail
  obtain ⟨RN, RR, S1, b2⟩ := HH.out
  refine (write_any (w.heap.size + 1) [] t _ (isHash_new _ _ RN) S1 (by simp; omega)).mono ?_
  rintro e W5 ⟨rfl, M5, K5⟩
  have I5 := M5.isHash
  have S5' := S1.keeps K5 (by omega)
  have RR5 := RR.keeps K5 (by omega)
  have z2 := b2.size
  have z5 := K5.size
  have b5 := b2.trans (K5.below (k := w.heap.size) z2 (by omega))
  clear M5 RN RR S1 b2
  go_wp2_with (first
    | (go_at_call 53; refine (hashSum_any (w.heap.size + 1) ([] ++ t) _ I5 S5' ht).mono ?_; rintro e W6 ⟨rfl, B6⟩; have RR6 := RR5.below B6 RR5.lt)
    | (refine wpList_store_var rfl rfl 55 (.tmp 2) (.tmp 6) (by with_reducible rfl) w.heap.size (bcells (shaL t)) rfl rfl RR6 HS1.out HS2.out (bcells_one _) ?_; intro W7 R7 K7))
  have z6 := B6.size
  have z7 := b5.size
  refine bodyPost_ret (v := .agg (bcells (shaL t))) (results_cell_row rfl _ _ w.heap.size 55 _ (0, 0) _ rfl R7 Tryd.underlying55 rfl HS1.out) rfl ⟨rfl, ?_⟩
  exact (b5.trans (B6.mono (by omega))).trans (K7.below (k := w.heap.size) (by omega) (Nat.le_refl _))

set_option maxRecDepth 100000 in
set_option maxHeartbeats 2000000 in
theorem hashSum_nil (w : World) (hs : Start w) :
    Calls Tryd.prog 53 #[.pointer none] w fun e w' => e = .returned (.agg (bcells (shaL []))) ∧ Below w.heap.size w w' := by
  have hz1 := z22
  have hS : Value.string ⟨#[]⟩ = S [] := rfl
  have RR : Row (w.alloc (.cells Z20 55)) w.heap.size Z20 55 := row_new w Z20 55
  have S1 := hs.alloc (.cells Z20 55)
  have b2 : Below w.heap.size w (w.alloc (.cells Z20 55)) := (Below.refl _ _).alloc (Nat.le_refl _) _
  have HH := Lib.hid (And.intro RR (And.intro S1 b2))
  have HS1 : Hid ((Tryd.prog.info? 55).map (·.size) = some (bcells (shaL [])).size) := by unfold Hid; rw [bcells_size, shaL, wbs_length]; exact i22
  have HS2 : Hid (Z20.size = (bcells (shaL [])).size) := by unfold Hid; rw [bcells_size, shaL, wbs_length]; rfl
  clear RR S1 b2
  go_enter Tryd.func53, Tryd.ntmps53
  go_wp2_with (first
    | (go_at_call 41; refine (sum_any [] _ HH.out.2.1 (by simp)).mono ?_; rintro e W6 ⟨rfl, B6⟩; have RR6 := HH.out.1.below B6 HH.out.1.lt)
    | (refine wpList_store_var rfl rfl 55 (.tmp 2) (.tmp 6) (by with_reducible rfl) w.heap.size (bcells (shaL [])) rfl rfl RR6 HS1.out HS2.out (bcells_one _) ?_; intro W7 R7 K7))
  obtain ⟨RR, S1, b2⟩ := HH.out
  have z6 := B6.size
  have z7 := b2.size
  refine bodyPost_ret (v := .agg (bcells (shaL []))) (results_cell_row rfl _ _ w.heap.size 55 _ (0, 0) _ rfl R7 Tryd.underlying55 rfl HS1.out) rfl ⟨rfl, ?_⟩
  exact (b2.trans (B6.mono (by omega))).trans (K7.below (k := w.heap.size) (by omega) (Nat.le_refl _))


end Go.Proofs.YtnaekjmlikhglaaDoor.sa
