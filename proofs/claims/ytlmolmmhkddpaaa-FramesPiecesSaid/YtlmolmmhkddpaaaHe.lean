/- The document's All (stage 16) walked. -/
import Derived.Test.YtlmolmmhkddpaaaHc
import Derived.Test.YtlmolmmhkddpaaaHm2
import Derived.Laws.OwnMore
namespace Go.Proofs.Ytlmolmmhkddpaaa
open Go.RowKit
attribute [local go_sem] store_one B_match B_store S_match S_store

theorem infoEv2 : ∃ i, Try.prog.info? 62 = some i ∧ i.zero = some (.agg #[.int .i64 0, .int .i64 0, .bool false, .int .i64 0, .string ⟨#[]⟩]) ∧ i.size = 5 ∧ i.bytes = 48 := info_ev (by kernel_rfl)
def sLen : Value → Nat
  | .string b => b.size
  | _ => 0
theorem sLen_S (s : List UInt8) : sLen (S s) = s.length := by simp [sLen, S, ByteArray.size]
theorem eguard_E16 (s : List UInt8) (x y : Operand) : eqGuard .eql 9 x y (S s) (.string ⟨#[]⟩) = pure () := rfl
theorem conv_ui16 {P : Program} {tb ti : TypeId} (h1 : P.underlying tb = some (.int .u64)) (h2 : P.underlying ti = some (.int .i64)) (n : Nat) (hn : n < 2 ^ 63) (w : World) : (convert tb ti (.int .u64 (n : Int))).run P w = .ok (.int .i64 (n : Int)) w := by
  have e : IntKind.i64.wrap (n : Int) = (n : Int) := by rw [IntKind.wrap_i64]; omega
  simp [convert, run_underlying h1, run_underlying h2, e, go_sem]
/-- What stands around All behind some frames. -/
structure AllR (w : World) (m : Bool) (s0 : List UInt8) (s : List UInt8) (V : Value) (l : List Ev) (W : World) : Prop where
  ev : EvR 62 w.heap.size V l W
  bel : Below w.heap.size w W
  told : toldF [] (atS m s0) = toldF l (atS m s)
  fin : endF (atS m s0) = endF (atS m s)
  len : l.length + s.length ≤ s0.length
/-- One event more. -/
theorem AllR.add {w W : World} {V : Value} {l : List Ev} (hev : EvR 62 w.heap.size V l W) (hb : Below w.heap.size w W) (hl : l.length ≤ 900000) (e : Ev) (T : TypeId) :
    ∃ a c W', (Builtin.append_ #[33, 33] T #[V, .slice (some ⟨W.heap.size, 0, none⟩) 1 1]).run Try.prog (W.alloc (.cells (evC e) 62)) = .ok (.slice a (l.length + 1) c) W' ∧
      EvR 62 w.heap.size (.slice a (l.length + 1) c) (l ++ [e]) W' ∧ Below w.heap.size w W' ∧ W.heap.size < W'.heap.size ∧ (∀ {b : Nat} {cs : Array Value} {t : TypeId}, Row W b cs t → V.ownBlock ≠ some b → Row W' b cs t) ∧ ∀ j, (Value.slice a (l.length + 1) c).ownBlock = some j → V.ownBlock = some j ∨ W.heap.size < j := by
  obtain ⟨a, c, W', hrun, hev', hgr, hblk⟩ := run_addE Try.underlying33 infoEv2 hev (by omega) hb.size e T
  have hal := World.grownBy_alloc W (.cells (evC e) 62) none
  have ho : ∀ k, V.ownBlock = some k → w.heap.size ≤ k := fun k hk => (hev.lt hk).1
  refine ⟨a, c, W', hrun, hev', ⟨hgr.os.trans (hal.os.trans hb.os), hgr.tape.trans (hal.tape.trans hb.tape), hgr.output.trans (hal.output.trans hb.output), by have := hb.size; have := hal.size; have := hgr.size; omega, fun k hk => ?_⟩, by have := hgr.size; rw [alloc_size] at this; omega, fun hr hne => row_grown (row_grown hr hal (fun e => by cases e)) hgr (fun e => hne e.symm), fun j hj => by
    rcases hblk with h | ⟨g, h, hg⟩
    · exact .inl (h ▸ hj)
    · exact .inr (by have := Option.some.inj (hj.symm.trans h); omega)⟩
  have := hb.size
  rw [hgr.block k (by rw [alloc_size]; omega) (fun e => by have := ho k e.symm; omega), hal.block k (by omega) (fun e => by cases e), hb.block k hk]
set_option maxRecDepth 100000 in
set_option maxHeartbeats 4000000 in
theorem all16_any (s0 : List UInt8) (m : Bool) (hs : s0.length ≤ 100000) (w : World) : Calls Try.prog 17 #[S s0, .bool m] w fun e w' => ∃ V, e = .returned (.tuple #[V, .bool (endF (atS m s0)).bad, .bool (endF (atS m s0)).idle]) ∧
    EvR 62 w.heap.size V (toldF [] (atS m s0)) w' ∧ Below w.heap.size w w' := by
  have HS0 := Lib.hid hs
  clear hs
  go_enter Try.func17, Try.ntmps17
  go_wp2
  go_loopw [0, 4] (fun sv lv wr => ∃ (s : List UInt8) (l : List Ev) (n : Nat) (a : Option Addr) (c : Nat), sv = S s ∧ lv = .slice a n c ∧ Hid (n = l.length ∧ AllR w m s0 s (.slice a n c) l wr)) (fun sv _ _ => sLen sv)
  case atStart => exact ⟨s0, [], 0, none, 0, rfl, rfl, Lib.hid ⟨rfl, evr_nil _ _ _, Below.refl _ _, rfl, rfl, by simp⟩⟩
  case round =>
    obtain ⟨s, l, n, a, c, rfl, rfl, HI⟩ := hrel
    have hsl : s.length ≤ 100000 := by have := HI.out.2.len; have := HS0.out; omega
    have HH := Lib.hid (fun W => rhead_any s (by omega) W)
    have HSL := Lib.hid hsl
    clear hsl
    cases hr : readHeadF s with
    | none =>
      have qe : binOp .eql 9 (S s) (.string ⟨#[]⟩) = pure (.bool (s == [])) := eql_S 9 s []
      obtain ⟨E, hE⟩ : ∃ E, E = (s == []) := ⟨_, rfl⟩
      rw [← hE] at qe
      have ge := eguard_E16 s
      rw [hr] at HH
      unfold hrV hrC hd0 at HH
      have HT := Lib.hid (And.intro hr hE)
      clear hr hE
      go_wp2_with fail
      refine (HH.out wr).mono ?_
      rintro e W1 ⟨rfl, hB⟩
      have HB := Lib.hid (And.intro hB (HI.out.2.ev.below hB))
      clear hB HH
      go_wp2
      go_ret3
      obtain ⟨h1, h2⟩ := tell_none (m := m) l HT.out.1
      have hal := World.grownBy_alloc W1 (.cells #[.bool false, .bool false, .bool false, .int .i64 0, .int .i64 0, B key0.k0, B key0.k1, B key0.k2, B key0.k3, .int .u64 0] 58) none
      have hbl := HI.out.2.bel.trans (HB.out.1.mono HI.out.2.bel.size)
      refine ⟨.slice a n c, ?_, ?_, ?_⟩
      · rw [HI.out.2.fin, h2, HT.out.2]; rfl
      · rw [HI.out.2.told, h1]; exact HB.out.2.below ((Below.refl _ W1).alloc (Nat.le_refl _) _)
      · exact hbl.alloc hbl.size _
    | some x =>
      obtain ⟨h, k⟩ := x
      rw [hr] at HH
      obtain ⟨hk2, hks, _⟩ := head_app hr
      obtain ⟨may, hmay⟩ : ∃ x, x = mayF h m := ⟨_, rfl⟩
      have HM := Lib.hid (fun W => may16_any h m W)
      rw [← hmay] at HM
      have HT := Lib.hid (And.intro hr (And.intro hmay (And.intro hk2 hks)))
      clear hr hmay hk2 hks
      have HDL : Hid (mayF h m = true → h.len < 9223372036854775808) := Lib.hid (fun e => by
        unfold mayF at e
        simp only [Bool.and_eq_true, decide_eq_true_eq] at e
        exact e.2.2.2.2.2)
      obtain ⟨fin, rsv, op, masked, ⟨k0, k1, k2, k3⟩, len, least⟩ := h
      unfold hrV hrC at HH
      unfold hrC at HM
      dsimp only at HH HM
      cases may with
      | false =>
        go_wp2_with fail
        refine (HH.out wr).mono ?_
        rintro e W1 ⟨rfl, hB⟩
        obtain ⟨W2, hW2⟩ : ∃ W, W = W1.alloc (.cells #[.bool fin, .bool masked, .bool least, .int .i64 rsv, .int .i64 op, B k0, B k1, B k2, B k3, .int .u64 len] 58) := ⟨_, rfl⟩
        have hbl := HI.out.2.bel.trans (hB.mono HI.out.2.bel.size)
        have hb2 : Below w.heap.size w W2 := by rw [hW2]; exact hbl.alloc hbl.size _
        have hr2 : Row W2 W1.heap.size #[.bool fin, .bool masked, .bool least, .int .i64 rsv, .int .i64 op, B k0, B k1, B k2, B k3, .int .u64 len] 58 := by rw [hW2]; exact row_new _ _ _
        have hev : EvR 62 w.heap.size (.slice a n c) l W2 := by rw [hW2]; exact (HI.out.2.ev.below hB).below ((Below.refl _ W1).alloc (Nat.le_refl _) _)
        have H2 := Lib.hid (And.intro hb2 (And.intro hr2 hev))
        have HM2 := Lib.hid (HM.out W2)
        rw [hW2] at HM2
        clear hB hbl hb2 hr2 hev HH
        go_wp2_with fail
        refine HM2.out.mono ?_
        rintro e W3 ⟨rfl, hB⟩
        rw [← hW2] at hB
        have hb3 := H2.out.1.trans (hB.mono H2.out.1.size)
        have hev3 := H2.out.2.2.below hB
        obtain ⟨a', c', W4, hrun, hev4, hb4, -, -, -⟩ := AllR.add hev3 hb3 (by have := HI.out.2.len; have := HSL.out; have := HS0.out; omega) failE 33
        rw [← HI.out.1] at hrun hev4
        unfold failE evC at hrun
        have H4 := Lib.hid (And.intro hev4 hb4)
        clear hB hb3 hev3 hev4 hb4 HM2 hW2
        go_wp2_with (at_builtin; refine wpList_append_by rfl 33 33 (.tmp 26) (.tmp 28) rfl (.slice a n c) (.slice (some ⟨W3.heap.size, 0, none⟩) 1 1) rfl rfl (.slice a' (n + 1) c') W4 hrun ?_)
        go_ret3
        obtain ⟨h1, h2⟩ := tell_fail (m := m) l HT.out.1 HT.out.2.1.symm
        refine ⟨.slice a' (n + 1) c', ?_, ?_, H4.out.2⟩
        · rw [HI.out.2.fin, h2]; rfl
        · rw [HI.out.2.told, h1]; exact H4.out.1
      | true =>
        have hlen : len < 9223372036854775808 := HDL.out HT.out.2.1.symm
        obtain ⟨R, hR⟩ : ∃ R, R = s.drop k := ⟨_, rfl⟩
        obtain ⟨M, hM⟩ : ∃ M, M = R.length := ⟨_, rfl⟩
        have hMs : M + k = s.length := by rw [hM, hR, List.length_drop]; have := HT.out.2.2.2; omega
        have hsl1 : ∀ W, (Instr.slice 9 (S s) (some (.int .i64 (k : Int))) none none).run Try.prog W = .ok (S R) W := fun W => by rw [hR]; exact slice_drop (P := Try.prog) Try.underlying9 s k HT.out.2.2.2 W
        have hlS := run_len_S (P := Try.prog) Try.underlying9 3 R
        rw [← hM] at hlS
        have cvL : ∀ W, (convert 56 3 (.int .u64 (len : Int))).run Try.prog W = .ok (.int .i64 (len : Int)) W := conv_ui16 Try.underlying56 Try.underlying3 len (by omega)
        have cvM : ∀ W, (convert 3 56 (.int .i64 (M : Int))).run Try.prog W = .ok (.int .u64 (M : Int)) W := conv_iu Try.underlying56 Try.underlying3 M (by have := HSL.out; omega)
        have HRM := Lib.hid (And.intro hR (And.intro hM hMs))
        have HLEN := Lib.hid hlen
        obtain ⟨hb1, hb2⟩ := tell_begin (m := m) l HT.out.1 HT.out.2.1.symm
        rw [← hR] at hb1 hb2
        have HTB := Lib.hid (And.intro hb1 hb2)
        by_cases hle : len ≤ M
        · have g9 : decide ((len : Int) ≤ (M : Int)) = true := decide_eq_true (by omega)
          have hKM : len ≤ M := by omega
          have hslT : ∀ W, (Instr.slice 9 (S R) none (some (.int .i64 (len : Int))) none).run Try.prog W = .ok (S (R.take len)) W := fun W => slice_take (P := Try.prog) Try.underlying9 R len (by rw [← hM]; exact hKM) W
          have hslD : ∀ W, (Instr.slice 9 (S R) (some (.int .i64 (len : Int))) none none).run Try.prog W = .ok (S (R.drop len)) W := fun W => slice_drop (P := Try.prog) Try.underlying9 R len (by rw [← hM]; exact hKM) W
          have cvK : ∀ W, (convert 3 56 (.int .i64 (len : Int))).run Try.prog W = .ok (.int .u64 (len : Int)) W := conv_iu Try.underlying56 Try.underlying3 len (by omega)
          have g14 : decide ((len : Int) < (len : Int)) = false := decide_eq_false (by omega)
          have g15 : decide (len < len) = false := decide_eq_false (by omega)
          have g16 : decide (len ≤ M) = true := decide_eq_true hle
          have htw := tell_whole (m := m) (h := ⟨fin, rsv, op, masked, ⟨k0, k1, k2, k3⟩, len, least⟩) (r := R) l (by show len ≤ R.length; rw [← hM]; exact hle)
          have HTW := Lib.hid htw
          clear htw hle hb1 hb2 hR hM hMs hlen
          go_wp2_with fail
          refine (HH.out wr).mono ?_
          rintro e W1 ⟨rfl, hB⟩
          obtain ⟨W2, hW2⟩ : ∃ W, W = W1.alloc (.cells #[.bool fin, .bool masked, .bool least, .int .i64 rsv, .int .i64 op, B k0, B k1, B k2, B k3, .int .u64 len] 58) := ⟨_, rfl⟩
          have hbl := HI.out.2.bel.trans (hB.mono HI.out.2.bel.size)
          have hb2 : Below w.heap.size w W2 := by rw [hW2]; exact hbl.alloc hbl.size _
          have hr2 : Row W2 W1.heap.size #[.bool fin, .bool masked, .bool least, .int .i64 rsv, .int .i64 op, B k0, B k1, B k2, B k3, .int .u64 len] 58 := by rw [hW2]; exact row_new _ _ _
          have hev : EvR 62 w.heap.size (.slice a n c) l W2 := by rw [hW2]; exact (HI.out.2.ev.below hB).below ((Below.refl _ W1).alloc (Nat.le_refl _) _)
          have hno : ∀ j, (Value.slice a n c).ownBlock = some j → j ≠ W1.heap.size := fun j hj => by have := ((HI.out.2.ev.below hB).lt hj).2; omega
          obtain ⟨b, hb⟩ : ∃ b, b = W1.heap.size := ⟨_, rfl⟩
          rw [← hb] at hr2 hno
          have H2 := Lib.hid (And.intro hb2 (And.intro hr2 (And.intro hev hno)))
          have HM2 := Lib.hid (HM.out W2)
          rw [hW2] at HM2
          clear hB hbl hb2 hr2 hev hno HH
          go_wp2_with fail
          rw [← hb]
          refine HM2.out.mono ?_
          rintro e W3 ⟨rfl, hB⟩
          rw [← hW2] at hB
          have hb3 := H2.out.1.trans (hB.mono H2.out.1.size)
          have hev3 := H2.out.2.2.1.below hB
          have hr3 := H2.out.2.1.below hB H2.out.2.1.lt
          obtain ⟨a4, c4, W4, hrun, hev4, hb4, hs4, hrk, hown4⟩ := AllR.add hev3 hb3 (by have := HI.out.2.len; have := HSL.out; have := HS0.out; omega) (beginE ⟨fin, rsv, op, masked, ⟨k0, k1, k2, k3⟩, len, least⟩) 33
          have hr4 := hrk hr3 (fun e => H2.out.2.2.2 _ e rfl)
          rw [← HI.out.1] at hrun hev4
          unfold beginE evC at hrun
          dsimp only at hrun
          have hno4 : ∀ j, (Value.slice a4 (n + 1) c4).ownBlock = some j → j ≠ b := fun j hj e => by
            subst e
            rcases hown4 _ (by rw [← HI.out.1]; exact hj) with h | h
            · exact H2.out.2.2.2 _ h rfl
            · have := hr3.lt; omega
          obtain ⟨n4, hn4⟩ : ∃ x, x = n + 1 := ⟨_, rfl⟩
          rw [← hn4] at hrun hev4 hno4
          obtain ⟨l4, hl4⟩ : ∃ x, x = l ++ [beginE ⟨fin, rsv, op, masked, ⟨k0, k1, k2, k3⟩, len, least⟩] := ⟨_, rfl⟩
          rw [← hl4] at hev4
          have H4 := Lib.hid (And.intro hev4 (And.intro hb4 (And.intro hr4 (And.intro hno4 (And.intro (show n4 = l4.length by rw [hn4, hl4, HI.out.1]; simp) hl4)))))
          have d0 := cell_of_row W3 b 0 _ _ (0, 0) hr3
          have d4 := cell_of_row W3 b 4 _ _ (0, 0) hr3
          have d9 := cell_of_row W3 b 9 _ _ (0, 0) hr3
          have e5 := cell_of_row W4 b 5 _ _ (0, 0) hr4
          have e6 := cell_of_row W4 b 6 _ _ (0, 0) hr4
          have e7 := cell_of_row W4 b 7 _ _ (0, 0) hr4
          have e8 := cell_of_row W4 b 8 _ _ (0, 0) hr4
          have e9 := cell_of_row W4 b 9 _ _ (0, 0) hr4
          clear hB hb3 hev3 hr3 hev4 hb4 hr4 hno4 hs4 hrk hown4 hn4 hl4 HM2 hW2 hb
          by_cases h0 : 0 < len
          · have g11 : decide ((len : Int) > 0) = true := decide_eq_true (by omega)
            have g12 : decide (0 < (len : Int)) = true := decide_eq_true (by omega)
            have g13 : decide (0 < len) = true := decide_eq_true h0
            go_wp2_with (at_builtin; refine wpList_append_by rfl 33 33 (.tmp 30) (.tmp 39) rfl (.slice a n c) (.slice (some ⟨W3.heap.size, 0, none⟩) 1 1) rfl rfl (.slice a4 n4 c4) W4 hrun ?_)
            have HMK := Lib.hid (fun W => mask15_any ⟨k0, k1, k2, k3⟩ 0 (R.take len) W (by have := HRM.out.1; rw [this, List.length_take, List.length_drop]; have := HSL.out; omega))
            have H5 : Hid (∀ W5, Below W4.heap.size W4 W5 → ∃ a6 c6 W6, (Builtin.append_ #[33, 33] 33 #[.slice a4 n4 c4, .slice (some ⟨W5.heap.size, 0, none⟩) 1 1]).run Try.prog (W5.alloc (.cells #[.int .i64 2, .int .i64 0, .bool false, .int .i64 0, S (maskF ⟨k0, k1, k2, k3⟩ 0 (R.take len))] 62)) = .ok (.slice a6 (n4 + 1) c6) W6 ∧
                EvR 62 w.heap.size (.slice a6 (n4 + 1) c6) (l4 ++ [pieceE (maskF ⟨k0, k1, k2, k3⟩ 0 (R.take len))]) W6 ∧ Below w.heap.size w W6 ∧ Row W5 b #[.bool fin, .bool masked, .bool least, .int .i64 rsv, .int .i64 op, B k0, B k1, B k2, B k3, .int .u64 len] 58 ∧ Row (W5.alloc (.cells #[.int .i64 2, .int .i64 0, .bool false, .int .i64 0, S (maskF ⟨k0, k1, k2, k3⟩ 0 (R.take len))] 62)) b #[.bool fin, .bool masked, .bool least, .int .i64 rsv, .int .i64 op, B k0, B k1, B k2, B k3, .int .u64 len] 58 ∧ Row W6 b #[.bool fin, .bool masked, .bool least, .int .i64 rsv, .int .i64 op, B k0, B k1, B k2, B k3, .int .u64 len] 58 ∧ W5.heap.size < W6.heap.size) := Lib.hid (fun W5 hB => by
              obtain ⟨hev, hb, hr, hno, hn, hl⟩ := H4.out
              obtain ⟨a6, c6, W6, hrun, hev6, hb6, hs6, hrk, -⟩ := AllR.add (hev.below hB) (hb.trans (hB.mono hb.size)) (by rw [hl]; have := HI.out.2.len; have := HSL.out; have := HS0.out; simp; omega) (pieceE (maskF ⟨k0, k1, k2, k3⟩ 0 (R.take len))) 33
              have hr5 := hr.below hB hr.lt
              rw [← hn] at hrun hev6
              exact ⟨a6, c6, W6, hrun, hev6, hb6, hr5, hr5.alloc _, hrk hr5 (fun e => hno _ e rfl), hs6⟩)
            unfold kV kC at HMK
            dsimp only at HMK
            go_wp2_with (at_builtin; refine wpList_append_by rfl 33 33 (.tmp 30) (.tmp 39) rfl (.slice a n c) (.slice (some ⟨W3.heap.size, 0, none⟩) 1 1) rfl rfl (.slice a4 n4 c4) W4 hrun ?_)
            have S4 : W4.drew.cell? ⟨b, 5, none⟩ = some (B k0) ∧ W4.drew.cell? ⟨b, 6, none⟩ = some (B k1) ∧ W4.drew.cell? ⟨b, 7, none⟩ = some (B k2) ∧ W4.drew.cell? ⟨b, 8, none⟩ = some (B k3) := ⟨e5, e6, e7, e8⟩
            refine wp_region_noPanic ?_
            refine wp_region_held_drew (S := fun wx => wx.cell? ⟨b, 5, none⟩ = some (B k0) ∧ wx.cell? ⟨b, 6, none⟩ = some (B k1) ∧ wx.cell? ⟨b, 7, none⟩ = some (B k2) ∧ wx.cell? ⟨b, 8, none⟩ = some (B k3)) (by kernel_rfl) S4 (fun _ => ?_)
            refine take_at (i := 0) (d := some 56) (v := .slice a4 n4 c4) rfl (by kernel_rfl) (by kernel_rfl) (by kernel_rfl) (fun _ _ _ h => h) (fun oi ho => ?_) S4 ?_
            · obtain rfl := Option.some.inj ho
              exact Or.inl ⟨by rfl, fun wx ⟨h5, h6, h7, h8⟩ => by go_simp⟩
            simp only [Act.put, List.setIfInBounds_toArray, List.set_cons_zero, List.set_cons_succ]
            refine take_at (i := 1) (d := some 57) (v := .pointer (some ⟨b, 5, none⟩)) rfl (by kernel_rfl) (by kernel_rfl) (by kernel_rfl) (fun _ _ _ h => h) (fun oi ho => ?_) S4 ?_
            · obtain rfl := Option.some.inj ho
              exact Or.inl ⟨by rfl, fun wx ⟨h5, h6, h7, h8⟩ => by go_simp⟩
            simp only [Act.put, List.setIfInBounds_toArray, List.set_cons_zero, List.set_cons_succ]
            refine take_at (i := 2) (d := some 58) (v := .agg #[B k0, B k1, B k2, B k3]) rfl (by kernel_rfl) (by kernel_rfl) (by kernel_rfl) (fun _ _ _ h => h) (fun oi ho => ?_) S4 ?_
            · obtain rfl := Option.some.inj ho
              exact Or.inl ⟨by rfl, fun wx ⟨h5, h6, h7, h8⟩ => by go_simp⟩
            simp only [Act.put, List.setIfInBounds_toArray, List.set_cons_zero, List.set_cons_succ]
            refine take_at (i := 3) (d := some 59) (v := S R) rfl (by kernel_rfl) (by kernel_rfl) (by kernel_rfl) (fun _ _ _ h => h) (fun oi ho => ?_) S4 ?_
            · obtain rfl := Option.some.inj ho
              exact Or.inl ⟨by rfl, fun wx ⟨h5, h6, h7, h8⟩ => by go_simp⟩
            simp only [Act.put, List.setIfInBounds_toArray, List.set_cons_zero, List.set_cons_succ]
            refine take_at (i := 4) (d := some 60) (v := .int .i64 (len : Int)) rfl (by kernel_rfl) (by kernel_rfl) (by kernel_rfl) (fun _ _ _ h => h) (fun oi ho => ?_) S4 ?_
            · obtain rfl := Option.some.inj ho
              exact Or.inl ⟨by rfl, fun wx ⟨h5, h6, h7, h8⟩ => by go_simp⟩
            simp only [Act.put, List.setIfInBounds_toArray, List.set_cons_zero, List.set_cons_succ]
            refine take_at (i := 5) (d := some 61) (v := S (R.take len)) rfl (by kernel_rfl) (by kernel_rfl) (by kernel_rfl) (fun _ _ _ h => h) (fun oi ho => ?_) S4 ?_
            · obtain rfl := Option.some.inj ho
              exact Or.inl ⟨by rfl, fun wx ⟨h5, h6, h7, h8⟩ => by go_simp⟩
            simp only [Act.put, List.setIfInBounds_toArray, List.set_cons_zero, List.set_cons_succ]
            refine ready_call (i := 6) (d := some 62) (f := 23) (args := #[.agg #[B k0, B k1, B k2, B k3], .int .i64 0, S (R.take len)]) rfl (by kernel_rfl) (fun oi ho => ?_) ?_
            · obtain rfl := Option.some.inj ho
              exact ⟨by rfl, by go_simp⟩
            refine (HMK.out W4.drew).mono ?_
            rintro e W5 ⟨rfl, hB⟩
            obtain ⟨a6, c6, W6, hrun6, hev6, hb6, hr5, hr5a, hr6, hs6⟩ := H5.out W5 ⟨hB.os, hB.tape, hB.output, hB.size, hB.block⟩
            obtain ⟨n6, hn6⟩ : ∃ x, x = n4 + 1 := ⟨_, rfl⟩
            rw [← hn6] at hrun6 hev6
            obtain ⟨tx, htx⟩ : ∃ x, x = maskF ⟨k0, k1, k2, k3⟩ 0 (R.take len) := ⟨_, rfl⟩
            rw [← htx] at hrun6 hev6 hr5a ⊢
            have S5 : W5.cell? ⟨b, 5, none⟩ = some (B k0) ∧ W5.cell? ⟨b, 6, none⟩ = some (B k1) ∧ W5.cell? ⟨b, 7, none⟩ = some (B k2) ∧ W5.cell? ⟨b, 8, none⟩ = some (B k3) := ⟨cell_of_row W5 b 5 _ _ (0, 0) hr5, cell_of_row W5 b 6 _ _ (0, 0) hr5, cell_of_row W5 b 7 _ _ (0, 0) hr5, cell_of_row W5 b 8 _ _ (0, 0) hr5⟩
            have S5a : (W5.alloc (.cells #[.int .i64 2, .int .i64 0, .bool false, .int .i64 0, S tx] 62)).cell? ⟨b, 5, none⟩ = some (B k0) ∧ (W5.alloc (.cells #[.int .i64 2, .int .i64 0, .bool false, .int .i64 0, S tx] 62)).cell? ⟨b, 6, none⟩ = some (B k1) ∧ (W5.alloc (.cells #[.int .i64 2, .int .i64 0, .bool false, .int .i64 0, S tx] 62)).cell? ⟨b, 7, none⟩ = some (B k2) ∧ (W5.alloc (.cells #[.int .i64 2, .int .i64 0, .bool false, .int .i64 0, S tx] 62)).cell? ⟨b, 8, none⟩ = some (B k3) := ⟨cell_of_row _ b 5 _ _ (0, 0) hr5a, cell_of_row _ b 6 _ _ (0, 0) hr5a, cell_of_row _ b 7 _ _ (0, 0) hr5a, cell_of_row _ b 8 _ _ (0, 0) hr5a⟩
            have S6 : W6.cell? ⟨b, 5, none⟩ = some (B k0) ∧ W6.cell? ⟨b, 6, none⟩ = some (B k1) ∧ W6.cell? ⟨b, 7, none⟩ = some (B k2) ∧ W6.cell? ⟨b, 8, none⟩ = some (B k3) := ⟨cell_of_row W6 b 5 _ _ (0, 0) hr6, cell_of_row W6 b 6 _ _ (0, 0) hr6, cell_of_row W6 b 7 _ _ (0, 0) hr6, cell_of_row W6 b 8 _ _ (0, 0) hr6⟩
            have f9 := cell_of_row W6 b 9 _ _ (0, 0) hr6
            have H6 := Lib.hid (And.intro hev6 (And.intro hb6 (And.intro hn6 htx)))
            have HR6 := Lib.hid hrun6
            clear hB hev6 hb6 hr5 hr5a hr6 hs6 hn6 htx hrun6 hrun d0 d4 d9 e5 e6 e7 e8 e9 H5 HMK S4
            refine ⟨_, rfl, S5, ?_⟩
            simp only [Act.put, List.setIfInBounds_toArray, List.set_cons_zero, List.set_cons_succ]
            refine take_at (i := 7) (d := some 63) (v := .agg #[.int .i64 2, .int .i64 0, .bool false, .int .i64 0, S tx]) rfl (by kernel_rfl) (by kernel_rfl) (by kernel_rfl) (fun _ _ _ h => h) (fun oi ho => ?_) S5 ?_
            · obtain rfl := Option.some.inj ho
              exact Or.inl ⟨by rfl, fun wx ⟨h5, h6, h7, h8⟩ => by go_simp⟩
            simp only [Act.put, List.setIfInBounds_toArray, List.set_cons_zero, List.set_cons_succ]
            refine ready_value (i := 8) (d := some 64) (v := .slice (some ⟨W5.heap.size, 0, none⟩) 1 1) (w' := W5.alloc (.cells #[.int .i64 2, .int .i64 0, .bool false, .int .i64 0, S tx] 62)) rfl (by kernel_rfl) (fun oi ho => ?_) S5a ?_
            · obtain rfl := Option.some.inj ho
              exact ⟨by rfl, by go_simp⟩
            simp only [Act.put, List.setIfInBounds_toArray, List.set_cons_zero, List.set_cons_succ]
            refine ready_value (i := 9) (d := some 65) (v := .slice a6 n6 c6) (w' := W6) rfl (by kernel_rfl) (fun oi ho => ?_) S6 ?_
            · obtain rfl := Option.some.inj ho
              exact ⟨by rfl, exec_append 33 33 (.tmp 56) (.tmp 64) (.slice a4 n4 c4) (.slice (some ⟨W5.heap.size, 0, none⟩) 1 1) rfl rfl rfl HR6.out⟩
            simp only [Act.put, List.setIfInBounds_toArray, List.set_cons_zero, List.set_cons_succ]
            refine take_at (i := 10) (d := some 4) (v := .slice a6 n6 c6) rfl (by kernel_rfl) (by kernel_rfl) (by kernel_rfl) (fun _ _ _ h => h) (fun oi ho => ?_) S6 ?_
            · obtain rfl := Option.some.inj ho
              exact Or.inl ⟨by rfl, fun wx ⟨h5, h6, h7, h8⟩ => by go_simp⟩
            simp only [Act.put, List.setIfInBounds_toArray, List.set_cons_zero, List.set_cons_succ]
            refine wpAnyH_done (by kernel_rfl) ?_ _
            refine NoPanic.normal ?_
            clear HR6 S5 S5a S6
            have hl6 : (l4 ++ [pieceE tx]).length = n6 := by rw [List.length_append, List.length_singleton, H6.out.2.2.1, H4.out.2.2.2.2.1]
            obtain ⟨a8, c8, W8, hrun8, hev8, hb8, -, -, -⟩ := AllR.add H6.out.1 H6.out.2.1 (by rw [hl6, H6.out.2.2.1, H4.out.2.2.2.2.1, H4.out.2.2.2.2.2]; have := HI.out.2.len; have := HSL.out; have := HS0.out; simp; omega) endE 33
            have hl8 : n6 + 1 = (l4 ++ [pieceE tx] ++ [endE]).length := by rw [← hl6]; simp
            rw [hl6] at hrun8 hev8
            unfold endE evC at hrun8
            have H8 := Lib.hid (And.intro hev8 (And.intro hb8 hl8))
            clear hev8 hb8 hl6 hl8
            go_wp2_with (at_builtin; refine wpList_append_by rfl 33 33 (.tmp 75) (.tmp 77) rfl (.slice a6 n6 c6) (.slice (some ⟨W6.heap.size, 0, none⟩) 1 1) rfl rfl (.slice a8 (n6 + 1) c8) W8 hrun8 ?_)
            have e1 := HTB.out.1
            have e2 := HTW.out.1
            have e3 := HTB.out.2
            have e4 := HTW.out.2
            try dsimp only at e1
            try dsimp only at e2
            try dsimp only at e3
            try dsimp only at e4
            rw [if_pos h0, ← mask_at0, ← H6.out.2.2.2, ← H4.out.2.2.2.2.2] at e2
            refine ⟨⟨R.drop len, l4 ++ [pieceE tx] ++ [endE], n6 + 1, a8, c8, rfl, rfl, Lib.hid ⟨H8.out.2.2, ⟨H8.out.1, H8.out.2.1, HI.out.2.told.trans (e1.trans (by rw [← H4.out.2.2.2.2.2]; exact e2)), HI.out.2.fin.trans (e3.trans e4), ?_⟩⟩⟩, ?_⟩
            · rw [← H8.out.2.2, H6.out.2.2.1, H4.out.2.2.2.2.1, H4.out.2.2.2.2.2, List.length_drop, ← HRM.out.2.1]
              have := HI.out.2.len
              have := HRM.out.2.2
              have := HT.out.2.2.1
              simp only [List.length_append, List.length_singleton]
              omega
            · rw [sLen_S, sLen_S, List.length_drop, ← HRM.out.2.1]
              have := HRM.out.2.2
              omega
          · have g11 : decide ((len : Int) > 0) = false := decide_eq_false (by omega)
            have g12 : decide (0 < (len : Int)) = false := decide_eq_false (by omega)
            have g13 : decide (0 < len) = false := decide_eq_false h0
            obtain ⟨a8, c8, W8, hrun8, hev8, hb8, -, -, -⟩ := AllR.add H4.out.1 H4.out.2.1 (by rw [H4.out.2.2.2.2.2]; have := HI.out.2.len; have := HSL.out; have := HS0.out; simp; omega) endE 33
            have hl8 : n4 + 1 = (l4 ++ [endE]).length := by rw [H4.out.2.2.2.2.1]; simp
            rw [← H4.out.2.2.2.2.1] at hrun8 hev8
            unfold endE evC at hrun8
            have H8 := Lib.hid (And.intro hev8 (And.intro hb8 hl8))
            clear hev8 hb8 hl8
            have HR8 := Lib.hid hrun8
            clear hrun8
            go_wp2_with (at_builtin; first | (refine wpList_append_by rfl 33 33 (.tmp 30) (.tmp 39) rfl (.slice a n c) (.slice (some ⟨W3.heap.size, 0, none⟩) 1 1) rfl rfl (.slice a4 n4 c4) W4 hrun ?_) | (refine wpList_append_by rfl 33 33 (.tmp 75) (.tmp 77) rfl (.slice a4 n4 c4) (.slice (some ⟨W4.heap.size, 0, none⟩) 1 1) rfl rfl (.slice a8 (n4 + 1) c8) W8 HR8.out ?_))
            have e1 := HTB.out.1
            have e2 := HTW.out.1
            have e3 := HTB.out.2
            have e4 := HTW.out.2
            try dsimp only at e1
            try dsimp only at e2
            try dsimp only at e3
            try dsimp only at e4
            rw [if_neg h0, List.append_nil, ← H4.out.2.2.2.2.2] at e2
            refine ⟨⟨R.drop len, l4 ++ [endE], n4 + 1, a8, c8, rfl, rfl, Lib.hid ⟨H8.out.2.2, ⟨H8.out.1, H8.out.2.1, HI.out.2.told.trans (e1.trans (by rw [← H4.out.2.2.2.2.2]; exact e2)), HI.out.2.fin.trans (e3.trans e4), ?_⟩⟩⟩, ?_⟩
            · rw [← H8.out.2.2, H4.out.2.2.2.2.1, H4.out.2.2.2.2.2, List.length_drop, ← HRM.out.2.1]
              have := HI.out.2.len
              have := HRM.out.2.2
              have := HT.out.2.2.1
              simp only [List.length_append, List.length_singleton]
              omega
            · rw [sLen_S, sLen_S, List.length_drop, ← HRM.out.2.1]
              have := HRM.out.2.2
              have := HT.out.2.2.1
              omega
        · have g9 : decide ((len : Int) ≤ (M : Int)) = false := decide_eq_false (by omega)
          have hKM : M ≤ M := by omega
          have hslT : ∀ W, (Instr.slice 9 (S R) none (some (.int .i64 (M : Int))) none).run Try.prog W = .ok (S (R.take M)) W := fun W => slice_take (P := Try.prog) Try.underlying9 R M (by rw [← hM]; exact hKM) W
          have hslD : ∀ W, (Instr.slice 9 (S R) (some (.int .i64 (M : Int))) none none).run Try.prog W = .ok (S (R.drop M)) W := fun W => slice_drop (P := Try.prog) Try.underlying9 R M (by rw [← hM]; exact hKM) W
          have g14 : decide ((M : Int) < (len : Int)) = true := decide_eq_true (by omega)
          have g15 : decide (M < len) = true := decide_eq_true (by omega)
          have g16 : decide (len ≤ M) = false := decide_eq_false hle
          have htw := tell_part (m := m) (h := ⟨fin, rsv, op, masked, ⟨k0, k1, k2, k3⟩, len, least⟩) (r := R) l (by show R.length < len; rw [← hM]; omega)
          rw [← hM] at htw
          have HTW := Lib.hid htw
          clear htw hle hb1 hb2 hR hM hMs hlen
          go_wp2_with fail
          refine (HH.out wr).mono ?_
          rintro e W1 ⟨rfl, hB⟩
          obtain ⟨W2, hW2⟩ : ∃ W, W = W1.alloc (.cells #[.bool fin, .bool masked, .bool least, .int .i64 rsv, .int .i64 op, B k0, B k1, B k2, B k3, .int .u64 len] 58) := ⟨_, rfl⟩
          have hbl := HI.out.2.bel.trans (hB.mono HI.out.2.bel.size)
          have hb2 : Below w.heap.size w W2 := by rw [hW2]; exact hbl.alloc hbl.size _
          have hr2 : Row W2 W1.heap.size #[.bool fin, .bool masked, .bool least, .int .i64 rsv, .int .i64 op, B k0, B k1, B k2, B k3, .int .u64 len] 58 := by rw [hW2]; exact row_new _ _ _
          have hev : EvR 62 w.heap.size (.slice a n c) l W2 := by rw [hW2]; exact (HI.out.2.ev.below hB).below ((Below.refl _ W1).alloc (Nat.le_refl _) _)
          have hno : ∀ j, (Value.slice a n c).ownBlock = some j → j ≠ W1.heap.size := fun j hj => by have := ((HI.out.2.ev.below hB).lt hj).2; omega
          obtain ⟨b, hb⟩ : ∃ b, b = W1.heap.size := ⟨_, rfl⟩
          rw [← hb] at hr2 hno
          have H2 := Lib.hid (And.intro hb2 (And.intro hr2 (And.intro hev hno)))
          have HM2 := Lib.hid (HM.out W2)
          rw [hW2] at HM2
          clear hB hbl hb2 hr2 hev hno HH
          go_wp2_with fail
          rw [← hb]
          refine HM2.out.mono ?_
          rintro e W3 ⟨rfl, hB⟩
          rw [← hW2] at hB
          have hb3 := H2.out.1.trans (hB.mono H2.out.1.size)
          have hev3 := H2.out.2.2.1.below hB
          have hr3 := H2.out.2.1.below hB H2.out.2.1.lt
          obtain ⟨a4, c4, W4, hrun, hev4, hb4, hs4, hrk, hown4⟩ := AllR.add hev3 hb3 (by have := HI.out.2.len; have := HSL.out; have := HS0.out; omega) (beginE ⟨fin, rsv, op, masked, ⟨k0, k1, k2, k3⟩, len, least⟩) 33
          have hr4 := hrk hr3 (fun e => H2.out.2.2.2 _ e rfl)
          rw [← HI.out.1] at hrun hev4
          unfold beginE evC at hrun
          dsimp only at hrun
          have hno4 : ∀ j, (Value.slice a4 (n + 1) c4).ownBlock = some j → j ≠ b := fun j hj e => by
            subst e
            rcases hown4 _ (by rw [← HI.out.1]; exact hj) with h | h
            · exact H2.out.2.2.2 _ h rfl
            · have := hr3.lt; omega
          obtain ⟨n4, hn4⟩ : ∃ x, x = n + 1 := ⟨_, rfl⟩
          rw [← hn4] at hrun hev4 hno4
          obtain ⟨l4, hl4⟩ : ∃ x, x = l ++ [beginE ⟨fin, rsv, op, masked, ⟨k0, k1, k2, k3⟩, len, least⟩] := ⟨_, rfl⟩
          rw [← hl4] at hev4
          have H4 := Lib.hid (And.intro hev4 (And.intro hb4 (And.intro hr4 (And.intro hno4 (And.intro (show n4 = l4.length by rw [hn4, hl4, HI.out.1]; simp) hl4)))))
          have d0 := cell_of_row W3 b 0 _ _ (0, 0) hr3
          have d4 := cell_of_row W3 b 4 _ _ (0, 0) hr3
          have d9 := cell_of_row W3 b 9 _ _ (0, 0) hr3
          have e5 := cell_of_row W4 b 5 _ _ (0, 0) hr4
          have e6 := cell_of_row W4 b 6 _ _ (0, 0) hr4
          have e7 := cell_of_row W4 b 7 _ _ (0, 0) hr4
          have e8 := cell_of_row W4 b 8 _ _ (0, 0) hr4
          have e9 := cell_of_row W4 b 9 _ _ (0, 0) hr4
          clear hB hb3 hev3 hr3 hev4 hb4 hr4 hno4 hs4 hrk hown4 hn4 hl4 HM2 hW2 hb
          by_cases h0 : 0 < M
          · have g11 : decide ((M : Int) > 0) = true := decide_eq_true (by omega)
            have g12 : decide (0 < (M : Int)) = true := decide_eq_true (by omega)
            have g13 : decide (0 < M) = true := decide_eq_true h0
            go_wp2_with (at_builtin; refine wpList_append_by rfl 33 33 (.tmp 30) (.tmp 39) rfl (.slice a n c) (.slice (some ⟨W3.heap.size, 0, none⟩) 1 1) rfl rfl (.slice a4 n4 c4) W4 hrun ?_)
            have HMK := Lib.hid (fun W => mask15_any ⟨k0, k1, k2, k3⟩ 0 (R.take M) W (by have := HRM.out.1; rw [this, List.length_take, List.length_drop]; have := HSL.out; omega))
            have H5 : Hid (∀ W5, Below W4.heap.size W4 W5 → ∃ a6 c6 W6, (Builtin.append_ #[33, 33] 33 #[.slice a4 n4 c4, .slice (some ⟨W5.heap.size, 0, none⟩) 1 1]).run Try.prog (W5.alloc (.cells #[.int .i64 2, .int .i64 0, .bool false, .int .i64 0, S (maskF ⟨k0, k1, k2, k3⟩ 0 (R.take M))] 62)) = .ok (.slice a6 (n4 + 1) c6) W6 ∧
                EvR 62 w.heap.size (.slice a6 (n4 + 1) c6) (l4 ++ [pieceE (maskF ⟨k0, k1, k2, k3⟩ 0 (R.take M))]) W6 ∧ Below w.heap.size w W6 ∧ Row W5 b #[.bool fin, .bool masked, .bool least, .int .i64 rsv, .int .i64 op, B k0, B k1, B k2, B k3, .int .u64 len] 58 ∧ Row (W5.alloc (.cells #[.int .i64 2, .int .i64 0, .bool false, .int .i64 0, S (maskF ⟨k0, k1, k2, k3⟩ 0 (R.take M))] 62)) b #[.bool fin, .bool masked, .bool least, .int .i64 rsv, .int .i64 op, B k0, B k1, B k2, B k3, .int .u64 len] 58 ∧ Row W6 b #[.bool fin, .bool masked, .bool least, .int .i64 rsv, .int .i64 op, B k0, B k1, B k2, B k3, .int .u64 len] 58 ∧ W5.heap.size < W6.heap.size) := Lib.hid (fun W5 hB => by
              obtain ⟨hev, hb, hr, hno, hn, hl⟩ := H4.out
              obtain ⟨a6, c6, W6, hrun, hev6, hb6, hs6, hrk, -⟩ := AllR.add (hev.below hB) (hb.trans (hB.mono hb.size)) (by rw [hl]; have := HI.out.2.len; have := HSL.out; have := HS0.out; simp; omega) (pieceE (maskF ⟨k0, k1, k2, k3⟩ 0 (R.take M))) 33
              have hr5 := hr.below hB hr.lt
              rw [← hn] at hrun hev6
              exact ⟨a6, c6, W6, hrun, hev6, hb6, hr5, hr5.alloc _, hrk hr5 (fun e => hno _ e rfl), hs6⟩)
            unfold kV kC at HMK
            dsimp only at HMK
            go_wp2_with (at_builtin; refine wpList_append_by rfl 33 33 (.tmp 30) (.tmp 39) rfl (.slice a n c) (.slice (some ⟨W3.heap.size, 0, none⟩) 1 1) rfl rfl (.slice a4 n4 c4) W4 hrun ?_)
            have S4 : W4.drew.cell? ⟨b, 5, none⟩ = some (B k0) ∧ W4.drew.cell? ⟨b, 6, none⟩ = some (B k1) ∧ W4.drew.cell? ⟨b, 7, none⟩ = some (B k2) ∧ W4.drew.cell? ⟨b, 8, none⟩ = some (B k3) := ⟨e5, e6, e7, e8⟩
            refine wp_region_noPanic ?_
            refine wp_region_held_drew (S := fun wx => wx.cell? ⟨b, 5, none⟩ = some (B k0) ∧ wx.cell? ⟨b, 6, none⟩ = some (B k1) ∧ wx.cell? ⟨b, 7, none⟩ = some (B k2) ∧ wx.cell? ⟨b, 8, none⟩ = some (B k3)) (by kernel_rfl) S4 (fun _ => ?_)
            refine take_at (i := 0) (d := some 56) (v := .slice a4 n4 c4) rfl (by kernel_rfl) (by kernel_rfl) (by kernel_rfl) (fun _ _ _ h => h) (fun oi ho => ?_) S4 ?_
            · obtain rfl := Option.some.inj ho
              exact Or.inl ⟨by rfl, fun wx ⟨h5, h6, h7, h8⟩ => by go_simp⟩
            simp only [Act.put, List.setIfInBounds_toArray, List.set_cons_zero, List.set_cons_succ]
            refine take_at (i := 1) (d := some 57) (v := .pointer (some ⟨b, 5, none⟩)) rfl (by kernel_rfl) (by kernel_rfl) (by kernel_rfl) (fun _ _ _ h => h) (fun oi ho => ?_) S4 ?_
            · obtain rfl := Option.some.inj ho
              exact Or.inl ⟨by rfl, fun wx ⟨h5, h6, h7, h8⟩ => by go_simp⟩
            simp only [Act.put, List.setIfInBounds_toArray, List.set_cons_zero, List.set_cons_succ]
            refine take_at (i := 2) (d := some 58) (v := .agg #[B k0, B k1, B k2, B k3]) rfl (by kernel_rfl) (by kernel_rfl) (by kernel_rfl) (fun _ _ _ h => h) (fun oi ho => ?_) S4 ?_
            · obtain rfl := Option.some.inj ho
              exact Or.inl ⟨by rfl, fun wx ⟨h5, h6, h7, h8⟩ => by go_simp⟩
            simp only [Act.put, List.setIfInBounds_toArray, List.set_cons_zero, List.set_cons_succ]
            refine take_at (i := 3) (d := some 59) (v := S R) rfl (by kernel_rfl) (by kernel_rfl) (by kernel_rfl) (fun _ _ _ h => h) (fun oi ho => ?_) S4 ?_
            · obtain rfl := Option.some.inj ho
              exact Or.inl ⟨by rfl, fun wx ⟨h5, h6, h7, h8⟩ => by go_simp⟩
            simp only [Act.put, List.setIfInBounds_toArray, List.set_cons_zero, List.set_cons_succ]
            refine take_at (i := 4) (d := some 60) (v := .int .i64 (M : Int)) rfl (by kernel_rfl) (by kernel_rfl) (by kernel_rfl) (fun _ _ _ h => h) (fun oi ho => ?_) S4 ?_
            · obtain rfl := Option.some.inj ho
              exact Or.inl ⟨by rfl, fun wx ⟨h5, h6, h7, h8⟩ => by go_simp⟩
            simp only [Act.put, List.setIfInBounds_toArray, List.set_cons_zero, List.set_cons_succ]
            refine take_at (i := 5) (d := some 61) (v := S (R.take M)) rfl (by kernel_rfl) (by kernel_rfl) (by kernel_rfl) (fun _ _ _ h => h) (fun oi ho => ?_) S4 ?_
            · obtain rfl := Option.some.inj ho
              exact Or.inl ⟨by rfl, fun wx ⟨h5, h6, h7, h8⟩ => by go_simp⟩
            simp only [Act.put, List.setIfInBounds_toArray, List.set_cons_zero, List.set_cons_succ]
            refine ready_call (i := 6) (d := some 62) (f := 23) (args := #[.agg #[B k0, B k1, B k2, B k3], .int .i64 0, S (R.take M)]) rfl (by kernel_rfl) (fun oi ho => ?_) ?_
            · obtain rfl := Option.some.inj ho
              exact ⟨by rfl, by go_simp⟩
            refine (HMK.out W4.drew).mono ?_
            rintro e W5 ⟨rfl, hB⟩
            obtain ⟨a6, c6, W6, hrun6, hev6, hb6, hr5, hr5a, hr6, hs6⟩ := H5.out W5 ⟨hB.os, hB.tape, hB.output, hB.size, hB.block⟩
            obtain ⟨n6, hn6⟩ : ∃ x, x = n4 + 1 := ⟨_, rfl⟩
            rw [← hn6] at hrun6 hev6
            obtain ⟨tx, htx⟩ : ∃ x, x = maskF ⟨k0, k1, k2, k3⟩ 0 (R.take M) := ⟨_, rfl⟩
            rw [← htx] at hrun6 hev6 hr5a ⊢
            have S5 : W5.cell? ⟨b, 5, none⟩ = some (B k0) ∧ W5.cell? ⟨b, 6, none⟩ = some (B k1) ∧ W5.cell? ⟨b, 7, none⟩ = some (B k2) ∧ W5.cell? ⟨b, 8, none⟩ = some (B k3) := ⟨cell_of_row W5 b 5 _ _ (0, 0) hr5, cell_of_row W5 b 6 _ _ (0, 0) hr5, cell_of_row W5 b 7 _ _ (0, 0) hr5, cell_of_row W5 b 8 _ _ (0, 0) hr5⟩
            have S5a : (W5.alloc (.cells #[.int .i64 2, .int .i64 0, .bool false, .int .i64 0, S tx] 62)).cell? ⟨b, 5, none⟩ = some (B k0) ∧ (W5.alloc (.cells #[.int .i64 2, .int .i64 0, .bool false, .int .i64 0, S tx] 62)).cell? ⟨b, 6, none⟩ = some (B k1) ∧ (W5.alloc (.cells #[.int .i64 2, .int .i64 0, .bool false, .int .i64 0, S tx] 62)).cell? ⟨b, 7, none⟩ = some (B k2) ∧ (W5.alloc (.cells #[.int .i64 2, .int .i64 0, .bool false, .int .i64 0, S tx] 62)).cell? ⟨b, 8, none⟩ = some (B k3) := ⟨cell_of_row _ b 5 _ _ (0, 0) hr5a, cell_of_row _ b 6 _ _ (0, 0) hr5a, cell_of_row _ b 7 _ _ (0, 0) hr5a, cell_of_row _ b 8 _ _ (0, 0) hr5a⟩
            have S6 : W6.cell? ⟨b, 5, none⟩ = some (B k0) ∧ W6.cell? ⟨b, 6, none⟩ = some (B k1) ∧ W6.cell? ⟨b, 7, none⟩ = some (B k2) ∧ W6.cell? ⟨b, 8, none⟩ = some (B k3) := ⟨cell_of_row W6 b 5 _ _ (0, 0) hr6, cell_of_row W6 b 6 _ _ (0, 0) hr6, cell_of_row W6 b 7 _ _ (0, 0) hr6, cell_of_row W6 b 8 _ _ (0, 0) hr6⟩
            have f9 := cell_of_row W6 b 9 _ _ (0, 0) hr6
            have H6 := Lib.hid (And.intro hev6 (And.intro hb6 (And.intro hn6 htx)))
            have HR6 := Lib.hid hrun6
            clear hB hev6 hb6 hr5 hr5a hr6 hs6 hn6 htx hrun6 hrun d0 d4 d9 e5 e6 e7 e8 e9 H5 HMK S4
            refine ⟨_, rfl, S5, ?_⟩
            simp only [Act.put, List.setIfInBounds_toArray, List.set_cons_zero, List.set_cons_succ]
            refine take_at (i := 7) (d := some 63) (v := .agg #[.int .i64 2, .int .i64 0, .bool false, .int .i64 0, S tx]) rfl (by kernel_rfl) (by kernel_rfl) (by kernel_rfl) (fun _ _ _ h => h) (fun oi ho => ?_) S5 ?_
            · obtain rfl := Option.some.inj ho
              exact Or.inl ⟨by rfl, fun wx ⟨h5, h6, h7, h8⟩ => by go_simp⟩
            simp only [Act.put, List.setIfInBounds_toArray, List.set_cons_zero, List.set_cons_succ]
            refine ready_value (i := 8) (d := some 64) (v := .slice (some ⟨W5.heap.size, 0, none⟩) 1 1) (w' := W5.alloc (.cells #[.int .i64 2, .int .i64 0, .bool false, .int .i64 0, S tx] 62)) rfl (by kernel_rfl) (fun oi ho => ?_) S5a ?_
            · obtain rfl := Option.some.inj ho
              exact ⟨by rfl, by go_simp⟩
            simp only [Act.put, List.setIfInBounds_toArray, List.set_cons_zero, List.set_cons_succ]
            refine ready_value (i := 9) (d := some 65) (v := .slice a6 n6 c6) (w' := W6) rfl (by kernel_rfl) (fun oi ho => ?_) S6 ?_
            · obtain rfl := Option.some.inj ho
              exact ⟨by rfl, exec_append 33 33 (.tmp 56) (.tmp 64) (.slice a4 n4 c4) (.slice (some ⟨W5.heap.size, 0, none⟩) 1 1) rfl rfl rfl HR6.out⟩
            simp only [Act.put, List.setIfInBounds_toArray, List.set_cons_zero, List.set_cons_succ]
            refine take_at (i := 10) (d := some 4) (v := .slice a6 n6 c6) rfl (by kernel_rfl) (by kernel_rfl) (by kernel_rfl) (fun _ _ _ h => h) (fun oi ho => ?_) S6 ?_
            · obtain rfl := Option.some.inj ho
              exact Or.inl ⟨by rfl, fun wx ⟨h5, h6, h7, h8⟩ => by go_simp⟩
            simp only [Act.put, List.setIfInBounds_toArray, List.set_cons_zero, List.set_cons_succ]
            refine wpAnyH_done (by kernel_rfl) ?_ _
            refine NoPanic.normal ?_
            clear HR6 S5 S5a S6
            go_wp2
            go_ret3
            refine ⟨.slice a6 n6 c6, ?_, ?_, H6.out.2.1⟩
            · rw [HI.out.2.fin, HTB.out.2, HTW.out.2]; simp [Fst.idle]
            · rw [HI.out.2.told, HTB.out.1, HTW.out.1, if_pos h0]
              have hev := H6.out.1
              rw [H6.out.2.2.2, mask_at0, HRM.out.2.1, List.take_length, H4.out.2.2.2.2.2] at hev
              exact hev
          · have g11 : decide ((M : Int) > 0) = false := decide_eq_false (by omega)
            have g12 : decide (0 < (M : Int)) = false := decide_eq_false (by omega)
            have g13 : decide (0 < M) = false := decide_eq_false h0
            go_wp2_with (at_builtin; refine wpList_append_by rfl 33 33 (.tmp 30) (.tmp 39) rfl (.slice a n c) (.slice (some ⟨W3.heap.size, 0, none⟩) 1 1) rfl rfl (.slice a4 n4 c4) W4 hrun ?_)
            go_ret3
            refine ⟨.slice a4 n4 c4, ?_, ?_, H4.out.2.1⟩
            · rw [HI.out.2.fin, HTB.out.2, HTW.out.2]; simp [Fst.idle]
            · rw [HI.out.2.told, HTB.out.1, HTW.out.1, if_neg h0, List.append_nil]
              have hev := H4.out.1
              rw [H4.out.2.2.2.2.2] at hev
              exact hev
end Go.Proofs.Ytlmolmmhkddpaaa
