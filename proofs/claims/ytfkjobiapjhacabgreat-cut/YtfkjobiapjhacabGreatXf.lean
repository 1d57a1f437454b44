/- Anything: one packet. Own work. -/
import Derived.Test.YtfkjobiapjhacabGreatXe
import Derived.Test.YtfkjobiapjhacabGreatQc
namespace Go.Proofs.YtfkjobiapjhacabGreat
open Go.RowKit
attribute [local go_sem ↓] Go.wp_at_zero Go.wp_at_succ

set_option maxHeartbeats 400000 in
theorem at_big (s : ByteArray) (p : Int) (n : Nat) (w : World) (h0 : 0 ≤ p) (h1 : p ≤ 1000000) (hn : n ≤ 4) :
    Calls Tryz.prog 37 #[.string s, .int .i64 p, .int .i64 n] w fun e w' => e = .returned (.int .i64 (atN s p n)) ∧ w' = w := by
  go_enter Tryz.func37, Tryz.ntmps37
  go_wp2
  go_loop [7, 8] (fun v i => ∃ k : Nat, k ≤ n ∧ i = .int .i64 (p + k) ∧ v = .int .i64 (atN s p k)) (fun _ i => n + p.toNat - (intOf i).toNat)
  case atStart => exact ⟨0, Nat.zero_le _, by simp, rfl⟩
  case round =>
    obtain ⟨k, hk, rfl, rfl⟩ := hrel
    have hb := atN_bd s p k
    have hS : Hid (atN s p (k + 1) = atN s p k * 256 + byteAt s (p + k)) := rfl
    have hbb := byteAt_bd s (p + k)
    have hlt4 : atN s p k < 4294967296 := by
      rcases (by omega : k = 0 ∨ k = 1 ∨ k = 2 ∨ k = 3 ∨ k = 4) with rfl | rfl | rfl | rfl | rfl <;> omega
    clear hb
    have hb0 := (atN_bd s p k).1
    by_cases hlt : k < n
    · by_cases hin : p + k < s.size
      · obtain ⟨q, hq⟩ := Int.eq_ofNat_of_zero_le (show 0 ≤ p + k by omega)
        have hqs : q < s.size := by omega
        have HB : Hid (byteAt s (p + k) = (s[q].toNat : Int)) := by show _ = _; rw [hq]; exact byteAt_nat s q hqs
        have hu := s[q].toNat_lt
        go_wp2
        go_round
        case rel => exact ⟨k + 1, by omega, by go_num, by rw [hS.out, HB.out, or_byte _ _ hb0 (by omega) (by omega) (by omega)]⟩
        case measure => simp [intOf]; omega
      · have HB : Hid (byteAt s (p + k) = 0) := byteAt_out s _ (by omega)
        go_wp2
        go_round
        case rel => exact ⟨k + 1, by omega, by go_num, by rw [hS.out, HB.out]; simp⟩
        case measure => simp [intOf]; omega
    · have e : k = n := by omega
      subst e
      go_wp2
      go_ret
      exact ⟨rfl, rfl⟩
/-- A box at which n packets have come in. -/
structure St (s : BX) (n T : Int) : Prop where
  good : Good s
  bx : BxN s
  hd : Hdrs s.wl
  cs : CsOK s.cs n
  tm : s.tm ≤ T
  n0 : 0 ≤ n
theorem St.recv {s : BX} {n T : Int} (h : St s n T) (hn : n ≤ 100000) (side : Int) (raw : ByteArray) : St (recvG s (handG s side raw)) (n + 1) T := by
  have hb := handG_bd s side raw
  have := h.n0
  exact ⟨h.good.recv side raw, ⟨h.bx.ou, h.bx.ne, h.bx.bi, h.bx.ps, h.bx.gl⟩, (hand_hok h.good h.hd side raw).hd, h.cs.bump (by omega) _ (by omega), h.tm, by omega⟩
theorem St.tick {s : BX} {n T : Int} (h : St s n T) (k : Int) (h0 : 0 ≤ k) (h1 : k ≤ 1048576) (hT : T ≤ 100000000000) : St (tickS s k) n (T + 1048576) := by
  have := h.tm
  exact ⟨h.good.tick k h0 (by omega), ⟨h.bx.ou, h.bx.ne, h.bx.bi, h.bx.ps, h.bx.gl⟩, fun d hd => h.hd d (List.mem_filter.1 hd).1, h.cs, by show s.tm + k ≤ T + 1048576; omega, h.n0⟩
theorem FrsAt.at {w : World} {fv : Value} {fs : List (Int × ByteArray)} (h : FrsAt w fv fs) (k : Nat) (hk : k < fs.length) : ∃ g cap, fv = .slice (some ⟨g, 0, none⟩) fs.length cap ∧ g < w.heap.size ∧ w.cell? ⟨g, k * 2, none⟩ = some (.int .i64 fs[k].1) ∧ w.cell? ⟨g, k * 2 + 1, none⟩ = some (.string fs[k].2) := by
  obtain ⟨g, cap, e, hg, hc⟩ := LsAt.get h (by intro e; rw [e] at hk; simp at hk)
  exact ⟨g, cap, e, hg, hc k hk 0 (by decide), hc k hk 1 (by decide)⟩
set_option maxRecDepth 100000 in
set_option maxHeartbeats 4000000 in
theorem anything_any {w : World} {b db : Nat} {v : Value} {s : BX} {n T : Int} (hB : BoxAt w b v s) (hdk : w.heap[db]? = some (.cells #[.pointer (some ⟨b, 0, none⟩)] 32 (0, 0))) (hdb : db ≠ b) (hdv : v.ownBlock ≠ some db) (hS : St s n T) (hn : n ≤ 100000) (hT : T ≤ 100000000000) (raw : ByteArray) (side ticks : Int) :
    Calls Tryz.prog 14 #[.pointer (some ⟨db, 0, none⟩), .string raw, .int .i64 side, .int .i64 ticks] w fun e w' => e = .returned (.bool true) ∧ ∃ v' s', BoxAt w' b v' s' ∧ Chg b v w w' v' ∧ St s' (n + 1) (T + 1048576) := by
  have hS1 := hS.recv hn side raw
  have hH := hand_hok hS.good hS.hd side raw
  have hHb := handG_bd s side raw
  have hBx := hS.bx
  have HC1 : Hid (Calls Tryz.prog 35 #[.pointer (some ⟨b, 0, none⟩)] w fun e w' => e = .returned (.int .i64 n) ∧ w' = w) := counts_any hB n hS.cs (by omega)
  have HRC : Hid (Calls Tryz.prog 21 #[.pointer (some ⟨b, 0, none⟩), .int .i64 side, .string raw] w fun e w' => ∃ fv, e = .returned (.tuple #[.int .i64 (handG s side raw).what, fv]) ∧ FrsAt w' fv (handG s side raw).frs ∧ ∃ v', BoxAt w' b v' (recvG s (handG s side raw)) ∧ Chg b v w w' v') := Receive_good hB hS.good side raw
  generalize recvG s (handG s side raw) = s1 at hS1 HRC
  generalize handG s side raw = H at hH hHb HRC
  have HS1 : Hid (St s1 (n + 1) T) := hS1
  have HH : Hid (HOK s side H) := hH
  have HBX : Hid (BxN s) := hBx
  have hdc : w.cell? ⟨db, 0, none⟩ = some (.pointer (some ⟨b, 0, none⟩)) := by simp [World.cell?, hdk]
  have hdl := lt_of_block hdk
  have HDK : Hid (w.heap[db]? = some (.cells #[.pointer (some ⟨b, 0, none⟩)] 32 (0, 0))) := hdk
  have HDV : Hid (db ≠ b ∧ v.ownBlock ≠ some db) := ⟨hdb, hdv⟩
  have hn0 := hS.n0
  have w0 := hHb.1
  have w18 := hHb.2
  clear hS hB hS1 hH hBx hHb hdk hdb hdv
  go_enter Tryz.func14, Tryz.ntmps14
  go_wp2_with fail
  refine HC1.out.mono ?_
  rintro e w' ⟨rfl, rfl⟩
  obtain ⟨w0', hw0'⟩ : ∃ w0', w0' = w' := ⟨_, rfl⟩
  subst hw0'
  go_wp2_with fail
  refine HRC.out.mono ?_
  rintro e w1 ⟨fv, rfl, hfr, v1, hbx, hch⟩
  have hk1 := (hch.keep HDK.out HDV.out.1 HDV.out.2).1
  have HDV4 : Hid (v1.ownBlock ≠ some db) := (hch.keep HDK.out HDV.out.1 HDV.out.2).2
  clear HDK hdc hdl HC1 HRC
  have HDK : Hid (w1.heap[db]? = some (.cells #[.pointer (some ⟨b, 0, none⟩)] 32 (0, 0))) := hk1
  have hdc : w1.cell? ⟨db, 0, none⟩ = some (.pointer (some ⟨b, 0, none⟩)) := by simp [World.cell?, hk1]
  have hdl := lt_of_block hk1
  have HB1 : Hid (BoxAt w1 b v1 s1) := hbx
  have HCH : Hid (Chg b v w0' w1 v1) := hch
  have HFR : Hid (FrsAt w1 fv H.frs) := hfr
  obtain ⟨fao, fcap, hfv⟩ := LsAt.shape hfr
  obtain ⟨len, hlen⟩ : ∃ len, len = H.frs.length := ⟨_, rfl⟩
  rw [← hlen] at hfv
  have HLE : Hid (len = H.frs.length) := hlen
  have HC2 : Hid (Calls Tryz.prog 35 #[.pointer (some ⟨b, 0, none⟩)] w1 fun e w' => e = .returned (.int .i64 (n + 1)) ∧ w' = w1) := counts_any hbx (n + 1) HS1.out.cs (by omega)
  clear hbx hch hfr hk1 hlen
  subst hfv
  go_wp2_with fail
  refine HC2.out.mono ?_
  rintro e w' ⟨rfl, hw1e⟩
  subst hw1e
  clear HC2
  have hwl : (H.what = 0 ∧ 0 < len) ∨ (¬ H.what = 0 ∧ len = 0) := by
    rw [HLE.out]
    by_cases e : H.what = 0
    · exact Or.inl ⟨e, List.length_pos_iff.2 (HH.out.yes e)⟩
    · exact Or.inr ⟨e, by rw [HH.out.no e]; rfl⟩
  have HPR : Hid (∀ k (hk : k < H.frs.length) W, Calls Tryz.prog 36 #[.agg #[.int .i64 H.frs[k].1, .string H.frs[k].2], .int .i64 side] W fun e w' => e = .returned (.bool true) ∧ Below W.heap.size W w') := fun k hk W => proper_any HBX.out (HH.out.fr _ (List.getElem_mem hk)) W
  generalize hwh : H.what = wh at hwl w0 w18 ⊢
  clear hwh
  go_upto_region 4 with fail
  go_cut [62] (fun s62 wx => s62 = .bool false ∧ wx = w')
  case first =>
    rcases hwl with ⟨rfl, hl⟩ | ⟨hz, hl⟩
    · have hl' : (0 : Int) < (len : Int) := by omega
      go_wp2_with fail
      go_meet
      exact ⟨by simp, rfl⟩
    · subst hl
      have hz' : (wh == 0) = false := by simp [hz]
      have hz2 : ¬ wh < 0 := by omega
      have hz3 : ¬ 18 ≤ wh := by omega
      clear hz
      go_wp2_with fail
      go_meet
      exact ⟨by simp [*], rfl⟩
  case rest =>
  obtain ⟨rfl, hwc⟩ := hcut
  obtain ⟨wb, hwb⟩ : ∃ wb, wb = wc := ⟨_, rfl⟩
  subst hwb
  subst hwc
  have hlen1 : len ≤ 1000 := by rw [HLE.out]; exact HH.out.ln
  clear hwl
  go_wp2_with fail
  go_loopw [13] (fun i wr => ∃ k : Nat, k ≤ len ∧ i = .int .i64 (k : Int) ∧ Below wb.heap.size wb wr) (fun i _ => len - (intOf i).toNat)
  case atStart => exact ⟨0, Nat.zero_le _, rfl, Below.refl _ _⟩
  case round =>
    obtain ⟨k, hk, rfl, hb⟩ := hrel
    have HBL : Hid (Below wb.heap.size wb wr) := hb
    by_cases hlt : k < len
    · have hlo : k < H.frs.length := by rw [← HLE.out]; exact hlt
      obtain ⟨g, cp, hv, hg, c0, c1⟩ := FrsAt.at (LsAt.keep HFR.out hb) k hlo
      simp at hv
      obtain ⟨rfl, -, rfl⟩ := hv
      have HP : Hid (∀ W, Calls Tryz.prog 36 #[.agg #[.int .i64 H.frs[k].1, .string H.frs[k].2], .int .i64 side] W fun e w' => e = .returned (.bool true) ∧ Below W.heap.size W w') := fun W => HPR.out k hlo W
      generalize H.frs[k].1 = f1 at c0 HP
      generalize H.frs[k].2 = f2 at c1 HP
      have hkI : (0 : Int) ≤ (k : Int) := by omega
      have hkL : (k : Int) < (len : Int) := by omega
      clear hb
      go_wp2_with fail
      refine (HP.out _).mono ?_
      rintro e w2 ⟨rfl, hb2⟩
      have HB2 : Hid (Below wb.heap.size wb w2) := HBL.out.trans (hb2.mono HBL.out.size)
      clear hb2 HBL c0 c1
      go_wp2_with fail
      go_roundw
      case rel => exact ⟨k + 1, by omega, by go_num, HB2.out⟩
      case measure => simp [intOf]; omega
    · have hge : ¬ (k : Int) < (len : Int) := by omega
      have hdc2 := (hb.cell (p := ⟨db, 0, none⟩) hdl).trans hdc
      have hdl2 : db < wr.heap.size := Nat.lt_of_lt_of_le hdl hb.size
      clear hdc
      go_upto_if 79 with fail
      go_cut [] (fun wx => Below wb.heap.size wb wx)
      case first =>
        by_cases h1 : len = 1
        · obtain ⟨f, hf⟩ : ∃ f, H.frs = [f] := List.length_eq_one_iff.1 (by rw [← HLE.out]; exact h1)
          have hfk := HH.out.fr f (by rw [hf]; simp)
          have hon := HH.out.one f hf
          obtain ⟨g, cp, hv, hg, c0, c1⟩ := FrsAt.at (LsAt.keep HFR.out hb) 0 (by rw [hf]; simp)
          have e0 : H.frs[0]'(by rw [hf]; simp) = f := by simp [hf]
          rw [e0] at c0 c1
          simp at hv
          obtain ⟨rfl, -, rfl⟩ := hv
          have h1' : ((len : Int) == 1) = true := by simp [h1]
          have hl0 : (0 : Int) < (len : Int) := by omega
          generalize f.2 = r at hfk hon c1
          have z0 := hfk.z0
          have z1 := hfk.z1
          obtain ⟨ys, y2, y0, y1, yeq⟩ := flat_frame r z0 z1 hfk.w2
          obtain ⟨S, hSS⟩ : ∃ S : ByteArray, S = ⟨#[69, 0]⟩ ++ r.extract 2 r.size := ⟨_, rfl⟩
          rw [← hSS] at ys y2 y0 y1 yeq
          obtain ⟨q, ok, hpa, hqb, hpl⟩ : ∃ (q : PK) (ok : Bool), (∀ W, Calls Tryz.prog 25 #[.string S] W fun e w' => e = .returned (.tuple #[q.val, .bool ok]) ∧ Below W.heap.size W w') ∧ q.body.size ≤ 1000 ∧ (byteAt r 1 = 0 → honB q = true) := by
            by_cases hs : sumI (S.extract 0 20) = 65535
            · refine ⟨parP S, true, fun W => parsed_yes S W (by omega) (by omega) (by rw [y2, ys]) y0 y1 hs, ?_, fun hp => by rw [yeq hfk.b0 hp]; exact hon⟩
              show (S.extract 20 S.size).size ≤ 1000
              rw [ByteArray.size_extract]
              omega
            · exact ⟨⟨0, 0, 0, 0, 0, 0, 0, ⟨#[]⟩⟩, false, fun W => parsed_no S W (by omega) (by omega) (by rw [y2, ys]) y0 y1 hs, by show (⟨#[]⟩ : ByteArray).size ≤ 1000; decide, fun hp => absurd (by rw [yeq hfk.b0 hp]; exact hfk.sum) hs⟩
          have HHN : Hid (∀ W, Calls Tryz.prog 26 #[q.val] W fun e w' => e = .returned (.bool (honB q)) ∧ Below W.heap.size W w') := fun W => honest_any q W hqb
          rw [hSS] at hpa
          have HPA : Hid _ := hpa
          have HPL : Hid (byteAt r 1 = 0 → honB q = true) := hpl
          have hzr : 1 < r.size := by omega
          have HB1' : Hid (byteAt r 1 = ((r[1]'hzr).toNat : Int)) := byteAt_nat r 1 hzr
          have z2i : (2 : Int) ≤ (r.size : Int) := by omega
          have zov : ¬ 9223372036854775807 < 2 + (r.size - 2) := by omega
          obtain ⟨i1, i2, i3, i4, i5, i6, i7, B⟩ := q
          rw [val_mk] at HPA HHN
          generalize honB ⟨i1, i2, i3, i4, i5, i6, i7, B⟩ = hb' at HHN HPL
          clear hpa hpl hqb hfk hon ys y2 y0 y1 yeq hSS e0 z0 z1 h1 hb
          go_upto_region 13 with fail
          go_cut [15] (fun s15 wx => ∃ kq, s15 = .pointer (some ⟨kq, 0, none⟩) ∧ wx.heap[kq]? = some (.cells #[.int .i64 i1, .int .i64 i2, .int .i64 i3, .int .i64 i4, .int .i64 i5, .int .i64 i6, .int .i64 i7, .string B] 37 (0, 0)) ∧ Below wr.heap.size wr wx)
          case first =>
            go_wp2_with fail
            refine (HPA.out _).mono ?_
            rintro e w2 ⟨rfl, hb2⟩
            go_wp2_with fail
            go_meet
            exact ⟨w2.heap.size, rfl, heap_alloc_new _ _, hb2.alloc hb2.size _⟩
          case rest =>
          obtain ⟨kq, rfl, hq, hb2⟩ := hcut
          obtain ⟨⟨q0, q1, q2, q3, q4, q5, q6, q7⟩, qf⟩ := c8 hq
          have c1' := (hb2.cell (p := ⟨g, 0 * 2 + 1, none⟩) hg).trans c1
          have hg' : g < wc.heap.size := Nat.lt_of_lt_of_le hg hb2.size
          have HB2 : Hid (Below wb.heap.size wb wc) := HBL.out.trans (hb2.mono HBL.out.size)
          clear c0 c1 hq hb2 HPA
          go_wp2_with fail
          refine (HHN.out _).mono ?_
          rintro e w3 ⟨rfl, hb3⟩
          have c1 := (hb3.cell (p := ⟨g, 0 * 2 + 1, none⟩) hg').trans c1'
          have HB3 : Hid (Below wb.heap.size wb w3) := HB2.out.trans (hb3.mono HB2.out.size)
          clear c1' hb3 HB2 q0 q1 q2 q3 q4 q5 q6 q7 qf
          simp only [Nat.zero_mul, Nat.zero_add] at c1
          by_cases hp1 : byteAt r 1 = 0
          · have hbt := HPL.out hp1
            have hr1 : (((r[1]'hzr).toNat : Int) == 0) = true := by rw [← HB1'.out, hp1]; rfl
            clear hp1
            subst hbt
            go_wp2_with fail
            go_meet
            exact HB3.out
          · have hr1 : (((r[1]'hzr).toNat : Int) == 0) = false := by rw [← HB1'.out]; exact beq_false_of_ne hp1
            clear hp1
            go_wp2_with fail
            go_meet
            exact HB3.out
        · have h1' : ((len : Int) == 1) = false := beq_false_of_ne (by omega)
          clear h1
          go_wp2_with fail
          go_meet
          exact HBL.out
      case rest =>
      have hb4 := hcut
      have hdc4 := (hb4.cell (p := ⟨db, 0, none⟩) hdl).trans ((hb.cell (p := ⟨db, 0, none⟩) hdl).symm.trans hdc2)
      have hbx4 := HB1.out.call hb4
      have hch4 := HCH.out.below hb4
      have hk4 := blk hb4 HDK.out
      clear hcut hdc2 hdl2 hb HBL HFR HPR
      have HX4 : Hid (BoxAt wc b v1 s1 ∧ Chg b v w0' wc v1) := ⟨hbx4, hch4⟩
      have HAT : Hid (∀ W, Calls Tryz.prog 37 #[.string raw, .int .i64 12, .int .i64 4] W fun e w' => e = .returned (.int .i64 (atN raw 12 4)) ∧ w' = W) := fun W => at_big raw 12 4 W (by decide) (by decide) (by decide)
      generalize atN raw 12 4 = sr at HAT
      have hdl4 := lt_of_block hk4
      have HK4 : Hid (wc.heap[db]? = some (.cells #[.pointer (some ⟨b, 0, none⟩)] 32 (0, 0))) := hk4
      clear hbx4 hch4 hk4 hb4 HB1 HCH HDK
      by_cases hv : 0 ≤ ticks ∧ ticks ≤ 1048576
      · obtain ⟨t0, t1⟩ := hv
        have hS2 := HS1.out.tick ticks t0 t1 hT
        have HTK : Hid (Calls Tryz.prog 33 #[.pointer (some ⟨b, 0, none⟩), .int .i64 ticks] wc fun e w' => e = .returned (.int .i64 0) ∧ ∃ v', BoxAt w' b v' (tickS s1 ticks) ∧ Chg b v1 wc w' v') := Tick_good HX4.out.1 HS1.out.good ticks t0 t1
        generalize tickS s1 ticks = s2 at hS2 HTK
        have HS2 : Hid (St s2 (n + 1) (T + 1048576)) := hS2
        have qa : heldAll s2.wl ≤ 700 := by have := hS2.good.qa; rw [hS2.bx.gl] at this; exact this
        have qs : heldOf s2.wl sr ≤ 400 := by have := hS2.good.qs sr; rw [hS2.bx.ps] at this; exact this
        clear hS2
        go_wp2_with fail
        refine HTK.out.mono ?_
        rintro e w5 ⟨rfl, v5, hbx, hch⟩
        have hk5 := (hch.keep HK4.out HDV.out.1 HDV4.out).1
        have hdc5 : w5.cell? ⟨db, 0, none⟩ = some (.pointer (some ⟨b, 0, none⟩)) := by simp [World.cell?, hk5]
        have hdl5 := lt_of_block hk5
        have HX5 : Hid (BoxAt w5 b v5 s2 ∧ Chg b v w0' w5 v5) := ⟨hbx, HX4.out.2.trans hch⟩
        have HHE : Hid (Calls Tryz.prog 32 #[.pointer (some ⟨b, 0, none⟩), .int .i64 sr] w5 fun e w' => e = .returned (.tuple #[.int .i64 (heldAll s2.wl), .int .i64 (heldOf s2.wl sr)]) ∧ Below w5.heap.size w5 w') := BHeld_any hbx HS2.out.good sr
        clear hbx hch hk5 HK4 HX4 hdc4 hdl4 HTK
        go_wp2_with fail
        refine (HAT.out _).mono ?_
        rintro e w6 ⟨rfl, hw6⟩
        subst hw6
        go_wp2_with fail
        refine HHE.out.mono ?_
        rintro e w7 ⟨rfl, hb7⟩
        go_wp2_with fail
        go_ret
        exact ⟨by simp [*], v5, s2, HX5.out.1.call hb7, HX5.out.2.below hb7, HS2.out⟩
      · have hS2 : St s1 (n + 1) (T + 1048576) := ⟨HS1.out.good, HS1.out.bx, HS1.out.hd, HS1.out.cs, by have := HS1.out.tm; omega, HS1.out.n0⟩
        have HS2 : Hid (St s1 (n + 1) (T + 1048576)) := hS2
        have HTK : Hid (Calls Tryz.prog 33 #[.pointer (some ⟨b, 0, none⟩), .int .i64 ticks] wc fun e w' => e = .returned (.int .i64 1) ∧ w' = wc) := Tick_no b ticks wc (by omega)
        have qa : heldAll s1.wl ≤ 700 := by have := hS2.good.qa; rw [hS2.bx.gl] at this; exact this
        have qs : heldOf s1.wl sr ≤ 400 := by have := hS2.good.qs sr; rw [hS2.bx.ps] at this; exact this
        have HHE : Hid (Calls Tryz.prog 32 #[.pointer (some ⟨b, 0, none⟩), .int .i64 sr] wc fun e w' => e = .returned (.tuple #[.int .i64 (heldAll s1.wl), .int .i64 (heldOf s1.wl sr)]) ∧ Below wc.heap.size wc w') := BHeld_any HX4.out.1 hS2.good sr
        clear hS2
        have hvv : ticks < 0 ∨ ¬ ticks < 0 ∧ 1048576 < ticks := by omega
        clear hv HK4
        rcases hvv with tn | ⟨tn, tb⟩
        · have tn' : ¬ 0 ≤ ticks := by omega
          go_wp2_with fail
          refine HTK.out.mono ?_
          rintro e w5 ⟨rfl, hw5⟩
          subst hw5
          go_wp2_with fail
          refine (HAT.out _).mono ?_
          rintro e w6 ⟨rfl, hw6⟩
          subst hw6
          go_wp2_with fail
          refine HHE.out.mono ?_
          rintro e w7 ⟨rfl, hb7⟩
          go_wp2_with fail
          go_ret
          exact ⟨by simp [*], v1, s1, HX4.out.1.call hb7, HX4.out.2.below hb7, HS2.out⟩
        · have tn' : 0 ≤ ticks := by omega
          have tb' : ¬ ticks ≤ 1048576 := by omega
          go_wp2_with fail
          refine HTK.out.mono ?_
          rintro e w5 ⟨rfl, hw5⟩
          subst hw5
          go_wp2_with fail
          refine (HAT.out _).mono ?_
          rintro e w6 ⟨rfl, hw6⟩
          subst hw6
          go_wp2_with fail
          refine HHE.out.mono ?_
          rintro e w7 ⟨rfl, hb7⟩
          go_wp2_with fail
          go_ret
          exact ⟨by simp [*], v1, s1, HX4.out.1.call hb7, HX4.out.2.below hb7, HS2.out⟩
end Go.Proofs.YtfkjobiapjhacabGreat
