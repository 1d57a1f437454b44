/- Own work. -/
import Derived.Test.YtfkjobiapjhacabGreatKpP
import Derived.Test.YtfkjobiapjhacabGreatGwL
/- Contracts of package gatewaykeep: a packet that comes in. Own work. -/
namespace Go.Proofs.YtfkjobiapjhacabGreat
open Go.RowKit
attribute [local go_sem ↓] Go.wp_at_zero Go.wp_at_succ

theorem cell_set_ne {w : World} {k j b o : Nat} {u : Value} (h : b ≠ k) : (w.setCell ⟨k, j, none⟩ u).cell? ⟨b, o, none⟩ = w.cell? ⟨b, o, none⟩ := World.cell?_of_block (Below.heap_setCell _ _ _ _ h)
/-- A packet as the law's own are. -/
structure PKOK (p : PK) : Prop where
  sz : p.body.size ≤ 1000
  f0 : 0 ≤ p.fl
  f1 : p.fl ≤ 7
  o0 : 0 ≤ p.off
  o1 : p.off ≤ 65535
set_option maxRecDepth 100000 in
set_option maxHeartbeats 1000000 in
theorem none_yes {w : World} {b : Nat} {v : Value} {s s' : BX} (h : BoxAt w b v s) (side what : Int) (p : PK) (hp : PKOK p) (hR : RecvAt b s side (rawP p) what none s') :
    Calls Tryz.prog 28 #[.pointer (some ⟨b, 0, none⟩), .int .i64 side, .agg #[.int .i64 p.id, .int .i64 p.fl, .int .i64 p.off, .int .i64 p.ttl, .int .i64 p.pr, .int .i64 p.src, .int .i64 p.dst, .string p.body], .int .i64 what] w fun e w' => e = .returned (.bool true) ∧ ∃ v', BoxAt w' b v' s' ∧ Chg b v w w' v' := by
  have hM1 : GMid w (w.alloc (.cells #[.int .i64 p.id, .int .i64 p.fl, .int .i64 p.off, .int .i64 p.ttl, .int .i64 p.pr, .int .i64 p.src, .int .i64 p.dst, .string p.body] 37)) b v v s [(w.heap.size, #[.int .i64 p.id, .int .i64 p.fl, .int .i64 p.off, .int .i64 p.ttl, .int .i64 p.pr, .int .i64 p.src, .int .i64 p.dst, .string p.body], 37)] := (GMid.start h).alloc' _ _ _ rfl
  have HRA : Hid (∀ w, Calls Tryz.prog 20 #[.agg #[.int .i64 p.id, .int .i64 p.fl, .int .i64 p.off, .int .i64 p.ttl, .int .i64 p.pr, .int .i64 p.src, .int .i64 p.dst, .string p.body]] w fun e w' => e = .returned (.string (rawP p)) ∧ Below w.heap.size w w') := fun w => raw_any p w (by have := hp.sz; omega) hp.f0 hp.f1 hp.o0 hp.o1
  have HR : Hid (RecvAt b s side (rawP p) what none s') := hR
  generalize rawP p = R at HRA HR
  obtain ⟨⟨p0, p1, p2, p3, p4, p5, p6, p7⟩, pf⟩ := c8 hM1.at0
  have hM : Hid _ := hM1
  clear hM1 hR h
  go_enter Tryz.func28, Tryz.ntmps28
  go_wp2_with (first
    | (go_at_call 20; refine (HRA.out _).mono ?_; rintro e w1 ⟨rfl, hb1⟩; have hM1 := hM.out.call hb1; clear hM hb1 p0 p1 p2 p3 p4 p5 p6 p7 pf; have hM : Hid _ := hM1; clear hM1)
    | (go_at_call 21; refine (HR.out _ _ hM.out.box).mono ?_; rintro e w2 ⟨fv, rfl, hfr, v', hbx, hch⟩; obtain ⟨fo, fc, rfl⟩ := hfr.none; clear hfr; have hM1 := hM.out.change hbx hch; clear hM hbx hch; have hM : Hid _ := hM1; clear hM1))
  go_ret
  exact ⟨rfl, v', hM.out.box, hM.out.chg⟩
set_option maxRecDepth 100000 in
set_option maxHeartbeats 1000000 in
theorem one_yes {w : World} {b : Nat} {v : Value} {s s' : BX} (h : BoxAt w b v s) (side to' : Int) (p : PK) (hp : PKOK p) (r : ByteArray) (hR : RecvAt b s side (rawP p) 0 (some (to', r)) s')
    (h21 : 21 ≤ r.size) (hs : r.size ≤ 1000) (h2 : wordAt r 2 = r.size) (h0 : byteAt r 0 = 69) (h1 : byteAt r 1 = 0) (hsum : sumI (r.extract 0 20) = 65535) (hh : honB (parP r) = true)
    (hid : (parP r).id = p.id) (hfl : (parP r).fl = p.fl) (hof : (parP r).off = p.off) (hpr : (parP r).pr = p.pr) (htt : (parP r).ttl = p.ttl - 1) (hlo : -1000 ≤ p.ttl) (hhi : p.ttl ≤ 1000) :
    Calls Tryz.prog 24 #[.pointer (some ⟨b, 0, none⟩), .int .i64 side, .agg #[.int .i64 p.id, .int .i64 p.fl, .int .i64 p.off, .int .i64 p.ttl, .int .i64 p.pr, .int .i64 p.src, .int .i64 p.dst, .string p.body], .int .i64 to'] w fun e w' => e = .returned (.tuple #[(parP r).val, .bool true]) ∧ ∃ v', BoxAt w' b v' s' ∧ Chg b v w w' v' := by
  have hM1 : GMid w ((w.alloc (.cells #[.int .i64 p.id, .int .i64 p.fl, .int .i64 p.off, .int .i64 p.ttl, .int .i64 p.pr, .int .i64 p.src, .int .i64 p.dst, .string p.body] 37)).alloc (.cells #[.int .i64 0, .int .i64 0, .int .i64 0, .int .i64 0, .int .i64 0, .int .i64 0, .int .i64 0, .string ⟨#[]⟩] 37)) b v v s [(w.heap.size + 1, #[.int .i64 0, .int .i64 0, .int .i64 0, .int .i64 0, .int .i64 0, .int .i64 0, .int .i64 0, .string ⟨#[]⟩], 37), (w.heap.size, #[.int .i64 p.id, .int .i64 p.fl, .int .i64 p.off, .int .i64 p.ttl, .int .i64 p.pr, .int .i64 p.src, .int .i64 p.dst, .string p.body], 37)] := ((GMid.start h).alloc' _ _ _ rfl).alloc' _ _ _ (by simp)
  have HRA : Hid (∀ w, Calls Tryz.prog 20 #[.agg #[.int .i64 p.id, .int .i64 p.fl, .int .i64 p.off, .int .i64 p.ttl, .int .i64 p.pr, .int .i64 p.src, .int .i64 p.dst, .string p.body]] w fun e w' => e = .returned (.string (rawP p)) ∧ Below w.heap.size w w') := fun w => raw_any p w (by have := hp.sz; omega) hp.f0 hp.f1 hp.o0 hp.o1
  have HR : Hid (RecvAt b s side (rawP p) 0 (some (to', r)) s') := hR
  have HPS : Hid (∀ w, Calls Tryz.prog 25 #[.string r] w fun e w' => e = .returned (.tuple #[(parP r).val, .bool true]) ∧ Below w.heap.size w w') := fun w => parsed_yes r w h21 hs h2 h0 h1 hsum
  have hbz : (parP r).body.size ≤ 1000 := by show (r.extract 20 r.size).size ≤ 1000; rw [ByteArray.size_extract]; omega
  have HHO : Hid (∀ w, Calls Tryz.prog 26 #[(parP r).val] w fun e w' => e = .returned (.bool true) ∧ Below w.heap.size w w') := fun w => by rw [← hh]; exact honest_any (parP r) w hbz
  clear h2 h0 h1 hsum hs h21 hh hbz
  generalize parP r = q at HPS HHO hid hfl hof hpr htt ⊢
  generalize rawP p = R at HRA HR
  have HQ : q.val = .agg #[.int .i64 q.id, .int .i64 q.fl, .int .i64 q.off, .int .i64 q.ttl, .int .i64 q.pr, .int .i64 q.src, .int .i64 q.dst, .string q.body] := rfl
  rw [HQ] at HPS HHO ⊢
  clear HQ
  have b0 : (q.id == p.id) = true := by simp [hid]
  have b1 : (q.fl == p.fl) = true := by simp [hfl]
  have b2 : (q.off == p.off) = true := by simp [hof]
  have b3 : (q.pr == p.pr) = true := by simp [hpr]
  have b4 : (q.ttl == p.ttl - 1) = true := by simp [htt]
  have b5 : IntKind.i64.wrap (p.ttl - 1) = p.ttl - 1 := g_wrap _ (by omega) (by omega)
  clear hid hfl hof hpr htt
  obtain ⟨⟨r0, r1, r2, r3, r4, r5, r6, r7⟩, rf⟩ := c8 hM1.at0; obtain ⟨⟨p0, p1, p2, p3, p4, p5, p6, p7⟩, pf⟩ := c8 hM1.at1
  have hM : Hid _ := hM1
  clear hM1 hR h
  go_enter Tryz.func24, Tryz.ntmps24
  go_wp2_with (go_at_call 20; refine (HRA.out _).mono ?_; rintro e w1 ⟨rfl, hb1⟩; have hM1 := hM.out.call hb1; clear hM hb1; clear r0 r1 r2 r3 r4 r5 r6 r7 rf p0 p1 p2 p3 p4 p5 p6 p7 pf; obtain ⟨⟨r0, r1, r2, r3, r4, r5, r6, r7⟩, rf⟩ := c8 hM1.at0; obtain ⟨⟨p0, p1, p2, p3, p4, p5, p6, p7⟩, pf⟩ := c8 hM1.at1; have hM : Hid _ := hM1; clear hM1)
  refine (HR.out _ _ hM.out.box).mono ?_
  rintro e w2 ⟨fv, rfl, hfr, v', hbx, hch⟩
  obtain ⟨g, fc, rfl, hg, g0, g1⟩ := hfr.one
  have hM1 := hM.out.change hbx hch
  clear hM hbx hch
  clear r0 r1 r2 r3 r4 r5 r6 r7 rf p0 p1 p2 p3 p4 p5 p6 p7 pf
  obtain ⟨⟨r0, r1, r2, r3, r4, r5, r6, r7⟩, rf⟩ := c8 hM1.at0; obtain ⟨⟨p0, p1, p2, p3, p4, p5, p6, p7⟩, pf⟩ := c8 hM1.at1
  have hM : Hid _ := hM1
  clear hM1
  clear hfr
  go_wp2_with fail
  refine (HPS.out _).mono ?_
  rintro e w3 ⟨rfl, hb3⟩
  have hM3 := hM.out.call hb3
  clear hM hb3 g0 g1 hg
  clear r0 r1 r2 r3 r4 r5 r6 r7 rf p0 p1 p2 p3 p4 p5 p6 p7 pf
  go_wp2_with fail
  refine (HHO.out _).mono ?_
  rintro e w4 ⟨rfl, hb4⟩
  have hM1 := (hM3.alloc' #[.int .i64 q.id, .int .i64 q.fl, .int .i64 q.off, .int .i64 q.ttl, .int .i64 q.pr, .int .i64 q.src, .int .i64 q.dst, .string q.body] 37 w3.heap.size rfl).call hb4
  have hK1 := lt_of_block hM3.at0
  have hK2 : w3.heap.size ≠ w.heap.size + 1 := by omega
  have hK4 : w.heap.size ≠ w.heap.size + 1 := by omega
  clear hM3 hb4
  obtain ⟨⟨q0, q1, q2, q3, q4, q5, q6, q7⟩, qf⟩ := c8 hM1.at0; obtain ⟨⟨r0, r1, r2, r3, r4, r5, r6, r7⟩, rf⟩ := c8 hM1.at1; obtain ⟨⟨p0, p1, p2, p3, p4, p5, p6, p7⟩, pf⟩ := c8 hM1.at2
  have hM : Hid _ := hM1
  clear hM1
  go_wp2_with fail
  go_region_held3 (fun w' => w'.cell? ⟨w3.heap.size, 0, none⟩ = some (.int .i64 q.id) ∧ w'.cell? ⟨w3.heap.size, 1, none⟩ = some (.int .i64 q.fl) ∧ w'.cell? ⟨w3.heap.size, 2, none⟩ = some (.int .i64 q.off) ∧ w'.cell? ⟨w3.heap.size, 3, none⟩ = some (.int .i64 q.ttl) ∧ w'.cell? ⟨w3.heap.size, 4, none⟩ = some (.int .i64 q.pr) ∧ w'.cell? ⟨w3.heap.size, 5, none⟩ = some (.int .i64 q.src) ∧ w'.cell? ⟨w3.heap.size, 6, none⟩ = some (.int .i64 q.dst) ∧ w'.cell? ⟨w3.heap.size, 7, none⟩ = some (.string q.body) ∧ w'.cell? ⟨w.heap.size, 3, none⟩ = some (.int .i64 p.ttl)) (first | (simp [*]; done) | (simp [cell_set_ne hK2, cell_set_ne hK4, q0, q1, q2, q3, q4, q5, q6, q7, p3]; done)) (fail)
  all_goals go_wp2_with fail
  refine bodyPost_ret (v := .tuple #[.agg #[.int .i64 q.id, .int .i64 q.fl, .int .i64 q.off, .int .i64 q.ttl, .int .i64 q.pr, .int .i64 q.src, .int .i64 q.dst, .string q.body], .bool true]) (by simp [results, Tryz.results24, go_sem, r0, r1, r2, r3, r4, r5, r6, r7]) rfl ⟨rfl, v', ?_⟩
  have hE := ((((((((hM.out.set1 0 (.int .i64 q.id)).set1 1 (.int .i64 q.fl)).set1 2 (.int .i64 q.off)).set1 3 (.int .i64 q.ttl)).set1 4 (.int .i64 q.pr)).set1 5 (.int .i64 q.src)).set1 6 (.int .i64 q.dst)).set1 7 (.string q.body)).drew
  exact ⟨hE.box, hE.chg⟩
end Go.Proofs.YtfkjobiapjhacabGreat
/- Contracts of package gatewaykeep: a box; messages that come in. Own work. -/
namespace Go.Proofs.YtfkjobiapjhacabGreat
open Go.RowKit
attribute [local go_sem ↓] Go.wp_at_zero Go.wp_at_succ

/-- A fresh box of n outer ports. -/
def box0 (n : Int) : BX := ⟨3405803781, 167772160, 8, 5000, 4999 + n, 400, 700, 0, [0, 0, 0, 0, 0, 0, 0, 0, 0, 0, 0, 0, 0, 0, 0, 0, 0, 0], [], []⟩
theorem box0_ok (n : Int) (h0 : 1 ≤ n) (h1 : n ≤ 12) : OKB (box0 n) :=
  ⟨(by decide : (0 : Int) ≤ 167772160), (by decide : (167772160 : Int) ≤ 4294967296), (by decide : (0 : Int) ≤ 3405803781), (by decide : (3405803781 : Int) ≤ 4294967295), (by decide : (0 : Int) ≤ 5000), (by show (5000 : Int) ≤ 4999 + n; omega), (by show 4999 + n ≤ 100000; omega), (by decide : (0 : Int) ≤ 0), (by decide : (0 : Int) ≤ 1000000000000000), (by decide : 0 ≤ 100), fun x hx => absurd hx (by simp [box0])⟩
theorem box0_valid (n : Int) (h0 : 1 ≤ n) (h1 : n ≤ 12) : validB 3405803781 167772160 8 5000 (4999 + n) 400 700 = true := by
  have e1 : validNetB 3405803781 167772160 8 = true := by decide
  have e2 : validPortsB 5000 (4999 + n) = true := by unfold validPortsB; exact decide_eq_true (by omega)
  have e3 : validQuotaB 400 700 = true := by decide
  unfold validB
  rw [e1, e2, e3]
  rfl
set_option maxRecDepth 100000 in
set_option maxHeartbeats 1000000 in
theorem box_any (n : Int) (w : World) (h0 : 1 ≤ n) (h1 : n ≤ 12) :
    Calls Tryz.prog 13 #[.int .i64 n] w fun e w' => ∃ b, e = .returned (.pointer (some ⟨b, 0, none⟩)) ∧ BoxAt w' b (.slice none 0 0) (box0 n) ∧ w.heap.size ≤ b ∧ Below w.heap.size w w' := by
  have e1 : wrap64 (5000 + n) = 5000 + n := g_wrap64 _ (by omega) (by omega)
  have e2 : wrap64 (5000 + n - 1) = 5000 + n - 1 := g_wrap64 _ (by omega) (by omega)
  have e3 : 4999 + n = 5000 + n - 1 := by omega
  have HN : Hid (∀ w, Calls Tryz.prog 34 #[.agg #[.int .i64 3405803781, .int .i64 167772160, .int .i64 8, .int .i64 5000, .int .i64 (5000 + n - 1), .int .i64 400, .int .i64 700]] w fun e w' => ∃ b, e = .returned (.tuple #[.pointer (some ⟨b, 0, none⟩), .int .i64 0]) ∧ BoxAt w' b (.slice none 0 0) (box0 n) ∧ w.heap.size ≤ b ∧ Below w.heap.size w w') := fun w => by
    rw [← e3]
    refine (New_ok 3405803781 167772160 8 5000 (4999 + n) 400 700 w (box0_valid n h0 h1)).mono ?_
    rintro e w' ⟨b, rfl, hlt, hlt2, hbk, hb⟩
    exact ⟨b, rfl, ⟨⟨_, hbk, WaitAt.nil _⟩, ⟨by simp [scells, box0], Or.inl ⟨rfl, rfl⟩⟩, by simp [Value.ownBlock], rfl⟩, by omega, hb⟩
  clear e3
  go_enter Tryz.func13, Tryz.ntmps13
  go_wp2_with fail
  refine (HN.out _).mono ?_
  rintro e w1 ⟨b, rfl, hbx, hle, hb⟩
  go_wp2
  go_ret
  exact ⟨b, rfl, hbx, hle, hb⟩

/-- What one(..) finds right. -/
structure OneOK (b : Nat) (s : BX) (side : Int) (p : PK) (to' : Int) (q : PK) (s' : BX) : Prop where
  run : ∀ w v, BoxAt w b v s → Calls Tryz.prog 24 #[.pointer (some ⟨b, 0, none⟩), .int .i64 side, p.val, .int .i64 to'] w fun e w' => e = .returned (.tuple #[q.val, .bool true]) ∧ ∃ v', BoxAt w' b v' s' ∧ Chg b v w w' v'
def NoneOK (b : Nat) (s : BX) (side : Int) (p : PK) (what : Int) (s' : BX) : Prop :=
  ∀ w v, BoxAt w b v s → Calls Tryz.prog 28 #[.pointer (some ⟨b, 0, none⟩), .int .i64 side, p.val, .int .i64 what] w fun e w' => e = .returned (.bool true) ∧ ∃ v', BoxAt w' b v' s' ∧ Chg b v w w' v'
end Go.Proofs.YtfkjobiapjhacabGreat
/- What a box does with UDP messages, purely. Own work. -/
namespace Go.Proofs.YtfkjobiapjhacabGreat
open Go.RowKit

theorem bl_rawU (src fr dst to' ttl : Int) (data : ByteArray) (i : Int) : bl (rawP ⟨i, 0, 0, ttl, 17, src, dst, udpB src fr dst to' data⟩) = HDS (28 + (data.size : Int)) i 0 ttl 17 src dst ++ UMS src fr dst to' (bl data) := by
  have e0 : flagW 0 0 = 0 := by decide
  have hz : (udpB src fr dst to' data).size = 8 + data.size := by rw [← bl_length, bl_udpB]; unfold UMS; rw [UM_length, bl_length]
  rw [bl_rawP]
  simp only [e0, hz, bl_udpB]
  have e1 : (20 : Int) + ((8 + data.size : Nat) : Int) = 28 + (data.size : Int) := by omega
  rw [e1]
/-- A packet of UDP that is in form. -/
structure URange (src fr dst to' : Int) (data : ByteArray) : Prop where
  s0 : 0 ≤ src
  s1 : src ≤ 4294967295
  d0 : 0 ≤ dst
  d1 : dst ≤ 4294967295
  f0 : 1 ≤ fr
  f1 : fr ≤ 65535
  t0 : 1 ≤ to'
  t1 : to' ≤ 65535
  sz : data.size ≤ 120
def uW (s : BX) (side src fr dst to' : Int) (data : ByteArray) : WYD := if side = 0 then insW s 17 (udpB src fr dst to' data) src fr dst to' else outsW s 17 (udpB src fr dst to' data) src fr to'
def uL (s : BX) (side src fr dst to' : Int) (data : ByteArray) : List SD := if side = 0 then insF s 17 (udpB src fr dst to' data) src fr dst to' else outsL s 17 (udpB src fr dst to' data) src fr to'
theorem UMS_length (src fr dst to' : Int) (d : List UInt8) : (UMS src fr dst to' d).length = 8 + d.length := by unfold UMS; rw [UM_length]
theorem noerr17 (m : ByteArray) : errB 17 m = false := rfl
theorem udp_np (src fr dst to' : Int) (data : ByteArray) : pieceB ((rawP (udpP src fr dst to' data)).extract 0 20) = false :=
  whole_piece (show bl (rawP (udpP src fr dst to' data)) = HDS (28 + (data.size : Int)) 7 0 9 17 src dst ++ UMS src fr dst to' (bl data) from bl_rawU src fr dst to' 9 data 7) rfl
theorem udp_hand (s : BX) (side src fr dst to' : Int) (data : ByteArray) (hr : URange src fr dst to' data) (hside : side = 0 ∨ side = 1) (hmay : mayB s side src dst = true) :
    handM s side (rawP (udpP src fr dst to' data)) = wayH (rawP (udpP src fr dst to' data)) (uW s side src fr dst to' data) (uL s side src fr dst to' data) := by
  obtain ⟨s0, s1, d0, d1, f0, f1, t0, t1, sz⟩ := hr
  have hbl : bl (rawP (udpP src fr dst to' data)) = HDS (28 + (data.size : Int)) 7 0 9 17 src dst ++ UMS src fr dst to' (bl data) := bl_rawU src fr dst to' 9 data 7
  have hlen : (UMS src fr dst to' (bl data)).length = 8 + data.size := by rw [UMS_length, bl_length]
  have hft : rFault (rawP (udpP src fr dst to' data)) = 0 := whole_fault hbl (by rw [hlen]; omega) (by rw [hlen]; omega) (by rw [hlen]; omega) rfl (by decide) (by decide)
  have hpc : pieceB ((rawP (udpP src fr dst to' data)).extract 0 20) = false := whole_piece hbl rfl
  obtain ⟨-, -, -, -, -, -, h9, -, h12, h16⟩ := HD_word _ _ _ _ _ _ _ _ _ _ hbl
  have e9 : byteAt (rawP (udpP src fr dst to' data)) 9 = 17 := h9
  have e12 : addrAt (rawP (udpP src fr dst to' data)) 12 = src := h12.trans (by omega)
  have e16 : addrAt (rawP (udpP src fr dst to' data)) 16 = dst := h16.trans (by omega)
  have eb : (rawP (udpP src fr dst to' data)).extract 20 (rawP (udpP src fr dst to' data)).size = udpB src fr dst to' data := bl_inj (by rw [whole_body hbl, bl_udpB])
  have hbB := bl_udpB src fr dst to' data
  obtain ⟨w0, w2, -, -⟩ := UM_words hbB
  have ew0 : wordAt (udpB src fr dst to' data) 0 = fr := w0.trans (by omega)
  have ew2 : wordAt (udpB src fr dst to' data) 2 = to' := w2.trans (by omega)
  have hdf := udp_fault (d := bl data) (by rw [bl_length]; omega) hbB s0 s1 d0 d1 f0 f1 t0 t1
  rw [ew0, ew2] at hdf
  have hpo : portsOf 17 (udpB src fr dst to' data) = (fr, to') := by
    unfold portsOf
    rw [if_pos (by decide), ew0, ew2]
  unfold handM
  rw [if_neg (by omega), if_neg (by simp [hft]), e12, e16, if_neg (by simp [hmay]), e9, if_neg (by decide), if_neg (by simp [hpc])]
  unfold wholeW wholeL
  rw [e9, e12, e16, eb, hpo]
  simp only
  unfold routeW routeL uW uL
  have e1 : ¬ ¬ dFault 17 src fr dst to' (udpB src fr dst to' data) = 0 := by simp [hdf]
  have e2 : ¬ ((17 : Int) = 1 ∧ ¬ eFault s.ou side 17 dst (udpB src fr dst to' data) = 0) := fun h => absurd h.1 (by decide)
  have e3 : ¬ errB 17 (udpB src fr dst to' data) = true := by rw [noerr17]; decide
  rw [if_neg e1, if_neg e1, if_neg e3, if_neg e3, if_neg e2, if_neg e2]
theorem udp_noerr (src fr dst to' : Int) (data : ByteArray) : errB (byteAt (rawP (udpP src fr dst to' data)) 9) ((rawP (udpP src fr dst to' data)).extract 20 (rawP (udpP src fr dst to' data)).size) = false := by
  have hbl : bl (rawP (udpP src fr dst to' data)) = HDS (28 + (data.size : Int)) 7 0 9 17 src dst ++ UMS src fr dst to' (bl data) := bl_rawU src fr dst to' 9 data 7
  obtain ⟨-, -, -, -, -, -, h9, -, -, -⟩ := HD_word _ _ _ _ _ _ _ _ _ _ hbl
  have e9 : byteAt (rawP (udpP src fr dst to' data)) 9 = 17 := h9
  rw [e9]
  exact noerr17 _
theorem udp_onward (src fr dst to' xa xp ya yp : Int) (data : ByteArray) (hr : URange src fr dst to' data) (hx0 : 0 ≤ xa) (hx1 : xa ≤ 4294967295) (hy0 : 0 ≤ ya) (hy1 : ya ≤ 4294967295) :
    onHead ((rawP (udpP src fr dst to' data)).extract 0 20) xa ya ++ btwM 17 (udpB src fr dst to' data) xa xp ya yp = rawP ⟨7, 0, 0, 8, 17, xa, ya, udpB xa xp ya yp data⟩ := by
  apply bl_inj
  have hbl : bl (rawP (udpP src fr dst to' data)) = HDS (28 + (data.size : Int)) 7 0 9 17 src dst ++ UMS src fr dst to' (bl data) := bl_rawU src fr dst to' 9 data 7
  have hck := ckU_bd (US src fr dst to' (bl data))
  rw [bl_app, bl_rawU, bl_onHead _ _ _ _ _ _ _ _ _ _ _ (whole_head hbl), bl_btwU (d := bl data) (by rw [bl_length]; have := hr.sz; omega) (bl_udpB src fr dst to' data) hck.1 hck.2 xa xp ya yp hx0 hx1 hy0 hy1]
  have e8 : (9 : Int) - 1 = 8 := by decide
  rw [e8]
theorem udpP_ok (src fr dst to' : Int) (data : ByteArray) (hr : URange src fr dst to' data) : PKOK (udpP src fr dst to' data) := by
  have hz : (udpB src fr dst to' data).size ≤ 1000 := by
    rw [← bl_length, bl_udpB, UMS_length, bl_length]
    have := hr.sz
    omega
  unfold udpP
  generalize udpB src fr dst to' data = B at hz
  exact ⟨hz, (by decide : (0 : Int) ≤ 0), (by decide : (0 : Int) ≤ 7), (by decide : (0 : Int) ≤ 0), (by decide : (0 : Int) ≤ 65535)⟩
/-- A packet of UDP that is let through comes out as it should. -/
theorem udp_one (b : Nat) (s : BX) (hk : OKB s) (side src fr dst to' : Int) (data : ByteArray) (hr : URange src fr dst to' data) (hside : side = 0 ∨ side = 1) (hmay : mayB s side src dst = true) (out xa xp ya yp : Int) (l' : List SD)
    (hW : uW s side src fr dst to' data = ⟨0, out, 17, xa, xp, ya, yp, btwM 17 (udpB src fr dst to' data) xa xp ya yp⟩) (hL : uL s side src fr dst to' data = l') (hx0 : 0 ≤ xa) (hx1 : xa ≤ 4294967295) (hy0 : 0 ≤ ya) (hy1 : ya ≤ 4294967295) :
    OneOK b s side (udpP src fr dst to' data) out ⟨7, 0, 0, 8, 17, xa, ya, udpB xa xp ya yp data⟩ { s with l := l', cs := bump s.cs 0 } := by
  have hH := udp_hand s side src fr dst to' data hr hside hmay
  rw [hW, hL] at hH
  unfold wayH at hH
  simp only [if_pos] at hH
  rw [udp_onward src fr dst to' xa xp ya yp data hr hx0 hx1 hy0 hy1] at hH
  have hbl := bl_rawU xa xp ya yp 8 data 7
  have hlen : (UMS xa xp ya yp (bl data)).length = 8 + data.size := by rw [UMS_length, bl_length]
  have hsz := hr.sz
  have hz := whole_size hbl
  rw [hlen] at hz
  have hR : RecvAt b s side (rawP (udpP src fr dst to' data)) 0 (some (out, rawP ⟨7, 0, 0, 8, 17, xa, ya, udpB xa xp ya yp data⟩)) { s with l := l', cs := bump s.cs 0 } := fun W v hbx => by
    have h := Receive_any hbx hk side (rawP (udpP src fr dst to' data)) (Or.inl (udp_noerr src fr dst to' data)) (udp_np src fr dst to' data)
    rw [hH] at h
    exact h
  obtain ⟨h0, h1, h2, -, -, -, -, -, -, -⟩ := HD_word _ _ _ _ _ _ _ _ _ _ hbl
  have hpar : parP (rawP ⟨7, 0, 0, 8, 17, xa, ya, udpB xa xp ya yp data⟩) = ⟨7, 0, 0, 8, 17, xa, ya, udpB xa xp ya yp data⟩ := by
    rw [whole_par hbl (bl_udpB xa xp ya yp data)]
    have e1 : xa % 4294967296 = xa := by omega
    have e2 : ya % 4294967296 = ya := by omega
    rw [e1, e2]
    have q1 : (7 : Int) % 65536 = 7 := by decide
    have q2 : (0 : Int) % 65536 / 8192 = 0 := by decide
    have q3 : (0 : Int) % 65536 % 8192 * 8 = 0 := by decide
    have q4 : (8 : Int) % 256 = 8 := by decide
    have q5 : (17 : Int) % 256 = 17 := by decide
    rw [q1, q2, q3, q4, q5]
  have hon : honB ⟨7, 0, 0, 8, 17, xa, ya, udpB xa xp ya yp data⟩ = true := by
    have hB := bl_udpB xa xp ya yp data
    generalize udpB xa xp ya yp data = B at hB
    exact udp_hon hB _ rfl rfl rfl rfl
  have hp1 : (udpP src fr dst to' data).id = 7 ∧ (udpP src fr dst to' data).fl = 0 ∧ (udpP src fr dst to' data).off = 0 ∧ (udpP src fr dst to' data).pr = 17 ∧ (udpP src fr dst to' data).ttl = 9 := by
    unfold udpP
    generalize udpB src fr dst to' data = B
    exact ⟨rfl, rfl, rfl, rfl, rfl⟩
  have hp2 := udpP_ok src fr dst to' data hr
  obtain ⟨q1, q2, q3, q4, q5⟩ := hp1
  generalize udpP src fr dst to' data = P at hR hp2 q1 q2 q3 q4 q5 ⊢
  generalize udpB xa xp ya yp data = B at hR hpar hon hz h0 h1 h2 hbl ⊢
  refine ⟨fun w v hbx => ?_⟩
  have h := one_yes hbx side out P hp2 (rawP ⟨7, 0, 0, 8, 17, xa, ya, B⟩) hR (by omega) (by omega) (h2.trans (by rw [hz]; omega)) h0 h1 (whole_sum hbl)
    (by rw [hpar]; exact hon) (by rw [hpar, q1]) (by rw [hpar, q2]) (by rw [hpar, q3]) (by rw [hpar, q4]) (by rw [hpar, q5]; rfl) (by rw [q5]; decide) (by rw [q5]; decide)
  rw [hpar] at h
  exact h
theorem udp_none (b : Nat) (s : BX) (hk : OKB s) (side src fr dst to' : Int) (data : ByteArray) (hr : URange src fr dst to' data) (hside : side = 0 ∨ side = 1) (hmay : mayB s side src dst = true) (what : Int) (l' : List SD)
    (hW : (uW s side src fr dst to' data).what = what) (hne : ¬ what = 0) (hL : uL s side src fr dst to' data = l') :
    NoneOK b s side (udpP src fr dst to' data) what { s with l := l', cs := bump s.cs what.toNat } := by
  have hH := udp_hand s side src fr dst to' data hr hside hmay
  unfold wayH at hH
  rw [hW, hL, if_neg hne] at hH
  have hR : RecvAt b s side (rawP (udpP src fr dst to' data)) what none { s with l := l', cs := bump s.cs what.toNat } := fun W v hbx => by
    have h := Receive_any hbx hk side (rawP (udpP src fr dst to' data)) (Or.inl (udp_noerr src fr dst to' data)) (udp_np src fr dst to' data)
    rw [hH] at h
    exact h
  have hp2 := udpP_ok src fr dst to' data hr
  generalize udpP src fr dst to' data = P at hR hp2 ⊢
  exact fun w v hbx => none_yes hbx side what P hp2 hR
end Go.Proofs.YtfkjobiapjhacabGreat
