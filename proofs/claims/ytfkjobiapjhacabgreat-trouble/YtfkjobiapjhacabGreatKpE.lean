/- Contracts of package gatewaykeep: a packet that comes in. Own work. -/
import Derived.Test.YtfkjobiapjhacabGreatKpP
import Derived.Test.YtfkjobiapjhacabGreatGwL
namespace Go.Proofs.YtfkjobiapjhacabGreat
open Go.RowKit
attribute [local go_sem ↓] Go.wp_at_zero Go.wp_at_succ

theorem cell_set_ne {w : World} {k j b o : Nat} {u : Value} (h : b ≠ k) : (w.setCell ⟨k, j, none⟩ u).cell? ⟨b, o, none⟩ = w.cell? ⟨b, o, none⟩ := World.cell?_of_block (Below.heap_setCell _ _ _ _ h)
/-- A packet as the law's own are. -/
structure PKOK (p : PK) : Prop where
  sz : p.body.size ≤ 1000
  f0 : 0 ≤ p.fl
  f1 : p.fl ≤ 7
  o0 : 0 ≤ p.off
  o1 : p.off ≤ 65535
set_option maxRecDepth 100000 in
set_option maxHeartbeats 1000000 in
theorem none_yes {w : World} {b : Nat} {v : Value} {s s' : BX} (h : BoxAt w b v s) (side what : Int) (p : PK) (hp : PKOK p) (hR : RecvAt b s side (rawP p) what none s') :
    Calls Tryz.prog 28 #[.pointer (some ⟨b, 0, none⟩), .int .i64 side, .agg #[.int .i64 p.id, .int .i64 p.fl, .int .i64 p.off, .int .i64 p.ttl, .int .i64 p.pr, .int .i64 p.src, .int .i64 p.dst, .string p.body], .int .i64 what] w fun e w' => e = .returned (.bool true) ∧ ∃ v', BoxAt w' b v' s' ∧ Chg b v w w' v' := by
  have hM1 : GMid w (w.alloc (.cells #[.int .i64 p.id, .int .i64 p.fl, .int .i64 p.off, .int .i64 p.ttl, .int .i64 p.pr, .int .i64 p.src, .int .i64 p.dst, .string p.body] 37)) b v v s [(w.heap.size, #[.int .i64 p.id, .int .i64 p.fl, .int .i64 p.off, .int .i64 p.ttl, .int .i64 p.pr, .int .i64 p.src, .int .i64 p.dst, .string p.body], 37)] := (GMid.start h).alloc' _ _ _ rfl
  have HRA : Hid (∀ w, Calls Tryz.prog 20 #[.agg #[.int .i64 p.id, .int .i64 p.fl, .int .i64 p.off, .int .i64 p.ttl, .int .i64 p.pr, .int .i64 p.src, .int .i64 p.dst, .string p.body]] w fun e w' => e = .returned (.string (rawP p)) ∧ Below w.heap.size w w') := fun w => raw_any p w (by have := hp.sz; omega) hp.f0 hp.f1 hp.o0 hp.o1
  have HR : Hid (RecvAt b s side (rawP p) what none s') := hR
  generalize rawP p = R at HRA HR
  obtain ⟨⟨p0, p1, p2, p3, p4, p5, p6, p7⟩, pf⟩ := c8 hM1.at0
  have hM : Hid _ := hM1
  clear hM1 hR h
  go_enter Tryz.func28, Tryz.ntmps28
  go_wp2_with (first
    | (go_at_call 20; refine (HRA.out _).mono ?_; rintro e w1 ⟨rfl, hb1⟩; have hM1 := hM.out.call hb1; clear hM hb1 p0 p1 p2 p3 p4 p5 p6 p7 pf; have hM : Hid _ := hM1; clear hM1)
    | (go_at_call 21; refine (HR.out _ _ hM.out.box).mono ?_; rintro e w2 ⟨fv, rfl, hfr, v', hbx, hch⟩; obtain ⟨fo, fc, rfl⟩ := hfr.none; clear hfr; have hM1 := hM.out.change hbx hch; clear hM hbx hch; have hM : Hid _ := hM1; clear hM1))
  go_ret
  exact ⟨rfl, v', hM.out.box, hM.out.chg⟩
set_option maxRecDepth 100000 in
set_option maxHeartbeats 1000000 in
theorem one_yes {w : World} {b : Nat} {v : Value} {s s' : BX} (h : BoxAt w b v s) (side to' : Int) (p : PK) (hp : PKOK p) (r : ByteArray) (hR : RecvAt b s side (rawP p) 0 (some (to', r)) s')
    (h21 : 21 ≤ r.size) (hs : r.size ≤ 1000) (h2 : wordAt r 2 = r.size) (h0 : byteAt r 0 = 69) (h1 : byteAt r 1 = 0) (hsum : sumI (r.extract 0 20) = 65535) (hh : honB (parP r) = true)
    (hid : (parP r).id = p.id) (hfl : (parP r).fl = p.fl) (hof : (parP r).off = p.off) (hpr : (parP r).pr = p.pr) (htt : (parP r).ttl = p.ttl - 1) (hlo : -1000 ≤ p.ttl) (hhi : p.ttl ≤ 1000) :
    Calls Tryz.prog 24 #[.pointer (some ⟨b, 0, none⟩), .int .i64 side, .agg #[.int .i64 p.id, .int .i64 p.fl, .int .i64 p.off, .int .i64 p.ttl, .int .i64 p.pr, .int .i64 p.src, .int .i64 p.dst, .string p.body], .int .i64 to'] w fun e w' => e = .returned (.tuple #[(parP r).val, .bool true]) ∧ ∃ v', BoxAt w' b v' s' ∧ Chg b v w w' v' := by
  have hM1 : GMid w ((w.alloc (.cells #[.int .i64 p.id, .int .i64 p.fl, .int .i64 p.off, .int .i64 p.ttl, .int .i64 p.pr, .int .i64 p.src, .int .i64 p.dst, .string p.body] 37)).alloc (.cells #[.int .i64 0, .int .i64 0, .int .i64 0, .int .i64 0, .int .i64 0, .int .i64 0, .int .i64 0, .string ⟨#[]⟩] 37)) b v v s [(w.heap.size + 1, #[.int .i64 0, .int .i64 0, .int .i64 0, .int .i64 0, .int .i64 0, .int .i64 0, .int .i64 0, .string ⟨#[]⟩], 37), (w.heap.size, #[.int .i64 p.id, .int .i64 p.fl, .int .i64 p.off, .int .i64 p.ttl, .int .i64 p.pr, .int .i64 p.src, .int .i64 p.dst, .string p.body], 37)] := ((GMid.start h).alloc' _ _ _ rfl).alloc' _ _ _ (by simp)
  have HRA : Hid (∀ w, Calls Tryz.prog 20 #[.agg #[.int .i64 p.id, .int .i64 p.fl, .int .i64 p.off, .int .i64 p.ttl, .int .i64 p.pr, .int .i64 p.src, .int .i64 p.dst, .string p.body]] w fun e w' => e = .returned (.string (rawP p)) ∧ Below w.heap.size w w') := fun w => raw_any p w (by have := hp.sz; omega) hp.f0 hp.f1 hp.o0 hp.o1
  have HR : Hid (RecvAt b s side (rawP p) 0 (some (to', r)) s') := hR
  have HPS : Hid (∀ w, Calls Tryz.prog 25 #[.string r] w fun e w' => e = .returned (.tuple #[(parP r).val, .bool true]) ∧ Below w.heap.size w w') := fun w => parsed_yes r w h21 hs h2 h0 h1 hsum
  have hbz : (parP r).body.size ≤ 1000 := by show (r.extract 20 r.size).size ≤ 1000; rw [ByteArray.size_extract]; omega
  have HHO : Hid (∀ w, Calls Tryz.prog 26 #[(parP r).val] w fun e w' => e = .returned (.bool true) ∧ Below w.heap.size w w') := fun w => by rw [← hh]; exact honest_any (parP r) w hbz
  clear h2 h0 h1 hsum hs h21 hh hbz
  generalize parP r = q at HPS HHO hid hfl hof hpr htt ⊢
  generalize rawP p = R at HRA HR
  have HQ : q.val = .agg #[.int .i64 q.id, .int .i64 q.fl, .int .i64 q.off, .int .i64 q.ttl, .int .i64 q.pr, .int .i64 q.src, .int .i64 q.dst, .string q.body] := rfl
  rw [HQ] at HPS HHO ⊢
  clear HQ
  have b0 : (q.id == p.id) = true := by simp [hid]
  have b1 : (q.fl == p.fl) = true := by simp [hfl]
  have b2 : (q.off == p.off) = true := by simp [hof]
  have b3 : (q.pr == p.pr) = true := by simp [hpr]
  have b4 : (q.ttl == p.ttl - 1) = true := by simp [htt]
  have b5 : IntKind.i64.wrap (p.ttl - 1) = p.ttl - 1 := g_wrap _ (by omega) (by omega)
  clear hid hfl hof hpr htt
  obtain ⟨⟨r0, r1, r2, r3, r4, r5, r6, r7⟩, rf⟩ := c8 hM1.at0; obtain ⟨⟨p0, p1, p2, p3, p4, p5, p6, p7⟩, pf⟩ := c8 hM1.at1
  have hM : Hid _ := hM1
  clear hM1 hR h
  go_enter Tryz.func24, Tryz.ntmps24
  go_wp2_with (go_at_call 20; refine (HRA.out _).mono ?_; rintro e w1 ⟨rfl, hb1⟩; have hM1 := hM.out.call hb1; clear hM hb1; clear r0 r1 r2 r3 r4 r5 r6 r7 rf p0 p1 p2 p3 p4 p5 p6 p7 pf; obtain ⟨⟨r0, r1, r2, r3, r4, r5, r6, r7⟩, rf⟩ := c8 hM1.at0; obtain ⟨⟨p0, p1, p2, p3, p4, p5, p6, p7⟩, pf⟩ := c8 hM1.at1; have hM : Hid _ := hM1; clear hM1)
  refine (HR.out _ _ hM.out.box).mono ?_
  rintro e w2 ⟨fv, rfl, hfr, v', hbx, hch⟩
  obtain ⟨g, fc, rfl, hg, g0, g1⟩ := hfr.one
  have hM1 := hM.out.change hbx hch
  clear hM hbx hch
  clear r0 r1 r2 r3 r4 r5 r6 r7 rf p0 p1 p2 p3 p4 p5 p6 p7 pf
  obtain ⟨⟨r0, r1, r2, r3, r4, r5, r6, r7⟩, rf⟩ := c8 hM1.at0; obtain ⟨⟨p0, p1, p2, p3, p4, p5, p6, p7⟩, pf⟩ := c8 hM1.at1
  have hM : Hid _ := hM1
  clear hM1
  clear hfr
  go_wp2_with fail
  refine (HPS.out _).mono ?_
  rintro e w3 ⟨rfl, hb3⟩
  have hM3 := hM.out.call hb3
  clear hM hb3 g0 g1 hg
  clear r0 r1 r2 r3 r4 r5 r6 r7 rf p0 p1 p2 p3 p4 p5 p6 p7 pf
  go_wp2_with fail
  refine (HHO.out _).mono ?_
  rintro e w4 ⟨rfl, hb4⟩
  have hM1 := (hM3.alloc' #[.int .i64 q.id, .int .i64 q.fl, .int .i64 q.off, .int .i64 q.ttl, .int .i64 q.pr, .int .i64 q.src, .int .i64 q.dst, .string q.body] 37 w3.heap.size rfl).call hb4
  have hK1 := lt_of_block hM3.at0
  have hK2 : w3.heap.size ≠ w.heap.size + 1 := by omega
  have hK4 : w.heap.size ≠ w.heap.size + 1 := by omega
  clear hM3 hb4
  obtain ⟨⟨q0, q1, q2, q3, q4, q5, q6, q7⟩, qf⟩ := c8 hM1.at0; obtain ⟨⟨r0, r1, r2, r3, r4, r5, r6, r7⟩, rf⟩ := c8 hM1.at1; obtain ⟨⟨p0, p1, p2, p3, p4, p5, p6, p7⟩, pf⟩ := c8 hM1.at2
  have hM : Hid _ := hM1
  clear hM1
  go_wp2_with fail
  go_region_held3 (fun w' => w'.cell? ⟨w3.heap.size, 0, none⟩ = some (.int .i64 q.id) ∧ w'.cell? ⟨w3.heap.size, 1, none⟩ = some (.int .i64 q.fl) ∧ w'.cell? ⟨w3.heap.size, 2, none⟩ = some (.int .i64 q.off) ∧ w'.cell? ⟨w3.heap.size, 3, none⟩ = some (.int .i64 q.ttl) ∧ w'.cell? ⟨w3.heap.size, 4, none⟩ = some (.int .i64 q.pr) ∧ w'.cell? ⟨w3.heap.size, 5, none⟩ = some (.int .i64 q.src) ∧ w'.cell? ⟨w3.heap.size, 6, none⟩ = some (.int .i64 q.dst) ∧ w'.cell? ⟨w3.heap.size, 7, none⟩ = some (.string q.body) ∧ w'.cell? ⟨w.heap.size, 3, none⟩ = some (.int .i64 p.ttl)) (first | (simp [*]; done) | (simp [cell_set_ne hK2, cell_set_ne hK4, q0, q1, q2, q3, q4, q5, q6, q7, p3]; done)) (fail)
  all_goals go_wp2_with fail
  refine bodyPost_ret (v := .tuple #[.agg #[.int .i64 q.id, .int .i64 q.fl, .int .i64 q.off, .int .i64 q.ttl, .int .i64 q.pr, .int .i64 q.src, .int .i64 q.dst, .string q.body], .bool true]) (by simp [results, Tryz.results24, go_sem, r0, r1, r2, r3, r4, r5, r6, r7]) rfl ⟨rfl, v', ?_⟩
  have hE := ((((((((hM.out.set1 0 (.int .i64 q.id)).set1 1 (.int .i64 q.fl)).set1 2 (.int .i64 q.off)).set1 3 (.int .i64 q.ttl)).set1 4 (.int .i64 q.pr)).set1 5 (.int .i64 q.src)).set1 6 (.int .i64 q.dst)).set1 7 (.string q.body)).drew
  exact ⟨hE.box, hE.chg⟩
end Go.Proofs.YtfkjobiapjhacabGreat
