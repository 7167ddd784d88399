import Derived.Test.YthmlndmlnlfhnaaGreatDoorK299d4eeb
import Derived.Test.YthmlndmlnlfhnaaGreatDoorK75d13a4b
set_option maxRecDepth 100000
set_option maxHeartbeats 16000000
namespace Go.Proofs.YthmlndmlnlfhnaaGreatDoor
open Go.RowKit Go.Shelf
theorem do_6 (σ:StoreD) (c:Nat→Nat) (g:Nat) (vs:List Value) (vl:Value) (m:Int) (name text:ByteArray) (inp:List Int) (va:Value) (w:World) (h:StoreC w c g σ vs vl) (hv:VarsOk w) (hvc:jc0 c) (ha:jgy w (fun b=>b<w.heap.size∧c b=0) ⟨6,m,name,text,inp⟩ va)
  (hfull:¬ 200 ≤ σ.acts) :
  Calls Tryz.prog 15 #[.pointer (some ⟨g,0,none⟩),va] w (jam w c g (doV σ ⟨6,m,name,text,inp⟩)):=by
 have HH:=Lib.hid h
 have HCL:=Lib.hid h.lt
 have HV:=Lib.hid hv
 have HVC:=Lib.hid hvc
 have HIV:=Lib.hid h.inv
 have hcg:c g≠0:=by rw [h.col];decide
 have hgw:g<w.heap.size:=h.cs.1
 have hac:=h.inv.acts
 have HID:=Lib.hid (h.inv.do_ ⟨6,m,name,text,inp⟩)
 obtain ⟨vi,rfl,hi⟩:=ha
 simp only at hi
 have HIN:=Lib.hid hi
 obtain ⟨Ai,ci,rfl,-,-⟩:=hi.form
 clear h hv hvc hi
 have hb0:=jac w (.cells #[.int .i64 6,.int .i64 m,.string name,.string text,.slice Ai inp.length ci] 24)
 have B0:=Lib.hid (Cs.new w [.int .i64 6,.int .i64 m,.string name,.string text,.slice Ai inp.length ci] 24)
 have hz0:(w.alloc (.cells #[.int .i64 6,.int .i64 m,.string name,.string text,.slice Ai inp.length ci] 24)).heap.size=w.heap.size+1:=by simp
 change Hid (Cs (w.alloc (.cells #[.int .i64 6,.int .i64 m,.string name,.string text,.slice Ai inp.length ci] 24)) _ _) at B0
 generalize hw0:w.alloc (.cells #[.int .i64 6,.int .i64 m,.string name,.string text,.slice Ai inp.length ci] 24)=w0 at *
 have hb1:=jac w0 (.cells #[.int .i64 0,.int .i64 0,.string ⟨#[]⟩,.slice none 0 0,.slice none 0 0] 30)
 have C1:=Lib.hid (Cs.new w0 zeroRL 30)
 have hz1:(w0.alloc (.cells #[.int .i64 0,.int .i64 0,.string ⟨#[]⟩,.slice none 0 0,.slice none 0 0] 30)).heap.size=w.heap.size+2:=by simp;omega
 change Hid (Cs (w0.alloc (.cells #[.int .i64 0,.int .i64 0,.string ⟨#[]⟩,.slice none 0 0,.slice none 0 0] 30)) _ _) at C1
 rw [hz0] at C1
 have B1:=Lib.hid (B0.out.next hb1)
 have hb01:=bx hb0 hb1
 generalize hw1:w0.alloc (.cells #[.int .i64 0,.int .i64 0,.string ⟨#[]⟩,.slice none 0 0,.slice none 0 0] 30)=w1 at *
 have H1:=Lib.hid (HH.out.next hb01)
 have HV1:=Lib.hid (HV.out.next hb01)
 have k0:=B1.out.at 0 rfl
 have k1:=B1.out.at 1 rfl
 have k2:=B1.out.at 2 rfl
 have k3:=B1.out.at 3 rfl
 have k4:=B1.out.at 4 rfl
 have hIN1:Hid (Sl Enc.int w1 (fun b=>b<w1.heap.size∧c b=0) inp (.slice Ai inp.length ci)):=(HIN.out.keep (w':=w1) fun p hp=>World.cell?_of_block (hb01.block _ hp.1)).more fun q hq=>⟨by have:=hq.1;omega,hq.2⟩
 have hc1:c (w.heap.size+1)=0:=jb1 HCL.out (by omega)
 have q29:w1.cell? ⟨g,29,none⟩=some (.int .i64 σ.acts):=H1.out.cs.at 29 H1.out.acts
 have z29:w1.frozen? ⟨g,29,none⟩=false:=H1.out.cs.2.2 29 (by rw [H1.out.len];decide)
 have hfi:¬ (200:Int)≤(σ.acts:Int):=by omega
 have hwa:IntKind.i64.wrap ((σ.acts:Int)+1)=(σ.acts:Int)+1:=by rw [IntKind.wrap_i64];omega
 have H2:Hid (∃ vs2,StoreC (w1.setCell ⟨g,29,none⟩ (.int .i64 ((σ.acts:Int)+1))) c g (jbj σ) vs2 vl):=⟨_,H1.out.tick (by omega)⟩
 have hF2:Hid (Fr c w (w1.setCell ⟨g,29,none⟩ (.int .i64 ((σ.acts:Int)+1)))):=(Fr.below hb01).trans (Fr.set c w1 g 29 _ hcg) (fun _ _=>rfl)
 have HV2:=Lib.hid (HV.out.fr HVC.out hF2.out)
 have hne0:w.heap.size≠g:=by omega
 have hne1:w.heap.size+1≠g:=by omega
 have hz2:(w1.setCell ⟨g,29,none⟩ (.int .i64 ((σ.acts:Int)+1))).heap.size=w.heap.size+2:=by simp [World.setCell];exact hz1
 have C2:=Lib.hid (C1.out.keep (w':=w1.setCell ⟨g,29,none⟩ (.int .i64 ((σ.acts:Int)+1))) (RowKit.Below.heap_setCell _ _ _ _ hne1) (by simp [World.setCell]))
 have B2:=Lib.hid (B1.out.keep (w':=w1.setCell ⟨g,29,none⟩ (.int .i64 ((σ.acts:Int)+1))) (RowKit.Below.heap_setCell _ _ _ _ hne0) (by simp [World.setCell]))
 have hIN2:Hid (Sl Enc.int (w1.setCell ⟨g,29,none⟩ (.int .i64 ((σ.acts:Int)+1))) (fun b=>b<(w1.setCell ⟨g,29,none⟩ (.int .i64 ((σ.acts:Int)+1))).heap.size∧c b=0) inp (.slice Ai inp.length ci)):=(hIN1.out.keep (w':=w1.setCell ⟨g,29,none⟩ (.int .i64 ((σ.acts:Int)+1))) fun p hp=>World.cell?_of_block (RowKit.Below.heap_setCell _ _ _ _ (fun e=>hcg (by have e2:p.block=g:=e;rw [← e2];exact hp.2)))).more fun q hq=>⟨by have:=hq.1;omega,hq.2⟩
 have e0:=B2.out.at 0 rfl
 have e1:=B2.out.at 1 rfl
 have e2:=B2.out.at 2 rfl
 have e3:=B2.out.at 3 rfl
 have e4:=B2.out.at 4 rfl
 have HE0:Hid (doV σ ⟨6,m,name,text,inp⟩=if jcp (jbj σ) m then ja8 (jbj σ) m.toNat ⟨6,m,name,text,inp⟩ else (jbj σ,jb8 3)):=by show _=_;unfold doV;rw [if_neg hfull];rfl
 generalize doV σ ⟨6,m,name,text,inp⟩=PV at *
 go_enter Tryz.func15,Tryz.ntmps15
 go_wp2_with fail
 clear hw0 hw1 k0 k1 k2 k3 k4 q29 z29
 generalize w1.setCell ⟨g,29,none⟩ (.int .i64 ((σ.acts:Int)+1))=w2 at *
 obtain ⟨vs2,hst2⟩:=H2.out
 have H3:=Lib.hid hst2
 clear hst2 H2
 refine (jgh (jbj σ) c g vs2 vl _ H3.out m).mono ?_
 rintro e w3 ⟨rfl,hw3⟩
 replace hw3:=hw3.symm
 subst hw3
 cases hop:jcp (jbj σ) m
 ·have HE:Hid (PV=(jbj σ,jb8 3)):=by show _=_;rw [HE0.out,hop];rfl
  clear hop HE0
  have r0:=C2.out.at 0 rfl
  have r1:=C2.out.at 1 rfl
  have r2:=C2.out.at 2 rfl
  have r3:=C2.out.at 3 rfl
  have r4:=C2.out.at 4 rfl
  have f0:=C2.out.2.2 0 (by simp)
  have f1:=C2.out.2.2 1 (by simp)
  have f2:=C2.out.2.2 2 (by simp)
  have f3:=C2.out.2.2 3 (by simp)
  have f4:=C2.out.2.2 4 (by simp)
  go_wp2
  (try simp only [Exit.inBlock,Exit.then])
  refine bodyPost_ret (jaz (b:=w.heap.size+1) rfl rfl (jbs C2.out _ _ _ _ _)) rfl ?_
  rw [HE.out]
  exact jam.wrote H3.out (fun _ _=>rfl) (by omega) hc1 hF2.out (jb0.plain 3 0 _)
 ·obtain ⟨h0,h4,-⟩:=jd9.1 hop
  have HE:Hid (PV=ja8 (jbj σ) m.toNat ⟨6,m,name,text,inp⟩):=by show _=_;rw [HE0.out,hop];rfl
  have HI:=HID.out
  rw [HE.out] at HI
  obtain ⟨k,rfl⟩:∃ k:Nat,m=k:=⟨m.toNat,by omega⟩
  rw [Int.toNat_natCast] at HI HE
  have HI2:=Lib.hid HI
  have hk4:k<4:=by omega
  clear hop HE0 HI HID
  have H3d:=Lib.hid H3.out.drewS
  have HV2d:=Lib.hid HV2.out.drewS
  have hF2d:=Lib.hid hF2.out.drew
  have C2d:=Lib.hid C2.out.drew
  have hA2d:Hid (jgy w2.drew (fun b=>b<w2.drew.heap.size∧c b=0) ⟨6,k,name,text,inp⟩ (.agg #[.int .i64 6,.int .i64 k,.string name,.string text,.slice Ai inp.length ci])):=⟨_,rfl,hIN2.out.keep (w':=w2.drew) fun _ _=>rfl⟩
  have d0:w2.drew.cell? ⟨w.heap.size,0,none⟩=_:=e0
  have d1:w2.drew.cell? ⟨w.heap.size,1,none⟩=_:=e1
  have d2:w2.drew.cell? ⟨w.heap.size,2,none⟩=_:=e2
  have d3:w2.drew.cell? ⟨w.heap.size,3,none⟩=_:=e3
  have d4:w2.drew.cell? ⟨w.heap.size,4,none⟩=_:=e4
  have hzd:w2.drew.heap.size=w.heap.size+2:=hz2
  have hk0:(0:Int)≤k:=by omega
  have hk4':(k:Int)<4:=by omega
  go_wp2_with fail
  go_region_law (first
   | (go_simp;go_at_call 44;refine (yl3 (jbj σ) c g k vs2 vl k name text inp _ _ H3d.out HV2d.out HVC.out hk4 hA2d.out HI2.out).mono ?_;rintro e w3 hP;rw [← HE.out] at hP;obtain ⟨A1,q1,A2,q2,rfl,hC3,hP3⟩:=hP.up hF2d.out (b0:=w.heap.size+1) (by omega) (by omega) hc1 C2d.out;have C3:=Lib.hid hC3;have HP3:=Lib.hid hP3;clear hP hC3 hP3;have r0:=C3.out.at 0 rfl;have r1:=C3.out.at 1 rfl;have r2:=C3.out.at 2 rfl;have r3:=C3.out.at 3 rfl;have r4:=C3.out.at 4 rfl;have f0:=C3.out.2.2 0 (by simp);have f1:=C3.out.2.2 1 (by simp);have f2:=C3.out.2.2 2 (by simp);have f3:=C3.out.2.2 3 (by simp);have f4:=C3.out.2.2 4 (by simp)))
  all_goals
   go_wp2
   (try simp only [Exit.inBlock,Exit.then])
   exact bodyPost_ret (jaz (b:=w.heap.size+1) rfl rfl (jbs C3.out _ _ _ _ _)) rfl HP3.out
open Go.RowKit Go.Shelf
theorem yl4 (σ:StoreD) (c:Nat→Nat) (g n:Nat) (vs:List Value) (vl:Value) (m:Int) (name text:ByteArray) (inp:List Int) (va:Value) (w:World) (h:StoreC w c g σ vs vl) (hv:VarsOk w) (hvc:jc0 c) (hn:n<4) (ha:jgy w (fun b=>b<w.heap.size∧c b=0) ⟨7,m,name,text,inp⟩ va)
  (hI:Inv (ja8 σ n ⟨7,m,name,text,inp⟩).1) :
  Calls Tryz.prog 44 #[.pointer (some ⟨g,0,none⟩),.pointer (some ⟨g,1+n*7,none⟩),va] w (jam w c g (ja8 σ n ⟨7,m,name,text,inp⟩)):=by
 have HH:=Lib.hid h
 have HCL:=Lib.hid h.lt
 have HV:=Lib.hid hv
 have HVC:=Lib.hid hvc
 have HX:Hid (σ.sess[n]? = some (σ.sessN n)):=je5 h.inv hn
 have HSO:=Lib.hid (h.inv.at n)
 have HIV:=Lib.hid h.inv
 have hcg:c g≠0:=by rw [h.col];decide
 have hgw:g<w.heap.size:=h.cs.1
 obtain ⟨vi,rfl,hi⟩:=ha
 simp only at hi
 have HIN:=Lib.hid hi
 obtain ⟨Ai,ci,rfl,-,-⟩:=hi.form
 clear h hv hvc hi
 have HI:=Lib.hid hI
 clear hI
 have HE:Hid (ja8 σ n ⟨7,m,name,text,inp⟩=(jaq σ n jjn,jb8 0)):=by show _=_;rfl
 generalize ja8 σ n ⟨7,m,name,text,inp⟩=PV at *
 have hb0:=jac w (.cells #[.int .i64 7,.int .i64 m,.string name,.string text,.slice Ai inp.length ci] 24)
 have B0:=Lib.hid (Cs.new w [.int .i64 7,.int .i64 m,.string name,.string text,.slice Ai inp.length ci] 24)
 have hz0:(w.alloc (.cells #[.int .i64 7,.int .i64 m,.string name,.string text,.slice Ai inp.length ci] 24)).heap.size=w.heap.size+1:=by simp
 change Hid (Cs (w.alloc (.cells #[.int .i64 7,.int .i64 m,.string name,.string text,.slice Ai inp.length ci] 24)) _ _) at B0
 generalize hw0:w.alloc (.cells #[.int .i64 7,.int .i64 m,.string name,.string text,.slice Ai inp.length ci] 24)=w0 at *
 have hb1:=jac w0 (.cells #[.int .i64 0,.int .i64 0,.string ⟨#[]⟩,.slice none 0 0,.slice none 0 0] 30)
 have C1:=Lib.hid (Cs.new w0 zeroRL 30)
 have hz1:(w0.alloc (.cells #[.int .i64 0,.int .i64 0,.string ⟨#[]⟩,.slice none 0 0,.slice none 0 0] 30)).heap.size=w.heap.size+2:=by simp;omega
 change Hid (Cs (w0.alloc (.cells #[.int .i64 0,.int .i64 0,.string ⟨#[]⟩,.slice none 0 0,.slice none 0 0] 30)) _ _) at C1
 rw [hz0] at C1
 have B1:=Lib.hid (B0.out.next hb1)
 have hb01:=bx hb0 hb1
 generalize hw1:w0.alloc (.cells #[.int .i64 0,.int .i64 0,.string ⟨#[]⟩,.slice none 0 0,.slice none 0 0] 30)=w1 at *
 have H1:=Lib.hid (HH.out.next hb01)
 have HV1:=Lib.hid (HV.out.next hb01)
 have k0:=B1.out.at 0 rfl
 have k1:=B1.out.at 1 rfl
 have k2:=B1.out.at 2 rfl
 have k3:=B1.out.at 3 rfl
 have k4:=B1.out.at 4 rfl
 have hIN1:Hid (Sl Enc.int w1 (fun b=>b<w1.heap.size∧c b=0) inp (.slice Ai inp.length ci)):=(HIN.out.keep (w':=w1) fun p hp=>World.cell?_of_block (hb01.block _ hp.1)).more fun q hq=>⟨by have:=hq.1;omega,hq.2⟩
 have hc1:c (w.heap.size+1)=0:=jb1 HCL.out (by omega)
 obtain ⟨vd,vt,vg,vr,hC,-,-,hcell⟩:=H1.out.sessAt HX.out
 have HZ:=Lib.hid (HIV.out.set (n:=n) (SessOk.zero _ _))
 generalize hXX:σ.sessN n=X at *
 have HXA:=Lib.hid hC.atX
 have hlt1:=Lib.hid H1.out.lt
 have hcg1:=HH.out.col
 obtain ⟨Ad,cd,rfl,-,-⟩:=hC.doms.form
 obtain ⟨At,ct,rfl,-,-⟩:=hC.tabs.form
 obtain ⟨Ag,cg,rfl,-,-,-⟩:=jah hC.gone
 obtain ⟨Ah,ch,rfl,-,-,-⟩:=jah hC.read
 have a0:w1.cell? ⟨g,1+n*7,none⟩=_:=(hcell 0 _ rfl).1
 have a1:=(hcell 1 _ rfl).1
 have a2:=(hcell 2 _ rfl).1
 have a3:=(hcell 3 _ rfl).1
 have a4:=(hcell 4 _ rfl).1
 have a5:=(hcell 5 _ rfl).1
 have a6:=(hcell 6 _ rfl).1
 have z0:w1.frozen? ⟨g,1+n*7,none⟩=false:=(hcell 0 _ rfl).2
 have z1:=(hcell 1 _ rfl).2
 have z2:=(hcell 2 _ rfl).2
 have z3:=(hcell 3 _ rfl).2
 have z4:=(hcell 4 _ rfl).2
 have z5:=(hcell 5 _ rfl).2
 have z6:=(hcell 6 _ rfl).2
 clear hcell hC hXX
 have hb2:=jac w1 (.cells #[.bool X.opn,.bool X.strict,.int .i64 X.frm,.slice Ad X.mine.doms.length cd,.slice At X.mine.tabs.length ct,.slice Ag X.gone.length cg,.slice Ah X.read.length ch] 41)
 have E2:=Lib.hid (Cs.new w1 [.bool X.opn,.bool X.strict,.int .i64 X.frm,.slice Ad X.mine.doms.length cd,.slice At X.mine.tabs.length ct,.slice Ag X.gone.length cg,.slice Ah X.read.length ch] 41)
 have hz2:(w1.alloc (.cells #[.bool X.opn,.bool X.strict,.int .i64 X.frm,.slice Ad X.mine.doms.length cd,.slice At X.mine.tabs.length ct,.slice Ag X.gone.length cg,.slice Ah X.read.length ch] 41)).heap.size=w.heap.size+3:=by simp;omega
 change Hid (Cs (w1.alloc (.cells #[.bool X.opn,.bool X.strict,.int .i64 X.frm,.slice Ad X.mine.doms.length cd,.slice At X.mine.tabs.length ct,.slice Ag X.gone.length cg,.slice Ah X.read.length ch] 41)) _ _) at E2
 rw [hz1] at E2
 have hg1:g<w1.heap.size:=by omega
 have u0:=(hb2.cell (p:=⟨g,1+n*7,none⟩) hg1).trans a0
 have u1:=(hb2.cell (p:=⟨g,1+n*7+1,none⟩) hg1).trans a1
 have u2:=(hb2.cell (p:=⟨g,1+n*7+2,none⟩) hg1).trans a2
 have u3:=(hb2.cell (p:=⟨g,1+n*7+3,none⟩) hg1).trans a3
 have u4:=(hb2.cell (p:=⟨g,1+n*7+4,none⟩) hg1).trans a4
 have u5:=(hb2.cell (p:=⟨g,1+n*7+5,none⟩) hg1).trans a5
 have u6:=(hb2.cell (p:=⟨g,1+n*7+6,none⟩) hg1).trans a6
 have y0:=(World.frozen?_of_block (a:=⟨g,1+n*7,none⟩) (hb2.block g hg1)).trans z0
 have y1:=(World.frozen?_of_block (a:=⟨g,1+n*7+1,none⟩) (hb2.block g hg1)).trans z1
 have y2:=(World.frozen?_of_block (a:=⟨g,1+n*7+2,none⟩) (hb2.block g hg1)).trans z2
 have y3:=(World.frozen?_of_block (a:=⟨g,1+n*7+3,none⟩) (hb2.block g hg1)).trans z3
 have y4:=(World.frozen?_of_block (a:=⟨g,1+n*7+4,none⟩) (hb2.block g hg1)).trans z4
 have y5:=(World.frozen?_of_block (a:=⟨g,1+n*7+5,none⟩) (hb2.block g hg1)).trans z5
 have y6:=(World.frozen?_of_block (a:=⟨g,1+n*7+6,none⟩) (hb2.block g hg1)).trans z6
 have H2:=Lib.hid (H1.out.next hb2)
 have C2:=Lib.hid (C1.out.next hb2)
 have B2:=Lib.hid (B1.out.next hb2)
 have hb02:=bx hb01 hb2
 generalize hw2:w1.alloc (.cells #[.bool X.opn,.bool X.strict,.int .i64 X.frm,.slice Ad X.mine.doms.length cd,.slice At X.mine.tabs.length ct,.slice Ag X.gone.length cg,.slice Ah X.read.length ch] 41)=w2 at *
 have H3:=Lib.hid (H2.out.putSess hn (SessC.zero w2 c n) HZ.out)
 have hF3:Hid (Fr c w (putS w2 g (1+n*7) (.bool false) (.bool false) (.int .i64 0) (.slice none 0 0) (.slice none 0 0) (.slice none 0 0) (.slice none 0 0))):=(Fr.below hb02).trans (jzd hcg) (fun _ _=>rfl)
 have HV3:=Lib.hid (HV.out.fr HVC.out hF3.out)
 have C3:Hid (Cs (putS w2 g (1+n*7) (.bool false) (.bool false) (.int .i64 0) (.slice none 0 0) (.slice none 0 0) (.slice none 0 0) (.slice none 0 0)) (w.heap.size+1) zeroRL):=C2.out.keep (jea (by omega)) (Nat.le_of_eq jga.symm)
 have B3:Hid (Cs (putS w2 g (1+n*7) (.bool false) (.bool false) (.int .i64 0) (.slice none 0 0) (.slice none 0 0) (.slice none 0 0) (.slice none 0 0)) w.heap.size [.int .i64 7,.int .i64 m,.string name,.string text,.slice Ai inp.length ci]):=B2.out.keep (jea (by omega)) (Nat.le_of_eq jga.symm)
 have E3:Hid (Cs (putS w2 g (1+n*7) (.bool false) (.bool false) (.int .i64 0) (.slice none 0 0) (.slice none 0 0) (.slice none 0 0) (.slice none 0 0)) (w.heap.size+2) [.bool X.opn,.bool X.strict,.int .i64 X.frm,.slice Ad X.mine.doms.length cd,.slice At X.mine.tabs.length ct,.slice Ag X.gone.length cg,.slice Ah X.read.length ch]):=E2.out.keep (jea (by omega)) (Nat.le_of_eq jga.symm)
 have hz3:(putS w2 g (1+n*7) (.bool false) (.bool false) (.int .i64 0) (.slice none 0 0) (.slice none 0 0) (.slice none 0 0) (.slice none 0 0)).heap.size=w.heap.size+3:=by rw [jga];exact hz2
 have hX3:Hid (jhb (putS w2 g (1+n*7) (.bool false) (.bool false) (.int .i64 0) (.slice none 0 0) (.slice none 0 0) (.slice none 0 0) (.slice none 0 0)) (Cd c) X (.agg #[.bool X.opn,.bool X.strict,.int .i64 X.frm,.slice Ad X.mine.doms.length cd,.slice At X.mine.tabs.length ct,.slice Ag X.gone.length cg,.slice Ah X.read.length ch])):=((HXA.out.keepS (w':=w2) (fun k hk=>hb2.block k (hlt1.out k hk.1))).keepS (w':=putS w2 g (1+n*7) (.bool false) (.bool false) (.int .i64 0) (.slice none 0 0) (.slice none 0 0) (.slice none 0 0) (.slice none 0 0)) (fun k hk=>jea (fun e=>hk.2 (by rw [e];exact hcg1)))).moreS (fun k hk=>hk.1)
 have e0:=B3.out.at 0 rfl
 have r0:=C3.out.at 0 rfl
 have r1:=C3.out.at 1 rfl
 have r2:=C3.out.at 2 rfl
 have r3:=C3.out.at 3 rfl
 have r4:=C3.out.at 4 rfl
 have f0:=C3.out.2.2 0 (by simp)
 have f1:=C3.out.2.2 1 (by simp)
 have f2:=C3.out.2.2 2 (by simp)
 have f3:=C3.out.2.2 3 (by simp)
 have f4:=C3.out.2.2 4 (by simp)
 unfold putS at e0 r0 r1 r2 r3 r4 f0 f1 f2 f3 f4
 go_enter Tryz.func44,Tryz.ntmps44
 go_wp2
 (try simp only [Exit.inBlock,Exit.then])
 refine bodyPost_ret (jaz (b:=w.heap.size+1) rfl rfl (jbs C3.out _ _ _ _ _)) rfl ?_
 rw [HE.out]
 exact jam.wrote H3.out (fun _ _=>rfl) (by omega) hc1 hF3.out (jb0.plain 0 0 _)
open Go.RowKit Go.Shelf
theorem do_7 (σ:StoreD) (c:Nat→Nat) (g:Nat) (vs:List Value) (vl:Value) (m:Int) (name text:ByteArray) (inp:List Int) (va:Value) (w:World) (h:StoreC w c g σ vs vl) (hv:VarsOk w) (hvc:jc0 c) (ha:jgy w (fun b=>b<w.heap.size∧c b=0) ⟨7,m,name,text,inp⟩ va)
  (hfull:¬ 200 ≤ σ.acts) :
  Calls Tryz.prog 15 #[.pointer (some ⟨g,0,none⟩),va] w (jam w c g (doV σ ⟨7,m,name,text,inp⟩)):=by
 have HH:=Lib.hid h
 have HCL:=Lib.hid h.lt
 have HV:=Lib.hid hv
 have HVC:=Lib.hid hvc
 have HIV:=Lib.hid h.inv
 have hcg:c g≠0:=by rw [h.col];decide
 have hgw:g<w.heap.size:=h.cs.1
 have hac:=h.inv.acts
 have HID:=Lib.hid (h.inv.do_ ⟨7,m,name,text,inp⟩)
 obtain ⟨vi,rfl,hi⟩:=ha
 simp only at hi
 have HIN:=Lib.hid hi
 obtain ⟨Ai,ci,rfl,-,-⟩:=hi.form
 clear h hv hvc hi
 have hb0:=jac w (.cells #[.int .i64 7,.int .i64 m,.string name,.string text,.slice Ai inp.length ci] 24)
 have B0:=Lib.hid (Cs.new w [.int .i64 7,.int .i64 m,.string name,.string text,.slice Ai inp.length ci] 24)
 have hz0:(w.alloc (.cells #[.int .i64 7,.int .i64 m,.string name,.string text,.slice Ai inp.length ci] 24)).heap.size=w.heap.size+1:=by simp
 change Hid (Cs (w.alloc (.cells #[.int .i64 7,.int .i64 m,.string name,.string text,.slice Ai inp.length ci] 24)) _ _) at B0
 generalize hw0:w.alloc (.cells #[.int .i64 7,.int .i64 m,.string name,.string text,.slice Ai inp.length ci] 24)=w0 at *
 have hb1:=jac w0 (.cells #[.int .i64 0,.int .i64 0,.string ⟨#[]⟩,.slice none 0 0,.slice none 0 0] 30)
 have C1:=Lib.hid (Cs.new w0 zeroRL 30)
 have hz1:(w0.alloc (.cells #[.int .i64 0,.int .i64 0,.string ⟨#[]⟩,.slice none 0 0,.slice none 0 0] 30)).heap.size=w.heap.size+2:=by simp;omega
 change Hid (Cs (w0.alloc (.cells #[.int .i64 0,.int .i64 0,.string ⟨#[]⟩,.slice none 0 0,.slice none 0 0] 30)) _ _) at C1
 rw [hz0] at C1
 have B1:=Lib.hid (B0.out.next hb1)
 have hb01:=bx hb0 hb1
 generalize hw1:w0.alloc (.cells #[.int .i64 0,.int .i64 0,.string ⟨#[]⟩,.slice none 0 0,.slice none 0 0] 30)=w1 at *
 have H1:=Lib.hid (HH.out.next hb01)
 have HV1:=Lib.hid (HV.out.next hb01)
 have k0:=B1.out.at 0 rfl
 have k1:=B1.out.at 1 rfl
 have k2:=B1.out.at 2 rfl
 have k3:=B1.out.at 3 rfl
 have k4:=B1.out.at 4 rfl
 have hIN1:Hid (Sl Enc.int w1 (fun b=>b<w1.heap.size∧c b=0) inp (.slice Ai inp.length ci)):=(HIN.out.keep (w':=w1) fun p hp=>World.cell?_of_block (hb01.block _ hp.1)).more fun q hq=>⟨by have:=hq.1;omega,hq.2⟩
 have hc1:c (w.heap.size+1)=0:=jb1 HCL.out (by omega)
 have q29:w1.cell? ⟨g,29,none⟩=some (.int .i64 σ.acts):=H1.out.cs.at 29 H1.out.acts
 have z29:w1.frozen? ⟨g,29,none⟩=false:=H1.out.cs.2.2 29 (by rw [H1.out.len];decide)
 have hfi:¬ (200:Int)≤(σ.acts:Int):=by omega
 have hwa:IntKind.i64.wrap ((σ.acts:Int)+1)=(σ.acts:Int)+1:=by rw [IntKind.wrap_i64];omega
 have H2:Hid (∃ vs2,StoreC (w1.setCell ⟨g,29,none⟩ (.int .i64 ((σ.acts:Int)+1))) c g (jbj σ) vs2 vl):=⟨_,H1.out.tick (by omega)⟩
 have hF2:Hid (Fr c w (w1.setCell ⟨g,29,none⟩ (.int .i64 ((σ.acts:Int)+1)))):=(Fr.below hb01).trans (Fr.set c w1 g 29 _ hcg) (fun _ _=>rfl)
 have HV2:=Lib.hid (HV.out.fr HVC.out hF2.out)
 have hne0:w.heap.size≠g:=by omega
 have hne1:w.heap.size+1≠g:=by omega
 have hz2:(w1.setCell ⟨g,29,none⟩ (.int .i64 ((σ.acts:Int)+1))).heap.size=w.heap.size+2:=by simp [World.setCell];exact hz1
 have C2:=Lib.hid (C1.out.keep (w':=w1.setCell ⟨g,29,none⟩ (.int .i64 ((σ.acts:Int)+1))) (RowKit.Below.heap_setCell _ _ _ _ hne1) (by simp [World.setCell]))
 have B2:=Lib.hid (B1.out.keep (w':=w1.setCell ⟨g,29,none⟩ (.int .i64 ((σ.acts:Int)+1))) (RowKit.Below.heap_setCell _ _ _ _ hne0) (by simp [World.setCell]))
 have hIN2:Hid (Sl Enc.int (w1.setCell ⟨g,29,none⟩ (.int .i64 ((σ.acts:Int)+1))) (fun b=>b<(w1.setCell ⟨g,29,none⟩ (.int .i64 ((σ.acts:Int)+1))).heap.size∧c b=0) inp (.slice Ai inp.length ci)):=(hIN1.out.keep (w':=w1.setCell ⟨g,29,none⟩ (.int .i64 ((σ.acts:Int)+1))) fun p hp=>World.cell?_of_block (RowKit.Below.heap_setCell _ _ _ _ (fun e=>hcg (by have e2:p.block=g:=e;rw [← e2];exact hp.2)))).more fun q hq=>⟨by have:=hq.1;omega,hq.2⟩
 have e0:=B2.out.at 0 rfl
 have e1:=B2.out.at 1 rfl
 have e2:=B2.out.at 2 rfl
 have e3:=B2.out.at 3 rfl
 have e4:=B2.out.at 4 rfl
 have HE0:Hid (doV σ ⟨7,m,name,text,inp⟩=if jcp (jbj σ) m then ja8 (jbj σ) m.toNat ⟨7,m,name,text,inp⟩ else (jbj σ,jb8 3)):=by show _=_;unfold doV;rw [if_neg hfull];rfl
 generalize doV σ ⟨7,m,name,text,inp⟩=PV at *
 go_enter Tryz.func15,Tryz.ntmps15
 go_wp2_with fail
 clear hw0 hw1 k0 k1 k2 k3 k4 q29 z29
 generalize w1.setCell ⟨g,29,none⟩ (.int .i64 ((σ.acts:Int)+1))=w2 at *
 obtain ⟨vs2,hst2⟩:=H2.out
 have H3:=Lib.hid hst2
 clear hst2 H2
 refine (jgh (jbj σ) c g vs2 vl _ H3.out m).mono ?_
 rintro e w3 ⟨rfl,hw3⟩
 replace hw3:=hw3.symm
 subst hw3
 cases hop:jcp (jbj σ) m
 ·have HE:Hid (PV=(jbj σ,jb8 3)):=by show _=_;rw [HE0.out,hop];rfl
  clear hop HE0
  have r0:=C2.out.at 0 rfl
  have r1:=C2.out.at 1 rfl
  have r2:=C2.out.at 2 rfl
  have r3:=C2.out.at 3 rfl
  have r4:=C2.out.at 4 rfl
  have f0:=C2.out.2.2 0 (by simp)
  have f1:=C2.out.2.2 1 (by simp)
  have f2:=C2.out.2.2 2 (by simp)
  have f3:=C2.out.2.2 3 (by simp)
  have f4:=C2.out.2.2 4 (by simp)
  go_wp2
  (try simp only [Exit.inBlock,Exit.then])
  refine bodyPost_ret (jaz (b:=w.heap.size+1) rfl rfl (jbs C2.out _ _ _ _ _)) rfl ?_
  rw [HE.out]
  exact jam.wrote H3.out (fun _ _=>rfl) (by omega) hc1 hF2.out (jb0.plain 3 0 _)
 ·obtain ⟨h0,h4,-⟩:=jd9.1 hop
  have HE:Hid (PV=ja8 (jbj σ) m.toNat ⟨7,m,name,text,inp⟩):=by show _=_;rw [HE0.out,hop];rfl
  have HI:=HID.out
  rw [HE.out] at HI
  obtain ⟨k,rfl⟩:∃ k:Nat,m=k:=⟨m.toNat,by omega⟩
  rw [Int.toNat_natCast] at HI HE
  have HI2:=Lib.hid HI
  have hk4:k<4:=by omega
  clear hop HE0 HI HID
  have H3d:=Lib.hid H3.out.drewS
  have HV2d:=Lib.hid HV2.out.drewS
  have hF2d:=Lib.hid hF2.out.drew
  have C2d:=Lib.hid C2.out.drew
  have hA2d:Hid (jgy w2.drew (fun b=>b<w2.drew.heap.size∧c b=0) ⟨7,k,name,text,inp⟩ (.agg #[.int .i64 7,.int .i64 k,.string name,.string text,.slice Ai inp.length ci])):=⟨_,rfl,hIN2.out.keep (w':=w2.drew) fun _ _=>rfl⟩
  have d0:w2.drew.cell? ⟨w.heap.size,0,none⟩=_:=e0
  have d1:w2.drew.cell? ⟨w.heap.size,1,none⟩=_:=e1
  have d2:w2.drew.cell? ⟨w.heap.size,2,none⟩=_:=e2
  have d3:w2.drew.cell? ⟨w.heap.size,3,none⟩=_:=e3
  have d4:w2.drew.cell? ⟨w.heap.size,4,none⟩=_:=e4
  have hzd:w2.drew.heap.size=w.heap.size+2:=hz2
  have hk0:(0:Int)≤k:=by omega
  have hk4':(k:Int)<4:=by omega
  go_wp2_with fail
  go_region_law (first
   | (go_simp;go_at_call 44;refine (yl4 (jbj σ) c g k vs2 vl k name text inp _ _ H3d.out HV2d.out HVC.out hk4 hA2d.out HI2.out).mono ?_;rintro e w3 hP;rw [← HE.out] at hP;obtain ⟨A1,q1,A2,q2,rfl,hC3,hP3⟩:=hP.up hF2d.out (b0:=w.heap.size+1) (by omega) (by omega) hc1 C2d.out;have C3:=Lib.hid hC3;have HP3:=Lib.hid hP3;clear hP hC3 hP3;have r0:=C3.out.at 0 rfl;have r1:=C3.out.at 1 rfl;have r2:=C3.out.at 2 rfl;have r3:=C3.out.at 3 rfl;have r4:=C3.out.at 4 rfl;have f0:=C3.out.2.2 0 (by simp);have f1:=C3.out.2.2 1 (by simp);have f2:=C3.out.2.2 2 (by simp);have f3:=C3.out.2.2 3 (by simp);have f4:=C3.out.2.2 4 (by simp)))
  all_goals
   go_wp2
   (try simp only [Exit.inBlock,Exit.then])
   exact bodyPost_ret (jaz (b:=w.heap.size+1) rfl rfl (jbs C3.out _ _ _ _ _)) rfl HP3.out
open Go.RowKit Go.Shelf
theorem ypx (σ:StoreD) (c:Nat→Nat) (g:Nat) (vs:List Value) (vl:Value) (a:ActD) (va:Value) (w:World) (h:StoreC w c g σ vs vl) (hv:VarsOk w) (hvc:jc0 c) (ha:jgy w (fun b=>b<w.heap.size∧c b=0) a va)
  (hs1:a.name.size≤140737488355328) (hs2:a.text.size≤140737488355328) :
  Calls Tryz.prog 15 #[.pointer (some ⟨g,0,none⟩),va] w (jam w c g (doV σ a)):=by
 by_cases hr:200 ≤ σ.acts∨¬ (2≤a.kind∧a.kind≤7)
 ·exact yq9 σ c g vs vl a va w h hv hvc ha hr
 ·have hfull:¬ 200 ≤ σ.acts:=fun e=>hr (.inl e)
  have hk:2≤a.kind∧a.kind≤7:=by
   by_cases e:2≤a.kind∧a.kind≤7
   ·exact e
   ·exact absurd (.inr e) hr
  obtain ⟨kind,m,name,text,inp⟩:=a
  simp only at hs1 hs2 hk
  rcases (show kind=2∨kind=3∨kind=4∨kind=5∨kind=6∨kind=7 by omega) with rfl | rfl | rfl | rfl | rfl | rfl
  ·exact do_2 σ c g vs vl m name text inp va w h hv hvc ha hs2 hfull
  ·exact do_3 σ c g vs vl m name text inp va w h hv hvc ha hs1 hfull
  ·exact do_4 σ c g vs vl m name text inp va w h hv hvc ha hs1 hfull
  ·exact do_5 σ c g vs vl m name text inp va w h hv hvc ha hfull
  ·exact do_6 σ c g vs vl m name text inp va w h hv hvc ha hfull
  ·exact do_7 σ c g vs vl m name text inp va w h hv hvc ha hfull
open Go.RowKit Go.Shelf
theorem Fr.toBelow {c:Nat→Nat} {w w1 w':World} (h:Fr c w1 w') (hb:Below w.heap.size w w1) (hc:∀ b,b<w.heap.size→c b=0):Below w.heap.size w w' :=
 ⟨h.os.trans hb.os,h.tape.trans hb.tape,h.output.trans hb.output,Nat.le_trans hb.size h.size,fun k hk=>(h.block k (Nat.lt_of_lt_of_le hk hb.size) (hc k hk)).trans (hb.block k hk)⟩
theorem yqe {g b:Nat} (h:b<g):c1 g b=0:=by unfold c1;rw [if_neg (by omega)]
theorem jc0.new {w:World} (hv:VarsOk w) {c:Nat→Nat} (hc:∀ b,b<w.heap.size→c b=0):jc0 c:=fun nm hn k hk=>hc k (hv.above nm hn k hk)
structure Mine (w w':World) (g:Nat) (σ:StoreD) (c:Nat→Nat) (vs:List Value) (vl:Value):Prop where
 st:StoreC w' c g σ vs vl
 old:∀ b,b<w.heap.size→c b=0
 below:Below w.heap.size w w'
section
variable {w w1 w2:World} {g:Nat} {σ:StoreD} {c:Nat→Nat} {vs:List Value} {vl:Value}
theorem Mine.next (h:Mine w w1 g σ c vs vl) (hb:Below w1.heap.size w1 w2):Mine w w2 g σ c vs vl:=⟨h.st.next hb,h.old,bx h.below hb⟩
theorem Mine.vars (h:Mine w w1 g σ c vs vl) (hv:VarsOk w):VarsOk w1∧jc0 c:=⟨hv.next h.below,jc0.new hv h.old⟩
theorem Mine.new (w0 w:World) (e:Nat) (hb:Below w0.heap.size w0 w):Mine w0 (w.alloc (.cells new0.toArray e)) w.heap.size newV (c1 w.heap.size) new0 (.slice none 0 0) :=
 ⟨StoreC.new w e,fun _ h=>yqe (Nat.lt_of_lt_of_le h hb.size),bx hb (jac w _)⟩
theorem Mine.did {R:StoreD × ReplyD} {e:Ending} (h:Mine w w1 g σ c vs vl) (hP:jam w1 c g R e w2) :
  ∃ A1 k1 A2 k2 c' vs' vl',e = .returned (.agg #[.int .i64 R.2.code,.int .i64 R.2.n,.string R.2.text,.slice A1 R.2.answers.length k1,.slice A2 R.2.at_.length k2])∧Mine w w2 g R.1 c' vs' vl'∧Fr c w1 w2∧(∀ b,b<w1.heap.size→c' b=c b) ∧
   Sl Enc.ans w2 (fun b=>w1.heap.size≤b∧b<w2.heap.size∧c' b=0) R.2.answers (.slice A1 R.2.answers.length k1)∧Sl Enc.int w2 (fun b=>w1.heap.size≤b∧b<w2.heap.size∧c' b=0) R.2.at_ (.slice A2 R.2.at_.length k2):=by
 obtain ⟨c',v,rfl,⟨vs',vl',hst⟩,hold,hfr,va,vt,rfl,ha,ht⟩:=hP
 have ha':=ha
 have ht':=ht
 obtain ⟨A1,k1,rfl,-,-⟩:=ha.form
 obtain ⟨A2,k2,rfl,-,-⟩:=ht.form
 exact ⟨A1,k1,A2,k2,c',vs',vl',rfl,⟨hst,fun b hb=>(hold b (Nat.lt_of_lt_of_le hb h.below.size)).trans (h.old b hb),hfr.toBelow h.below h.old⟩,hfr,hold,ha',ht'⟩
theorem Mine.do_ (h:Mine w w1 g σ c vs vl) (hv:VarsOk w) (a:ActD) (va:Value) (ha:jgy w1 (fun b=>b<w1.heap.size∧c b=0) a va) (hs1:a.name.size≤140737488355328) (hs2:a.text.size≤140737488355328) :
  Calls Tryz.prog 15 #[.pointer (some ⟨g,0,none⟩),va] w1 (jam w1 c g (doV σ a)) :=
 ypx σ c g vs vl a va w1 h.st (h.vars hv).1 (h.vars hv).2 ha hs1 hs2
end
theorem jn6 (w:World) (hv:VarsOk w) :
  Calls Tryz.prog 35 #[] w fun e w'=>e = .returned (.bool true)∧Below w.heap.size w w':=by
 have HV:=Lib.hid hv
 clear hv
 go_enter Tryz.func35,Tryz.ntmps35
 go_wp2_with fail
 refine (jn3 _).mono ?_
 rintro e w1 ⟨rfl,hw1⟩
 have M1:Hid (Mine w w1 w.heap.size newV (c1 w.heap.size) new0 (.slice none 0 0)):=by rw [hw1];exact Mine.new w w _ (Below.refl _ _)
 clear hw1
 go_wp2_with fail
 refine (M1.out.do_ HV.out jsy _ ⟨_,rfl,Sl.nil⟩ (by decide) (by decide)).mono ?_
 rintro e w2 hP
 obtain ⟨A1,k1,A2,k2,d1,vs1,vl1,rfl,m2,-,-,-,-⟩:=M1.out.did hP
 have M2:=Lib.hid m2
 clear hP m2 M1
 have HR1:Hid ((doV newV jsy).2.code=0):=by show _=_;rw [ygg];rfl
 rw [HR1.out]
 generalize (doV newV jsy).2=R1 at *
 have hb2:=jac w2 (.cells #[.int .i64 0,.int .i64 R1.n,.string R1.text,.slice A1 R1.answers.length k1,.slice A2 R1.at_.length k2] 30)
 have C2:=Lib.hid (Cs.new w2 [.int .i64 0,.int .i64 R1.n,.string R1.text,.slice A1 R1.answers.length k1,.slice A2 R1.at_.length k2] 30)
 change Hid (Cs (w2.alloc (.cells #[.int .i64 0,.int .i64 R1.n,.string R1.text,.slice A1 R1.answers.length k1,.slice A2 R1.at_.length k2] 30)) _ _) at C2
 have M3:=Lib.hid (M2.out.next hb2)
 go_wp2_with fail
 generalize w2.alloc (.cells #[.int .i64 0,.int .i64 R1.n,.string R1.text,.slice A1 R1.answers.length k1,.slice A2 R1.at_.length k2] 30)=w3 at *
 have hlt2:w2.heap.size<w3.heap.size:=C2.out.1
 refine (M3.out.do_ HV.out jzc _ ⟨_,rfl,Sl.nil⟩ (by decide) (by decide)).mono ?_
 rintro e w4 hP
 obtain ⟨B1,l1,B2,l2,d2,vs2,vl2,rfl,m4,hF4,hold4,-,-⟩:=M3.out.did hP
 have M4:=Lib.hid m4
 have hc2:d1 w2.heap.size=0:=jb1 M2.out.st.lt (Nat.le_refl _)
 have C4:=Lib.hid (C2.out.keep (w':=w4) (hF4.block _ hlt2 hc2) hF4.size)
 have hc2':d2 w2.heap.size=0:=(hold4 _ hlt2).trans hc2
 clear hP m4 M3 hF4 hold4
 rw [yi8]
 have HR2:Hid ((doV (doV (doV newV jsy).1 jzc).1 jk2).2.code=0∧(doV (doV (doV newV jsy).1 jzc).1 jk2).2.n=1∧(doV (doV (doV newV jsy).1 jzc).1 jk2).1.later.length=1):=jz5
 generalize hS2:doV (doV newV jsy).1 jzc=S2 at *
 have hb4:=jac w4 (.cells #[.int .i64 0,.int .i64 S2.2.n,.string S2.2.text,.slice B1 S2.2.answers.length l1,.slice B2 S2.2.at_.length l2] 30)
 have D4:=Lib.hid (Cs.new w4 [.int .i64 0,.int .i64 S2.2.n,.string S2.2.text,.slice B1 S2.2.answers.length l1,.slice B2 S2.2.at_.length l2] 30)
 change Hid (Cs (w4.alloc (.cells #[.int .i64 0,.int .i64 S2.2.n,.string S2.2.text,.slice B1 S2.2.answers.length l1,.slice B2 S2.2.at_.length l2] 30)) _ _) at D4
 have M5:=Lib.hid (M4.out.next hb4)
 have C5:=Lib.hid (C4.out.next hb4)
 go_wp2_with fail
 generalize w4.alloc (.cells #[.int .i64 0,.int .i64 S2.2.n,.string S2.2.text,.slice B1 S2.2.answers.length l1,.slice B2 S2.2.at_.length l2] 30)=w5 at *
 have hlt4:w4.heap.size<w5.heap.size:=D4.out.1
 refine (M5.out.do_ HV.out jk2 _ ⟨_,rfl,Sl.nil⟩ (by decide) (by decide)).mono ?_
 rintro e w6 hP
 obtain ⟨E1,r1,E2,r2,d3,vs3,vl3,rfl,m6,hF6,hold6,-,-⟩:=M5.out.did hP
 have M6:=Lib.hid m6
 have hc4:d2 w4.heap.size=0:=jb1 M4.out.st.lt (Nat.le_refl _)
 have C6:=Lib.hid (C5.out.keep (w':=w6) (hF6.block _ C5.out.1 hc2') hF6.size)
 have D6:=Lib.hid (D4.out.keep (w':=w6) (hF6.block _ hlt4 hc4) hF6.size)
 clear hP m6 M5 hF6 hold6
 obtain ⟨h1,h2,h3⟩:=HR2.out
 generalize hS3:doV S2.1 jk2=S3 at *
 rw [h1,h2]
 have H3:=Lib.hid h3
 clear h1 h2 h3 HR2
 have hb6:=jac w6 (.cells #[.int .i64 0,.int .i64 1,.string S3.2.text,.slice E1 S3.2.answers.length r1,.slice E2 S3.2.at_.length r2] 30)
 have E6:=Lib.hid (Cs.new w6 [.int .i64 0,.int .i64 1,.string S3.2.text,.slice E1 S3.2.answers.length r1,.slice E2 S3.2.at_.length r2] 30)
 change Hid (Cs (w6.alloc (.cells #[.int .i64 0,.int .i64 1,.string S3.2.text,.slice E1 S3.2.answers.length r1,.slice E2 S3.2.at_.length r2] 30)) _ _) at E6
 have M7:=Lib.hid (M6.out.next hb6)
 have C7:=Lib.hid (C6.out.next hb6)
 have D7:=Lib.hid (D6.out.next hb6)
 have p0:=C7.out.at 0 rfl
 have p1:=D7.out.at 0 rfl
 have p2:=E6.out.at 0 rfl
 have p3:=E6.out.at 1 rfl
 go_wp2_with fail
 generalize w6.alloc (.cells #[.int .i64 0,.int .i64 1,.string S3.2.text,.slice E1 S3.2.answers.length r1,.slice E2 S3.2.at_.length r2] 30)=w7 at *
 clear p0 p1 p2 p3
 refine (jhq S3.1 d3 w.heap.size vs3 vl3 _ M7.out.st).mono ?_
 rintro e w8 ⟨v8,rfl,hs8,hb8⟩
 have hL:S3.1.states.length=2:=by rw [jmc];show S3.1.later.length+1=2;rw [H3.out]
 obtain ⟨A8,k8,rfl,-,-⟩:=hs8.form
 rw [hL]
 clear hs8 hL
 go_wp2
 go_ret
 exact ⟨rfl,bx M7.out.below hb8⟩
open Go.RowKit Go.Shelf
def jkz (l:List ActD) (w:World) (e:Ending) (w':World):Prop:=∃ g c vs vl,e = .returned (.tuple #[.pointer (some ⟨g,0,none⟩),.bool true])∧Mine w w' g (runV newV (l.take 50)) c vs vl
theorem jkz.of {l:List ActD} {w w':World} {g:Nat} {c:Nat→Nat} {vs:List Value} {vl:Value} (h:Mine w w' g (runV newV (l.take 50)) c vs vl):jkz l w (.returned (.tuple #[.pointer (some ⟨g,0,none⟩),.bool true])) w':=⟨g,c,vs,vl,rfl,h⟩
theorem ynd (g:Nat) (a:ActD) (r:ReplyD) (Ai:Option Addr) (li ci:Nat) (A1 A2:Option Addr) (l1 k1 l2 k2:Nat) (w:World) :
  Calls Tryz.prog 20 #[.pointer (some ⟨g,0,none⟩),.agg #[.int .i64 a.kind,.int .i64 a.n,.string a.name,.string a.text,.slice Ai li ci],.agg #[.int .i64 r.code,.int .i64 r.n,.string r.text,.slice A1 l1 k1,.slice A2 l2 k2]] w fun e w'=>e = .returned (.bool true)∧Below w.heap.size w w':=by
 go_enter Tryz.func20,Tryz.ntmps20
 go_wp2
 go_ret
 exact ⟨rfl,bx (jac w _) (jac _ _)⟩
theorem jj2 (l:List ActD) (v:Value) (w:World) (hl:Sl Enc.act w (Old w) l v) (hsz:∀ a∈l,a.name.size≤140737488355328∧a.text.size≤140737488355328) (hv:VarsOk w) :
  Calls Tryz.prog 19 #[v,.func (.func 20) #[] #[]] w (jkz l w):=by
 have HV:=Lib.hid hv
 have HL:=Lib.hid hl
 have HSZ:=Lib.hid hsz
 obtain ⟨A,cp,rfl,hc1,hc2,-⟩:=hl
 unfold maxLen at hc2
 have eg:∀ args w,(callFunc 20 args).run Tryz.prog w = .ok (.enter 20 args) w:=enters_of Tryz.func20 (by kernel_rfl) rfl
 clear hv hsz
 go_enter Tryz.func19,Tryz.ntmps19
 go_wp2_with fail
 refine (jn6 _ HV.out).mono ?_
 rintro e w1 ⟨rfl,hb1⟩
 go_wp2_with fail
 refine (jn3 _).mono ?_
 rintro e w2 ⟨rfl,hw2⟩
 have M2:Hid (Mine w w2 w1.heap.size newV (c1 w1.heap.size) new0 (.slice none 0 0)):=by rw [hw2];exact Mine.new w w1 _ hb1
 clear hw2
 go_wp2
 go_loopw [7] (fun i wr=>∃ (k:Nat) (c:Nat→Nat) (vs:List Value) (vl:Value),k≤l.length∧k≤50∧i = .int .i64 k∧Hid (Mine w wr w1.heap.size (runV newV (l.take k)) c vs vl)) (fun i _=>l.length-(intOf i).toNat)
 case atStart=>exact ⟨0,_,_,_,Nat.zero_le _,Nat.zero_le _,rfl,M2⟩
 case round =>
  clear M2
  obtain ⟨k,c,vs,vl,hk,hk5,rfl,M⟩:=hrel
  by_cases hlt:k<l.length
  ·by_cases h50:k<50
   ·have hi1:(k:Int)<l.length:=by omega
    have hi2:(k:Int)<50:=by omega
    have hi0:(0:Int)≤k:=by omega
    have hbr:=M.out.below
    have hsr:=hbr.size
    have HLr:=Lib.hid (HL.out.onOld hbr)
    obtain ⟨b,o,x,vi,rfl,hSb,hx,a0,a1,a2,a3,a4,hin⟩:=(HL.out.keep (w':=wr) (fun p hp=>hbr.cell hp)).act_at hlt
    have hbw:b<w.heap.size:=hSb
    have HIN:=Lib.hid hin
    obtain ⟨Ai,ci,rfl,-,-⟩:=hin.form
    have hsx:=HSZ.out x (List.mem_of_getElem? hx.out)
    have HT:Hid (runV newV (l.take (k+1))=(doV (runV newV (l.take k)) x).1):=jtk newV hx.out
    clear hin hSb
    have HA:Hid (jgy wr (fun b=>b<wr.heap.size∧c b=0) x (.agg #[.int .i64 x.kind,.int .i64 x.n,.string x.name,.string x.text,.slice Ai x.inp.length ci])):=⟨_,rfl,HIN.out.more fun q hq=>⟨Nat.lt_of_lt_of_le hq hsr,M.out.old q hq⟩⟩
    generalize hRT:runV newV (l.take k)=RT at *
    go_wp2_with fail
    refine (M.out.do_ HV.out x _ HA.out hsx.1 hsx.2).mono ?_
    rintro e w3 hP
    obtain ⟨A1,k1,A2,k2,c3,vs3,vl3,rfl,m3,-,-,-,-⟩:=M.out.did hP
    have M3:=Lib.hid m3
    clear hP m3
    rw [← HT.out] at M3
    generalize (doV RT x).2=R at *
    have hb3:=jac w3 (.cells #[.int .i64 R.code,.int .i64 R.n,.string R.text,.slice A1 R.answers.length k1,.slice A2 R.at_.length k2] 30)
    have C3:=Lib.hid (Cs.new w3 [.int .i64 R.code,.int .i64 R.n,.string R.text,.slice A1 R.answers.length k1,.slice A2 R.at_.length k2] 30)
    change Hid (Cs (w3.alloc (.cells #[.int .i64 R.code,.int .i64 R.n,.string R.text,.slice A1 R.answers.length k1,.slice A2 R.at_.length k2] 30)) _ _) at C3
    have M4:=Lib.hid (M3.out.next hb3)
    have hbr4:Below w.heap.size w (w3.alloc (.cells #[.int .i64 R.code,.int .i64 R.n,.string R.text,.slice A1 R.answers.length k1,.slice A2 R.at_.length k2] 30)):=M4.out.below
    have HB:Hid (∀ j,(w3.alloc (.cells #[.int .i64 R.code,.int .i64 R.n,.string R.text,.slice A1 R.answers.length k1,.slice A2 R.at_.length k2] 30)).cell? ⟨b,j,none⟩=wr.cell? ⟨b,j,none⟩):=fun j=>(hbr4.cell (p:=⟨b,j,none⟩) hbw).trans (hbr.cell (p:=⟨b,j,none⟩) hbw).symm
    have b0:=(HB.out _).trans a0
    have b1:=(HB.out _).trans a1
    have b2:=(HB.out _).trans a2
    have b3:=(HB.out _).trans a3
    have b4:=(HB.out _).trans a4
    have q0:=C3.out.at 0 rfl
    have q1:=C3.out.at 1 rfl
    have q2:=C3.out.at 2 rfl
    have q3:=C3.out.at 3 rfl
    have q4:=C3.out.at 4 rfl
    go_wp2_with fail
    generalize w3.alloc (.cells #[.int .i64 R.code,.int .i64 R.n,.string R.text,.slice A1 R.answers.length k1,.slice A2 R.at_.length k2] 30)=w4 at *
    have d0:w4.drew.cell? ⟨b,o+k*5,none⟩=_:=b0
    have d1:w4.drew.cell? ⟨b,o+k*5+1,none⟩=_:=b1
    have d2:w4.drew.cell? ⟨b,o+k*5+2,none⟩=_:=b2
    have d3:w4.drew.cell? ⟨b,o+k*5+3,none⟩=_:=b3
    have d4:w4.drew.cell? ⟨b,o+k*5+4,none⟩=_:=b4
    have p0:w4.drew.cell? ⟨w3.heap.size,0,none⟩=_:=q0
    have p1:w4.drew.cell? ⟨w3.heap.size,1,none⟩=_:=q1
    have p2:w4.drew.cell? ⟨w3.heap.size,2,none⟩=_:=q2
    have p3:w4.drew.cell? ⟨w3.heap.size,3,none⟩=_:=q3
    have p4:w4.drew.cell? ⟨w3.heap.size,4,none⟩=_:=q4
    go_region_law (first
     | (go_simp;go_at_call 20;refine (ynd w1.heap.size x R Ai x.inp.length ci A1 A2 R.answers.length k1 R.at_.length k2 _).mono ?_;rintro e w5 ⟨rfl,hb5'⟩;have hb5:Below w4.heap.size w4 w5:=jcw hb5';clear hb5'))
    all_goals
     go_wp2
     exact ⟨⟨k+1,c3,vs3,vl3,by omega,by omega,by go_num,M4.out.next hb5⟩,by simp [intOf];omega⟩
   ·have h50':¬ (k:Int)<50:=by omega
    have hi1:(k:Int)<l.length:=by omega
    obtain rfl:k=50:=by omega
    go_wp2
    go_ret2
    exact jkz.of M.out
  ·have hlt':¬ (k:Int)<l.length:=by omega
   have e1:l.take k=l:=List.take_of_length_le (by omega)
   have e2:l.take 50=l:=List.take_of_length_le (by omega)
   rw [e1] at M
   have M':Hid (Mine w wr w1.heap.size (runV newV (l.take 50)) c vs vl):=by rw [e2];exact M
   clear e1 e2
   go_wp2
   go_ret2
   exact jkz.of M'.out
open Go.RowKit Go.Shelf
theorem Sl.int_atT {w:World} {S:Nat→Prop} {l:List Int} {A:Option Addr} {n c:Nat} (h:Sl Enc.int w S l (.slice A n c)) {k:Nat} (hk:k<l.length) :
  ∃ b o x,A=some ⟨b,o,none⟩∧S b∧Hid (l[k]? = some x)∧w.cell? ⟨b,o+k,none⟩=some (.int .i64 x):=by
 obtain ⟨A,c,e,h2,h3,_,h4⟩:=h
 injection e with e1 e2 e3
 subst e1 e2 e3
 obtain ⟨b,o,rfl,h6,h7⟩:=h4 (by omega)
 obtain ⟨cs,h8,h9⟩:=h7 k l[k] (List.getElem?_eq_getElem hk)
 have h8':cs = [.int .i64 l[k]]:=h8
 subst h8'
 refine ⟨b,o,l[k],rfl,h6,List.getElem?_eq_getElem hk,?_⟩
 have:=h9 0 _ rfl
 have es:Enc.int.size=1:=rfl
 rw [es,Nat.mul_one,Nat.add_zero] at this
 exact this
theorem jku (s:ByteArray):(s != s)=false:=by cases s with | mk d=>show (!(d == d))=false;simp
theorem jq3 (a:List ByteArray) (va vb:Value) (w:World) (ha:Sl Enc.str w (Old w) a va) (hb:Sl Enc.str w (Old w) a vb) :
  Calls Tryz.prog 67 #[va,vb] w fun e w'=>e = .returned (.bool true)∧Below w.heap.size w w':=by
 have HA:=Lib.hid ha
 have HB:=Lib.hid hb
 obtain ⟨A,c,rfl,hc1,hc2,-⟩:=ha
 obtain ⟨B,d,rfl,hd1,hd2,-⟩:=hb
 unfold maxLen at hc2 hd2
 have hne:((a.length:Int) != (a.length:Int))=false:=by simp
 go_enter Tryz.func67,Tryz.ntmps67
 go_wp2
 go_loopw [13] (fun i wr=>∃ k:Nat,k≤a.length∧i = .int .i64 k∧Below w.heap.size w wr) (fun i _=>a.length-(intOf i).toNat)
 case atStart=>exact ⟨0,Nat.zero_le _,rfl,Below.refl _ _⟩
 case round =>
  obtain ⟨k,hk,rfl,hbl⟩:=hrel
  by_cases hka:k<a.length
  ·obtain ⟨ba,oa,s,rfl,_,hx,a1⟩:=(HA.out.onOld hbl).str_at hka
   obtain ⟨bb,ob,s',rfl,_,hy,b1⟩:=(HB.out.onOld hbl).str_at hka
   obtain rfl:s'=s:=Option.some.inj (hy.out.symm.trans hx.out)
   have h1:(k:Int)<a.length:=by omega
   have h3:(0:Int)≤k:=by omega
   have n1:=jku s'
   go_wp2_with fail
   go_quiet (fail)
   go_wp2
   exact ⟨⟨k+1,by omega,by go_num,below_drewN hbl _⟩,by simp [intOf];omega⟩
  ·go_wp2
   go_ret
   exact ⟨rfl,hbl⟩
theorem jq2 (r:ReplyD) (va vb:Value) (w:World) (ha:jb0 w (Old w) r va) (hb':jb0 w (Old w) r vb) :
  Calls Tryz.prog 37 #[va,vb] w fun e w'=>e = .returned (.bool true)∧Below w.heap.size w w':=by
 obtain ⟨code,n,text,answers,at_⟩:=r
 obtain ⟨xa,xt,rfl,h1,h2⟩:=ha
 obtain ⟨ya,yt,rfl,g1,g2⟩:=hb'
 simp only at h1 h2 g1 g2
 have HA:=Lib.hid h1
 have HT:=Lib.hid h2
 have GA:=Lib.hid g1
 have GT:=Lib.hid g2
 obtain ⟨A,c,rfl,hc1,hc2,-⟩:=h1
 obtain ⟨B,d,rfl,hd1,hd2,-⟩:=h2
 obtain ⟨A',c',rfl,hc1',hc2',-⟩:=g1
 obtain ⟨B',d',rfl,hd1',hd2',-⟩:=g2
 unfold maxLen at hc2 hd2 hc2' hd2'
 have hb0:=jac w (.cells #[.int .i64 code,.int .i64 n,.string text,.slice A answers.length c,.slice B at_.length d] 30)
 have C0:=Lib.hid (Cs.new w [.int .i64 code,.int .i64 n,.string text,.slice A answers.length c,.slice B at_.length d] 30)
 have hz0:(w.alloc (.cells #[.int .i64 code,.int .i64 n,.string text,.slice A answers.length c,.slice B at_.length d] 30)).heap.size=w.heap.size+1:=by simp
 change Hid (Cs (w.alloc (.cells #[.int .i64 code,.int .i64 n,.string text,.slice A answers.length c,.slice B at_.length d] 30)) _ _) at C0
 generalize hw0:w.alloc (.cells #[.int .i64 code,.int .i64 n,.string text,.slice A answers.length c,.slice B at_.length d] 30)=w0 at *
 have hb1:=jac w0 (.cells #[.int .i64 code,.int .i64 n,.string text,.slice A' answers.length c',.slice B' at_.length d'] 30)
 have C1:=Lib.hid (Cs.new w0 [.int .i64 code,.int .i64 n,.string text,.slice A' answers.length c',.slice B' at_.length d'] 30)
 change Hid (Cs (w0.alloc (.cells #[.int .i64 code,.int .i64 n,.string text,.slice A' answers.length c',.slice B' at_.length d'] 30)) _ _) at C1
 rw [hz0] at C1
 have C01:=Lib.hid (C0.out.next hb1)
 have hb01:=bx hb0 hb1
 generalize hw1:w0.alloc (.cells #[.int .i64 code,.int .i64 n,.string text,.slice A' answers.length c',.slice B' at_.length d'] 30)=w1 at *
 have k0:=C01.out.at 0 rfl
 have k1:=C01.out.at 1 rfl
 have k2:=C01.out.at 2 rfl
 have k3:=C01.out.at 3 rfl
 have k4:=C01.out.at 4 rfl
 have l0:=C1.out.at 0 rfl
 have l1:=C1.out.at 1 rfl
 have l2:=C1.out.at 2 rfl
 have l3:=C1.out.at 3 rfl
 have l4:=C1.out.at 4 rfl
 have n1:(code != code)=false:=by simp
 have n2:(n != n)=false:=by simp
 have n3:=jku text
 have n4:((answers.length:Int) != (answers.length:Int))=false:=by simp
 have n5:((at_.length:Int) != (at_.length:Int))=false:=by simp
 go_enter Tryz.func37,Tryz.ntmps37
 go_wp2
 go_loopw [47] (fun i wr=>∃ k:Nat,k≤answers.length∧i = .int .i64 k∧Below w1.heap.size w1 wr) (fun i _=>answers.length-(intOf i).toNat)
 case atStart=>exact ⟨0,Nat.zero_le _,rfl,Below.refl _ _⟩
 case round =>
  clear hw0 hw1 k0 k1 k2 k3 k4 l0 l1 l2 l3 l4 hb0 hb1 C0
  obtain ⟨k,hk,rfl,hbl⟩:=hrel
  have hb:=bx hb01 hbl
  have CA:=Lib.hid (C01.out.next hbl)
  have CB:=Lib.hid (C1.out.next hbl)
  have k3:=CA.out.at 3 rfl
  have k4:=CA.out.at 4 rfl
  have l3:=CB.out.at 3 rfl
  have l4:=CB.out.at 4 rfl
  by_cases hlt:k<answers.length
  ·obtain ⟨b1,o1,nm,f,m,rfl,_,hx,c1,c2,c3⟩:=(HA.out.onOld hb).ans_at hlt
   obtain ⟨b2,o2,nm',f',m',rfl,_,hx',e1,e2,e3⟩:=(GA.out.onOld hb).ans_at hlt
   obtain ⟨rfl,rfl,rfl⟩:nm'=nm∧f'=f∧m'=m:=by
    have e:=hx.out.symm.trans hx'.out
    injection e with e
    injection e with e1 e2
    injection e2 with e2 e3
    exact ⟨e1.symm,e2.symm,e3.symm⟩
   have hk0:(0:Int)≤k:=by omega
   have hk1:(k:Int)<answers.length:=by omega
   have m1:=jku nm'
   have m2:(f' != f')=false:=by simp
   have m3:(m' != m')=false:=by simp
   go_wp2_with fail
   go_quiet (fail)
   go_wp2
   exact ⟨⟨k+1,by omega,by go_num,below_drewN hbl _⟩,by simp [intOf];omega⟩
  ·go_wp2
   go_loopw [65] (fun i w2=>∃ k:Nat,k≤at_.length∧i = .int .i64 k∧Below w1.heap.size w1 w2) (fun i _=>at_.length-(intOf i).toNat)
   case atStart=>exact ⟨0,Nat.zero_le _,rfl,hbl⟩
   case round =>
    clear k3 k4 l3 l4 hb hbl CA CB
    rename World=>w2
    obtain ⟨k,hk,rfl,hbl⟩:=hrel
    have hb:=bx hb01 hbl
    have CA:=Lib.hid (C01.out.next hbl)
    have CB:=Lib.hid (C1.out.next hbl)
    have k4:=CA.out.at 4 rfl
    have l4:=CB.out.at 4 rfl
    by_cases hlt:k<at_.length
    ·obtain ⟨b1,o1,x,rfl,_,hx,c1⟩:=(HT.out.onOld hb).int_atT hlt
     obtain ⟨b2,o2,x',rfl,_,hx',e1⟩:=(GT.out.onOld hb).int_atT hlt
     obtain rfl:x'=x:=Option.some.inj (hx'.out.symm.trans hx.out)
     have hk0:(0:Int)≤k:=by omega
     have hk1:(k:Int)<at_.length:=by omega
     have m1:(x' != x')=false:=by simp
     go_wp2_with fail
     go_quiet (fail)
     go_wp2
     exact ⟨⟨k+1,by omega,by go_num,below_drewN hbl _⟩,by simp [intOf];omega⟩
    ·go_wp2
     go_ret
     exact ⟨rfl,hb⟩
theorem jar.onOldB {w w':World} {b:BookD} {v:Value} (h:jar w (Old w) b v) (hb:Below w.heap.size w w'):jar w' (Old w') b v:=(h.keepS (fun q hq=>hb.block q hq)).moreS (fun _ hq=>Nat.lt_of_lt_of_le hq hb.size)
theorem jsr (b:BookD) (va vb:Value) (w:World) (ha:jar w (Old w) b va) (hb':jar w (Old w) b vb) (hok:jgd b) (hv:VarsOk w) :
  Calls Tryz.prog 32 #[va,vb] w fun e w'=>e = .returned (.bool true)∧Below w.heap.size w w':=by
 have HOK:=Lib.hid hok
 have HV:=Lib.hid hv
 have HBA:=Lib.hid ha
 have HBB:=Lib.hid hb'
 clear hok hv
 obtain ⟨vd,vt,rfl,h1,h2⟩:=ha
 obtain ⟨ud,ut,rfl,g1,g2⟩:=hb'
 have HD:=Lib.hid h1
 have HT:=Lib.hid h2
 have GD:=Lib.hid g1
 have GT:=Lib.hid g2
 obtain ⟨A,c,rfl,hc1,hc2,-⟩:=h1
 obtain ⟨B,d,rfl,hd1,hd2,-⟩:=h2
 obtain ⟨A',c',rfl,hc1',hc2',-⟩:=g1
 obtain ⟨B',d',rfl,hd1',hd2',-⟩:=g2
 unfold maxLen at hc2 hd2 hc2' hd2'
 have hb0:=jac w (.cells #[.slice A b.doms.length c,.slice B b.tabs.length d] 38)
 have C0:=Lib.hid (Cs.new w [.slice A b.doms.length c,.slice B b.tabs.length d] 38)
 have hz0:(w.alloc (.cells #[.slice A b.doms.length c,.slice B b.tabs.length d] 38)).heap.size=w.heap.size+1:=by simp
 change Hid (Cs (w.alloc (.cells #[.slice A b.doms.length c,.slice B b.tabs.length d] 38)) _ _) at C0
 generalize hw0:w.alloc (.cells #[.slice A b.doms.length c,.slice B b.tabs.length d] 38)=w0 at *
 have hb1:=jac w0 (.cells #[.slice A' b.doms.length c',.slice B' b.tabs.length d'] 38)
 have C1:=Lib.hid (Cs.new w0 [.slice A' b.doms.length c',.slice B' b.tabs.length d'] 38)
 change Hid (Cs (w0.alloc (.cells #[.slice A' b.doms.length c',.slice B' b.tabs.length d'] 38)) _ _) at C1
 rw [hz0] at C1
 have C01:=Lib.hid (C0.out.next hb1)
 have hb01:=bx hb0 hb1
 generalize hw1:w0.alloc (.cells #[.slice A' b.doms.length c',.slice B' b.tabs.length d'] 38)=w1 at *
 have k0:=C01.out.at 0 rfl
 have k1:=C01.out.at 1 rfl
 have l0:=C1.out.at 0 rfl
 have l1:=C1.out.at 1 rfl
 go_enter Tryz.func32,Tryz.ntmps32
 go_wp2
 go_loopw [26] (fun i wr=>∃ k:Nat,k≤b.doms.length∧i = .int .i64 k∧Below w1.heap.size w1 wr) (fun i _=>b.doms.length-(intOf i).toNat)
 case atStart=>exact ⟨0,Nat.zero_le _,rfl,Below.refl _ _⟩
 case round =>
  clear hw0 hw1 k0 k1 l0 l1 hb0 hb1 C0
  obtain ⟨k,hk,rfl,hbl⟩:=hrel
  have hb:=bx hb01 hbl
  have CA:=Lib.hid (C01.out.next hbl)
  have CB:=Lib.hid (C1.out.next hbl)
  have k0:=CA.out.at 0 rfl
  have k1:=CA.out.at 1 rfl
  have l0:=CB.out.at 0 rfl
  have l1:=CB.out.at 1 rfl
  by_cases hlt:k<b.doms.length
  ·obtain ⟨b1,o1,nm,lo,hi,rfl,_,hx,c1,c2,c3⟩:=(HD.out.onOld hb).dom_at hlt
   obtain ⟨b2,o2,nm',lo',hi',rfl,_,hx',e1,e2,e3⟩:=(GD.out.onOld hb).dom_at hlt
   have hxx:=hx.out.symm.trans hx'.out
   injection hxx with hxx
   injection hxx with x1 x2
   injection x2 with x2 x3
   subst x1 x2 x3
   have hk0:(0:Int)≤k:=by omega
   have hk1:(k:Int)<b.doms.length:=by omega
   go_wp2_with fail
   go_quiet (fail)
   go_wp2
   exact ⟨⟨k+1,by omega,by go_num,below_drewN hbl _⟩,by simp [intOf];omega⟩
  ·go_wp2
   go_loopw [44] (fun i w2=>∃ k:Nat,k≤b.tabs.length∧i = .int .i64 k∧Below w1.heap.size w1 w2) (fun i _=>b.tabs.length-(intOf i).toNat)
   case atStart=>exact ⟨0,Nat.zero_le _,rfl,hbl⟩
   case round =>
    clear k0 k1 l0 l1 hb hbl CA CB
    rename World=>w2
    obtain ⟨k,hk,rfl,hbl⟩:=hrel
    have hb:=bx hb01 hbl
    have CA:=Lib.hid (C01.out.next hbl)
    have CB:=Lib.hid (C1.out.next hbl)
    have k1:=CA.out.at 1 rfl
    have l1:=CB.out.at 1 rfl
    by_cases hlt:k<b.tabs.length
    ·obtain ⟨b1,o1,nm,pol,comp,ins,rules,vi,vr,rfl,_,hx,c1,c2,c3,c4,c5,hi,hr⟩:=(HT.out.onOld hb).tab_at hlt
     obtain ⟨b2,o2,nm',pol',comp',ins',rules',vi',vr',rfl,_,hx',e1,e2,e3,e4,e5,hi',hr'⟩:=(GT.out.onOld hb).tab_at hlt
     have hxx:=hx.out.symm.trans hx'.out
     injection hxx with hxx
     injection hxx with x1
     subst x1
     have hk0:(0:Int)≤k:=by omega
     have hk1:(k:Int)<b.tabs.length:=by omega
     have hl1:b1<w2.heap.size:=World.block_lt_of_cell? w2 _ c1
     have hl2:b2<w2.heap.size:=World.block_lt_of_cell? w2 _ e1
     have m1:=jku nm
     have hs2:=hb.size
     have HVr:=Lib.hid (HV.out.next hb)
     have HB1:=Lib.hid ((HBA.out.keepS (w':=w2) (fun q hq=>hb.block q hq)).moreS (S':=Old w2) (fun _ hq=>Nat.lt_of_lt_of_le hq hs2))
     have HB2:=Lib.hid ((HBB.out.keepS (w':=w2) (fun q hq=>hb.block q hq)).moreS (S':=Old w2) (fun _ hq=>Nat.lt_of_lt_of_le hq hs2))
     have k0:=CA.out.at 0 rfl
     have l0:=CB.out.at 0 rfl
     have K:Hid (∀ w3,Below w2.heap.size w2 w3→(w3.cell? ⟨w.heap.size,0,none⟩=some (.slice A b.doms.length c)∧w3.cell? ⟨w.heap.size,1,none⟩=some (.slice (some ⟨b1,o1,none⟩) b.tabs.length d)∧w3.cell? ⟨w.heap.size+1,0,none⟩=some (.slice A' b.doms.length c')∧w3.cell? ⟨w.heap.size+1,1,none⟩=some (.slice (some ⟨b2,o2,none⟩) b.tabs.length d')∧w3.cell? ⟨b1,o1+k*5,none⟩=some (.string nm)∧w3.cell? ⟨b2,o2+k*5,none⟩=some (.string nm))):=fun w3 h3=>⟨(CA.out.next h3).at 0 rfl,(CA.out.next h3).at 1 rfl,(CB.out.next h3).at 0 rfl,(CB.out.next h3).at 1 rfl,(h3.cell (p:=⟨b1,o1+k*5,none⟩) hl1).trans c1,(h3.cell (p:=⟨b2,o2+k*5,none⟩) hl2).trans e1⟩
     have E0:=K.out w2 (Below.refl _ _)
     have hsv:=Lib.hid (fun (w3:World) (h3:Below w2.heap.size w2 w3)=>HB1.out.onOldB h3)
     have hsw:=Lib.hid (fun (w3:World) (h3:Below w2.heap.size w2 w3)=>HB2.out.onOldB h3)
     have n7:=jku (bs (jb2 b nm))
     clear hx hx' c2 c3 c4 c5 e2 e3 e4 e5
     go_wp2_with fail
     go_region_held3 (fun w'=>w'.cell? ⟨w.heap.size,0,none⟩=some (.slice A b.doms.length c)∧w'.cell? ⟨w.heap.size,1,none⟩=some (.slice (some ⟨b1,o1,none⟩) b.tabs.length d)∧w'.cell? ⟨w.heap.size+1,0,none⟩=some (.slice A' b.doms.length c')∧w'.cell? ⟨w.heap.size+1,1,none⟩=some (.slice (some ⟨b2,o2,none⟩) b.tabs.length d')∧w'.cell? ⟨b1,o1+k*5,none⟩=some (.string nm)∧w'.cell? ⟨b2,o2+k*5,none⟩=some (.string nm)) (first | exact E0 | exact E3 | exact E4)
      (first
      | (have qq:=E0;clear E0;go_at_call 30;refine (jne b nm _ _ ?_ HOK.out HVr.out.drewS).mono ?_;(· first | exact hsv.out _ (Below.refl _ _).drew | exact hsw.out _ (Below.refl _ _).drew);rintro e w3 ⟨rfl,hb3'⟩;have hb3:Below w2.heap.size w2 w3:=jcw hb3';have E3:=K.out w3 hb3;clear qq hb3')
      | (have qq:=E3;clear E3;go_at_call 30;refine (jne b nm _ _ ?_ HOK.out (HVr.out.next hb3)).mono ?_;(· first | exact hsv.out _ hb3 | exact hsw.out _ hb3);rintro e w4 ⟨rfl,hb4'⟩;have hb4:Below w2.heap.size w2 w4:=bx hb3 hb4';have E4:=K.out w4 hb4;clear qq hb4'))
     all_goals
      go_wp2
      exact ⟨⟨k+1,by omega,by go_num,bx hbl hb4⟩,by simp [intOf];omega⟩
    ·go_wp2
     go_ret
     exact ⟨rfl,hb⟩
open Go.RowKit Go.Shelf
theorem jov (σ τ:StoreD) (hA:ji6 σ τ) (c c':Nat→Nat) (g g':Nat) (vs vs':List Value) (vl vl':Value) (w:World) (h:StoreC w c g σ vs vl) (h':StoreC w c' g' τ vs' vl') (hv:VarsOk w) :
  Calls Tryz.prog 34 #[.pointer (some ⟨g,0,none⟩),.pointer (some ⟨g',0,none⟩)] w fun e w'=>e = .returned (.bool true)∧Below w.heap.size w w':=by
 have HA:=Lib.hid hA
 have HH:=Lib.hid h
 have HK:=Lib.hid h'
 have HV:=Lib.hid hv
 have HI:=Lib.hid h.inv
 have hac:=h.inv.acts
 have HST:Hid (τ.states = σ.states):=hA.states.symm
 have HSN:Hid (∀ n,jce τ n=jce σ n):=fun n=>(hA.session n).symm
 clear h h' hv hA
 go_enter Tryz.func34,Tryz.ntmps34
 go_wp2_with fail
 refine (jhq σ c g vs vl _ HH.out).mono ?_
 rintro e w1 ⟨v1,rfl,hs1,hb1⟩
 have HS1:=Lib.hid hs1
 obtain ⟨A1,k1,rfl,-,-⟩:=hs1.form
 clear hs1
 go_wp2_with fail
 refine (jhq τ c' g' vs' vl' _ (HK.out.next hb1)).mono ?_
 rintro e w2 ⟨v2,rfl,hs2,hb2⟩
 rw [HST.out] at hs2
 have HS2:=Lib.hid hs2
 obtain ⟨A2,k2,rfl,-,-⟩:=hs2.form
 clear hs2
 have hb12:=bx hb1 hb2
 have hz2:=hb2.size
 have hz1:=hb1.size
 generalize hNN:σ.states.length=NN at *
 have hne:((NN:Int) != (NN:Int))=false:=by simp
 have hSL:=jmc σ
 have hl39:σ.last≤39:=HI.out.some_
 rw [hNN] at hSL
 go_wp2
 go_loopw [22] (fun i wr=>∃ k:Nat,k≤NN∧i = .int .i64 k∧Below w2.heap.size w2 wr) (fun i _=>NN-(intOf i).toNat)
 case atStart=>exact ⟨0,Nat.zero_le _,rfl,Below.refl _ _⟩
 case round =>
  obtain ⟨k,hk,rfl,hbl⟩:=hrel
  have hsl:=hbl.size
  by_cases hlt:k<NN
  ·have hi1:(k:Int)<NN:=by omega
   have hi0:(0:Int)≤k:=by omega
   obtain ⟨b,o,x,vd,vt,rfl,-,hx,a0,a1,s1,s2⟩:=(HS1.out.keep (w':=wr) (fun p hp=>(bx hb2 hbl).cell hp.2)).book_at (k:=k) (by rw [hNN];exact hlt)
   obtain ⟨b',o',x',vd',vt',rfl,-,hx',a0',a1',s1',s2'⟩:=(HS2.out.keep (w':=wr) (fun p hp=>hbl.cell hp.2)).book_at (k:=k) (by rw [hNN];exact hlt)
   obtain rfl:x'=x:=Option.some.inj (hx'.out.symm.trans hx.out)
   have hck:Hid ((ja6 x').2.2=0):=jn1 HI.out (List.mem_of_getElem? hx.out)
   have HB:Hid (jar wr (Old wr) x' (.agg #[vd,vt])):=⟨_,_,rfl,s1.more fun q hq=>by have:=hq.2;show q<_;omega,s2.more fun q hq=>by have:=hq.2;show q<_;omega⟩
   have HB':Hid (jar wr (Old wr) x' (.agg #[vd',vt'])):=⟨_,_,rfl,s1'.more fun q hq=>by have:=hq.2;show q<_;omega,s2'.more fun q hq=>by have:=hq.2;show q<_;omega⟩
   obtain ⟨Ad,cd,rfl,-,-⟩:=s1.form
   obtain ⟨At,ct,rfl,-,-⟩:=s2.form
   obtain ⟨Ad',cd',rfl,-,-⟩:=s1'.form
   obtain ⟨At',ct',rfl,-,-⟩:=s2'.form
   clear s1 s2 s1' s2'
   have hbd:Below wr.heap.size wr wr.drew:=(Below.refl _ _).drew
   have HBd:=Lib.hid (HB.out.onOldB hbd)
   have HBd':=Lib.hid (HB'.out.onOldB hbd)
   have HVd:=Lib.hid (HV.out.next (bx hb12 (bx hbl hbd)))
   have d0:wr.drew.cell? ⟨b,o+k*2,none⟩=_:=a0
   have d1:wr.drew.cell? ⟨b,o+k*2+1,none⟩=_:=a1
   have d0':wr.drew.cell? ⟨b',o'+k*2,none⟩=_:=a0'
   have d1':wr.drew.cell? ⟨b',o'+k*2+1,none⟩=_:=a1'
   go_wp2_with fail
   go_region_law (first
    | (go_simp;go_at_call 32;refine (jsr x' _ _ _ HBd.out HBd'.out (jh6 (jnn hck.out)) HVd.out).mono ?_;rintro e w3 ⟨rfl,hb3'⟩;have hb3:Below wr.heap.size wr w3:=jcw hb3';clear hb3'))
   all_goals
    go_wp2
    exact ⟨⟨k+1,by omega,by go_num,bx hbl hb3⟩,by simp [intOf];omega⟩
  ·have hi1:¬ (k:Int)<NN:=by omega
   go_wp2
   go_loopw [36] (fun i w3=>∃ n:Nat,n≤4∧i = .int .i64 n∧Below w2.heap.size w2 w3) (fun i _=>4-(intOf i).toNat)
   case atStart=>exact ⟨0,Nat.zero_le _,rfl,hbl⟩
   case round =>
    clear hbl hi1 hsl hlt hk
    rename World=>w3
    obtain ⟨n,hn,rfl,hb3⟩:=hrel
    have hs3:=hb3.size
    by_cases hlt:n<4
    ·have hi1:(n:Int)<4:=by omega
     have hb03:=bx hb12 hb3
     go_wp2_with fail
     refine (jjx σ c g vs vl _ (HH.out.next hb03) n).mono ?_
     rintro e w4 ⟨u4,rfl,hu4,hb4⟩
     have hb04:=bx hb03 hb4
     obtain ⟨pd,pt,pg,pr,rfl,y1,y2,y3,y4⟩:=hu4
     have hs4:=hb4.size
     have HY1:=Lib.hid y1
     have HY2:=Lib.hid y2
     have HY3:=Lib.hid y3
     have HY4:=Lib.hid y4
     obtain ⟨Ad,cd,e1,-,-⟩:=y1.form
     obtain ⟨At,ct,e2,-,-⟩:=y2.form
     obtain ⟨Ag,cg,e3,-,-⟩:=y3.form
     obtain ⟨Ah,ch,e4,-,-⟩:=y4.form
     subst e1 e2 e3 e4
     clear y1 y2 y3 y4
     go_wp2_with fail
     refine (jjx τ c' g' vs' vl' _ (HK.out.next hb04) n).mono ?_
     rintro e w5 ⟨u5',rfl,hu5,hb5⟩
     rw [HSN.out] at hu5
     obtain ⟨qd,qt,qg,qr,rfl,z1,z2,z3,z4⟩:=hu5
     have hs5:=hb5.size
     have HZ1:=Lib.hid z1
     have HZ2:=Lib.hid z2
     have HZ3:=Lib.hid z3
     have HZ4:=Lib.hid z4
     obtain ⟨Bd,dd,e1,-,-⟩:=z1.form
     obtain ⟨Bt,dt,e2,-,-⟩:=z2.form
     obtain ⟨Bg,dg,e3,-,-⟩:=z3.form
     obtain ⟨Bh,dh,e4,-,-⟩:=z4.form
     subst e1 e2 e3 e4
     clear z1 z2 z3 z4
     have HOK:Hid (SessOk σ.last σ.acts (jce σ n)):=by
      show SessOk _ _ _
      unfold jce
      split
      ·exact HI.out.at _
      ·exact SessOk.zero _ _
     generalize jce σ n=X at *
     have hb6:=jac w5 (.cells #[.bool X.opn,.bool X.strict,.int .i64 X.frm,.slice Ad X.mine.doms.length cd,.slice At X.mine.tabs.length ct,.slice Ag X.gone.length cg,.slice Ah X.read.length ch] 41)
     have C6:=Lib.hid (Cs.new w5 [.bool X.opn,.bool X.strict,.int .i64 X.frm,.slice Ad X.mine.doms.length cd,.slice At X.mine.tabs.length ct,.slice Ag X.gone.length cg,.slice Ah X.read.length ch] 41)
     change Hid (Cs (w5.alloc (.cells #[.bool X.opn,.bool X.strict,.int .i64 X.frm,.slice Ad X.mine.doms.length cd,.slice At X.mine.tabs.length ct,.slice Ag X.gone.length cg,.slice Ah X.read.length ch] 41)) _ _) at C6
     have hz6:(w5.alloc (.cells #[.bool X.opn,.bool X.strict,.int .i64 X.frm,.slice Ad X.mine.doms.length cd,.slice At X.mine.tabs.length ct,.slice Ag X.gone.length cg,.slice Ah X.read.length ch] 41)).heap.size=w5.heap.size+1:=by simp
     have hb7:=jac (w5.alloc (.cells #[.bool X.opn,.bool X.strict,.int .i64 X.frm,.slice Ad X.mine.doms.length cd,.slice At X.mine.tabs.length ct,.slice Ag X.gone.length cg,.slice Ah X.read.length ch] 41)) (.cells #[.bool X.opn,.bool X.strict,.int .i64 X.frm,.slice Bd X.mine.doms.length dd,.slice Bt X.mine.tabs.length dt,.slice Bg X.gone.length dg,.slice Bh X.read.length dh] 41)
     have D7:=Lib.hid (Cs.new (w5.alloc (.cells #[.bool X.opn,.bool X.strict,.int .i64 X.frm,.slice Ad X.mine.doms.length cd,.slice At X.mine.tabs.length ct,.slice Ag X.gone.length cg,.slice Ah X.read.length ch] 41)) [.bool X.opn,.bool X.strict,.int .i64 X.frm,.slice Bd X.mine.doms.length dd,.slice Bt X.mine.tabs.length dt,.slice Bg X.gone.length dg,.slice Bh X.read.length dh] 41)
     change Hid (Cs ((w5.alloc (.cells #[.bool X.opn,.bool X.strict,.int .i64 X.frm,.slice Ad X.mine.doms.length cd,.slice At X.mine.tabs.length ct,.slice Ag X.gone.length cg,.slice Ah X.read.length ch] 41)).alloc (.cells #[.bool X.opn,.bool X.strict,.int .i64 X.frm,.slice Bd X.mine.doms.length dd,.slice Bt X.mine.tabs.length dt,.slice Bg X.gone.length dg,.slice Bh X.read.length dh] 41)) _ _) at D7
     rw [hz6] at D7
     have C7:=Lib.hid (C6.out.next hb7)
     have n1:(X.opn != X.opn)=false:=by simp
     have n2:(X.strict != X.strict)=false:=by simp
     have n3:((X.frm:Int) != (X.frm:Int))=false:=by simp
     have p0:=C7.out.at 0 rfl
     have q0:=D7.out.at 0 rfl
     have p1:=C7.out.at 1 rfl
     have q1:=D7.out.at 1 rfl
     have p2:=C7.out.at 2 rfl
     have q2:=D7.out.at 2 rfl
     have p3:=C7.out.at 3 rfl
     have q3:=D7.out.at 3 rfl
     have p4:=C7.out.at 4 rfl
     have q4:=D7.out.at 4 rfl
     have p5:=C7.out.at 5 rfl
     have q5:=D7.out.at 5 rfl
     have p6:=C7.out.at 6 rfl
     have q6:=D7.out.at 6 rfl
     go_wp2_with fail
     have hb57:=bx hb6 hb7
     clear p0 p1 p2 p3 p4 p5 p6 q0 q1 q2 q3 q4 q5 q6 C6 hb6 hb7 hz6
     generalize (w5.alloc (.cells #[.bool X.opn,.bool X.strict,.int .i64 X.frm,.slice Ad X.mine.doms.length cd,.slice At X.mine.tabs.length ct,.slice Ag X.gone.length cg,.slice Ah X.read.length ch] 41)).alloc (.cells #[.bool X.opn,.bool X.strict,.int .i64 X.frm,.slice Bd X.mine.doms.length dd,.slice Bt X.mine.tabs.length dt,.slice Bg X.gone.length dg,.slice Bh X.read.length dh] 41)=w7 at *
     have hb47:=bx hb5 hb57
     have hs7:=hb57.size
     have hb07:=bx hb04 hb47
     have HBM:Hid (jar w7 (Old w7) X.mine (.agg #[.slice Ad X.mine.doms.length cd,.slice At X.mine.tabs.length ct])):=⟨_,_,rfl,(HY1.out.keep fun p hp=>hb47.cell hp.2).more fun q hq=>by have:=hq.2;show q<_;omega,(HY2.out.keep fun p hp=>hb47.cell hp.2).more fun q hq=>by have:=hq.2;show q<_;omega⟩
     have HBN:Hid (jar w7 (Old w7) X.mine (.agg #[.slice Bd X.mine.doms.length dd,.slice Bt X.mine.tabs.length dt])):=⟨_,_,rfl,(HZ1.out.keep fun p hp=>hb57.cell hp.2).more fun q hq=>by have:=hq.2;show q<_;omega,(HZ2.out.keep fun p hp=>hb57.cell hp.2).more fun q hq=>by have:=hq.2;show q<_;omega⟩
     have HV7:=Lib.hid (HV.out.next hb07)
     refine (jsr X.mine _ _ _ HBM.out HBN.out (jh6 HOK.out.mine) HV7.out).mono ?_
     rintro e w8 ⟨rfl,hb8⟩
     have hs8:=hb8.size
     have p5:=(C7.out.next hb8).at 5 rfl
     have q5:=(D7.out.next hb8).at 5 rfl
     have HG1:Hid (Sl Enc.str w8 (Old w8) X.gone (.slice Ag X.gone.length cg)):=(HY3.out.keep fun p hp=>(bx hb47 hb8).cell hp.2).more fun q hq=>by have:=hq.2;show q<_;omega
     have HG2:Hid (Sl Enc.str w8 (Old w8) X.gone (.slice Bg X.gone.length dg)):=(HZ3.out.keep fun p hp=>(bx hb57 hb8).cell hp.2).more fun q hq=>by have:=hq.2;show q<_;omega
     go_wp2_with fail
     clear p5 q5
     refine (jq3 X.gone _ _ _ HG1.out HG2.out).mono ?_
     rintro e w9 ⟨rfl,hb9⟩
     have hb89:=bx hb8 hb9
     have hs9:=hb9.size
     have p6:=(C7.out.next hb89).at 6 rfl
     have q6:=(D7.out.next hb89).at 6 rfl
     have HR1:Hid (Sl Enc.str w9 (Old w9) X.read (.slice Ah X.read.length ch)):=(HY4.out.keep fun p hp=>(bx hb47 hb89).cell hp.2).more fun q hq=>by have:=hq.2;show q<_;omega
     have HR2:Hid (Sl Enc.str w9 (Old w9) X.read (.slice Bh X.read.length dh)):=(HZ4.out.keep fun p hp=>(bx hb57 hb89).cell hp.2).more fun q hq=>by have:=hq.2;show q<_;omega
     go_wp2_with fail
     clear p6 q6
     refine (jq3 X.read _ _ _ HR1.out HR2.out).mono ?_
     rintro e w10 ⟨rfl,hb10⟩
     go_wp2
     exact ⟨⟨n+1,by omega,by go_num,bx hb3 (bx hb4 (bx hb47 (bx hb89 hb10)))⟩,by simp [intOf];omega⟩
    ·have hi1:¬ (n:Int)<4:=by omega
     go_wp2
     go_ret
     exact ⟨rfl,bx hb12 hb3⟩
open Go.RowKit Go.Shelf
structure TwoS (w0 w:World) (g:Nat) (σ:StoreD) (c:Nat→Nat) (vs:List Value) (vl:Value) (g':Nat) (τ:StoreD) (c':Nat→Nat) (vs':List Value) (vl':Value):Prop where
 one:Mine w0 w g σ c vs vl
 two:Mine w0 w g' τ c' vs' vl'
 apart:∀ b,c b≠0→c' b=0
section
variable {w0 w w':World} {g g':Nat} {σ τ:StoreD} {c c':Nat→Nat} {vs vs':List Value} {vl vl':Value}
theorem TwoS.flip (h:TwoS w0 w g σ c vs vl g' τ c' vs' vl'):TwoS w0 w g' τ c' vs' vl' g σ c vs vl :=
 ⟨h.two,h.one,fun b hb=>by
  by_cases e:c b=0
  ·exact e
  ·exact absurd (h.apart b e) hb⟩
theorem TwoS.next (h:TwoS w0 w g σ c vs vl g' τ c' vs' vl') (hb:Below w.heap.size w w'):TwoS w0 w' g σ c vs vl g' τ c' vs' vl':=⟨h.one.next hb,h.two.next hb,h.apart⟩
end
end Go.Proofs.YthmlndmlnlfhnaaGreatDoor
