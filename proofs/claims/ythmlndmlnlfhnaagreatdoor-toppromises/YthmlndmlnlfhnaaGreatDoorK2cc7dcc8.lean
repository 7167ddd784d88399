import Derived.Test.YthmlndmlnlfhnaaGreatDoorK45b26909
import Derived.Test.YthmlndmlnlfhnaaGreatDoorKbfafc064
set_option maxRecDepth 100000
set_option maxHeartbeats 16000000
namespace Go.Proofs.YthmlndmlnlfhnaaGreatDoor
open Go.RowKit Go.Shelf
theorem ypx (σ:StoreD) (c:Nat→Nat) (g:Nat) (vs:List Value) (vl:Value) (a:ActD) (va:Value) (w:World) (h:StoreC w c g σ vs vl) (hv:VarsOk w) (hvc:jc0 c) (ha:jgy w (fun b=>b<w.heap.size∧c b=0) a va)
  (hs1:a.name.size≤140737488355328) (hs2:a.text.size≤140737488355328) :
  Calls Tryz.prog 15 #[.pointer (some ⟨g,0,none⟩),va] w (jam w c g (doV σ a)):=by
 by_cases hr:200 ≤ σ.acts∨¬ (2≤a.kind∧a.kind≤7)
 ·exact yq9 σ c g vs vl a va w h hv hvc ha hr
 ·have hfull:¬ 200 ≤ σ.acts:=fun e=>hr (.inl e)
  have hk:2≤a.kind∧a.kind≤7:=by
   by_cases e:2≤a.kind∧a.kind≤7
   ·exact e
   ·exact absurd (.inr e) hr
  obtain ⟨kind,m,name,text,inp⟩:=a
  simp only at hs1 hs2 hk
  rcases (show kind=2∨kind=3∨kind=4∨kind=5∨kind=6∨kind=7 by omega) with rfl | rfl | rfl | rfl | rfl | rfl
  ·exact do_2 σ c g vs vl m name text inp va w h hv hvc ha hs2 hfull
  ·exact do_3 σ c g vs vl m name text inp va w h hv hvc ha hs1 hfull
  ·exact do_4 σ c g vs vl m name text inp va w h hv hvc ha hs1 hfull
  ·exact do_5 σ c g vs vl m name text inp va w h hv hvc ha hfull
  ·exact do_6 σ c g vs vl m name text inp va w h hv hvc ha hfull
  ·exact do_7 σ c g vs vl m name text inp va w h hv hvc ha hfull
open Go.RowKit Go.Shelf
theorem Fr.toBelow {c:Nat→Nat} {w w1 w':World} (h:Fr c w1 w') (hb:Below w.heap.size w w1) (hc:∀ b,b<w.heap.size→c b=0):Below w.heap.size w w' :=
 ⟨h.os.trans hb.os,h.tape.trans hb.tape,h.output.trans hb.output,Nat.le_trans hb.size h.size,fun k hk=>(h.block k (Nat.lt_of_lt_of_le hk hb.size) (hc k hk)).trans (hb.block k hk)⟩
theorem yqe {g b:Nat} (h:b<g):c1 g b=0:=by unfold c1;rw [if_neg (by omega)]
theorem jc0.new {w:World} (hv:VarsOk w) {c:Nat→Nat} (hc:∀ b,b<w.heap.size→c b=0):jc0 c:=fun nm hn k hk=>hc k (hv.above nm hn k hk)
structure Mine (w w':World) (g:Nat) (σ:StoreD) (c:Nat→Nat) (vs:List Value) (vl:Value):Prop where
 st:StoreC w' c g σ vs vl
 old:∀ b,b<w.heap.size→c b=0
 below:Below w.heap.size w w'
section
variable {w w1 w2:World} {g:Nat} {σ:StoreD} {c:Nat→Nat} {vs:List Value} {vl:Value}
theorem Mine.next (h:Mine w w1 g σ c vs vl) (hb:Below w1.heap.size w1 w2):Mine w w2 g σ c vs vl:=⟨h.st.next hb,h.old,bx h.below hb⟩
theorem Mine.vars (h:Mine w w1 g σ c vs vl) (hv:VarsOk w):VarsOk w1∧jc0 c:=⟨hv.next h.below,jc0.new hv h.old⟩
theorem Mine.new (w0 w:World) (e:Nat) (hb:Below w0.heap.size w0 w):Mine w0 (w.alloc (.cells new0.toArray e)) w.heap.size newV (c1 w.heap.size) new0 (.slice none 0 0) :=
 ⟨StoreC.new w e,fun _ h=>yqe (Nat.lt_of_lt_of_le h hb.size),bx hb (jac w _)⟩
theorem Mine.did {R:StoreD × ReplyD} {e:Ending} (h:Mine w w1 g σ c vs vl) (hP:jam w1 c g R e w2) :
  ∃ A1 k1 A2 k2 c' vs' vl',e = .returned (.agg #[.int .i64 R.2.code,.int .i64 R.2.n,.string R.2.text,.slice A1 R.2.answers.length k1,.slice A2 R.2.at_.length k2])∧Mine w w2 g R.1 c' vs' vl'∧Fr c w1 w2∧(∀ b,b<w1.heap.size→c' b=c b) ∧
   Sl Enc.ans w2 (fun b=>w1.heap.size≤b∧b<w2.heap.size∧c' b=0) R.2.answers (.slice A1 R.2.answers.length k1)∧Sl Enc.int w2 (fun b=>w1.heap.size≤b∧b<w2.heap.size∧c' b=0) R.2.at_ (.slice A2 R.2.at_.length k2):=by
 obtain ⟨c',v,rfl,⟨vs',vl',hst⟩,hold,hfr,va,vt,rfl,ha,ht⟩:=hP
 have ha':=ha
 have ht':=ht
 obtain ⟨A1,k1,rfl,-,-⟩:=ha.form
 obtain ⟨A2,k2,rfl,-,-⟩:=ht.form
 exact ⟨A1,k1,A2,k2,c',vs',vl',rfl,⟨hst,fun b hb=>(hold b (Nat.lt_of_lt_of_le hb h.below.size)).trans (h.old b hb),hfr.toBelow h.below h.old⟩,hfr,hold,ha',ht'⟩
theorem Mine.do_ (h:Mine w w1 g σ c vs vl) (hv:VarsOk w) (a:ActD) (va:Value) (ha:jgy w1 (fun b=>b<w1.heap.size∧c b=0) a va) (hs1:a.name.size≤140737488355328) (hs2:a.text.size≤140737488355328) :
  Calls Tryz.prog 15 #[.pointer (some ⟨g,0,none⟩),va] w1 (jam w1 c g (doV σ a)) :=
 ypx σ c g vs vl a va w1 h.st (h.vars hv).1 (h.vars hv).2 ha hs1 hs2
end
theorem jn6 (w:World) (hv:VarsOk w) :
  Calls Tryz.prog 35 #[] w fun e w'=>e = .returned (.bool true)∧Below w.heap.size w w':=by
 have HV:=Lib.hid hv
 clear hv
 go_enter Tryz.func35,Tryz.ntmps35
 go_wp2_with fail
 refine (jn3 _).mono ?_
 rintro e w1 ⟨rfl,hw1⟩
 have M1:Hid (Mine w w1 w.heap.size newV (c1 w.heap.size) new0 (.slice none 0 0)):=by rw [hw1];exact Mine.new w w _ (Below.refl _ _)
 clear hw1
 go_wp2_with fail
 refine (M1.out.do_ HV.out jsy _ ⟨_,rfl,Sl.nil⟩ (by decide) (by decide)).mono ?_
 rintro e w2 hP
 obtain ⟨A1,k1,A2,k2,d1,vs1,vl1,rfl,m2,-,-,-,-⟩:=M1.out.did hP
 have M2:=Lib.hid m2
 clear hP m2 M1
 have HR1:Hid ((doV newV jsy).2.code=0):=by show _=_;rw [ygg];rfl
 rw [HR1.out]
 generalize (doV newV jsy).2=R1 at *
 have hb2:=jac w2 (.cells #[.int .i64 0,.int .i64 R1.n,.string R1.text,.slice A1 R1.answers.length k1,.slice A2 R1.at_.length k2] 30)
 have C2:=Lib.hid (Cs.new w2 [.int .i64 0,.int .i64 R1.n,.string R1.text,.slice A1 R1.answers.length k1,.slice A2 R1.at_.length k2] 30)
 change Hid (Cs (w2.alloc (.cells #[.int .i64 0,.int .i64 R1.n,.string R1.text,.slice A1 R1.answers.length k1,.slice A2 R1.at_.length k2] 30)) _ _) at C2
 have M3:=Lib.hid (M2.out.next hb2)
 go_wp2_with fail
 generalize w2.alloc (.cells #[.int .i64 0,.int .i64 R1.n,.string R1.text,.slice A1 R1.answers.length k1,.slice A2 R1.at_.length k2] 30)=w3 at *
 have hlt2:w2.heap.size<w3.heap.size:=C2.out.1
 refine (M3.out.do_ HV.out jzc _ ⟨_,rfl,Sl.nil⟩ (by decide) (by decide)).mono ?_
 rintro e w4 hP
 obtain ⟨B1,l1,B2,l2,d2,vs2,vl2,rfl,m4,hF4,hold4,-,-⟩:=M3.out.did hP
 have M4:=Lib.hid m4
 have hc2:d1 w2.heap.size=0:=jb1 M2.out.st.lt (Nat.le_refl _)
 have C4:=Lib.hid (C2.out.keep (w':=w4) (hF4.block _ hlt2 hc2) hF4.size)
 have hc2':d2 w2.heap.size=0:=(hold4 _ hlt2).trans hc2
 clear hP m4 M3 hF4 hold4
 rw [yi8]
 have HR2:Hid ((doV (doV (doV newV jsy).1 jzc).1 jk2).2.code=0∧(doV (doV (doV newV jsy).1 jzc).1 jk2).2.n=1∧(doV (doV (doV newV jsy).1 jzc).1 jk2).1.later.length=1):=jz5
 generalize hS2:doV (doV newV jsy).1 jzc=S2 at *
 have hb4:=jac w4 (.cells #[.int .i64 0,.int .i64 S2.2.n,.string S2.2.text,.slice B1 S2.2.answers.length l1,.slice B2 S2.2.at_.length l2] 30)
 have D4:=Lib.hid (Cs.new w4 [.int .i64 0,.int .i64 S2.2.n,.string S2.2.text,.slice B1 S2.2.answers.length l1,.slice B2 S2.2.at_.length l2] 30)
 change Hid (Cs (w4.alloc (.cells #[.int .i64 0,.int .i64 S2.2.n,.string S2.2.text,.slice B1 S2.2.answers.length l1,.slice B2 S2.2.at_.length l2] 30)) _ _) at D4
 have M5:=Lib.hid (M4.out.next hb4)
 have C5:=Lib.hid (C4.out.next hb4)
 go_wp2_with fail
 generalize w4.alloc (.cells #[.int .i64 0,.int .i64 S2.2.n,.string S2.2.text,.slice B1 S2.2.answers.length l1,.slice B2 S2.2.at_.length l2] 30)=w5 at *
 have hlt4:w4.heap.size<w5.heap.size:=D4.out.1
 refine (M5.out.do_ HV.out jk2 _ ⟨_,rfl,Sl.nil⟩ (by decide) (by decide)).mono ?_
 rintro e w6 hP
 obtain ⟨E1,r1,E2,r2,d3,vs3,vl3,rfl,m6,hF6,hold6,-,-⟩:=M5.out.did hP
 have M6:=Lib.hid m6
 have hc4:d2 w4.heap.size=0:=jb1 M4.out.st.lt (Nat.le_refl _)
 have C6:=Lib.hid (C5.out.keep (w':=w6) (hF6.block _ C5.out.1 hc2') hF6.size)
 have D6:=Lib.hid (D4.out.keep (w':=w6) (hF6.block _ hlt4 hc4) hF6.size)
 clear hP m6 M5 hF6 hold6
 obtain ⟨h1,h2,h3⟩:=HR2.out
 generalize hS3:doV S2.1 jk2=S3 at *
 rw [h1,h2]
 have H3:=Lib.hid h3
 clear h1 h2 h3 HR2
 have hb6:=jac w6 (.cells #[.int .i64 0,.int .i64 1,.string S3.2.text,.slice E1 S3.2.answers.length r1,.slice E2 S3.2.at_.length r2] 30)
 have E6:=Lib.hid (Cs.new w6 [.int .i64 0,.int .i64 1,.string S3.2.text,.slice E1 S3.2.answers.length r1,.slice E2 S3.2.at_.length r2] 30)
 change Hid (Cs (w6.alloc (.cells #[.int .i64 0,.int .i64 1,.string S3.2.text,.slice E1 S3.2.answers.length r1,.slice E2 S3.2.at_.length r2] 30)) _ _) at E6
 have M7:=Lib.hid (M6.out.next hb6)
 have C7:=Lib.hid (C6.out.next hb6)
 have D7:=Lib.hid (D6.out.next hb6)
 have p0:=C7.out.at 0 rfl
 have p1:=D7.out.at 0 rfl
 have p2:=E6.out.at 0 rfl
 have p3:=E6.out.at 1 rfl
 go_wp2_with fail
 generalize w6.alloc (.cells #[.int .i64 0,.int .i64 1,.string S3.2.text,.slice E1 S3.2.answers.length r1,.slice E2 S3.2.at_.length r2] 30)=w7 at *
 clear p0 p1 p2 p3
 refine (jhq S3.1 d3 w.heap.size vs3 vl3 _ M7.out.st).mono ?_
 rintro e w8 ⟨v8,rfl,hs8,hb8⟩
 have hL:S3.1.states.length=2:=by rw [jmc];show S3.1.later.length+1=2;rw [H3.out]
 obtain ⟨A8,k8,rfl,-,-⟩:=hs8.form
 rw [hL]
 clear hs8 hL
 go_wp2
 go_ret
 exact ⟨rfl,bx M7.out.below hb8⟩
end Go.Proofs.YthmlndmlnlfhnaaGreatDoor
