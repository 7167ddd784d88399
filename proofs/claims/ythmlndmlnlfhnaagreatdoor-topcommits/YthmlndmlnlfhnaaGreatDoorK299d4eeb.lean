import Derived.Test.YthmlndmlnlfhnaaGreatDoorK75d13a4b
set_option maxRecDepth 100000
set_option maxHeartbeats 16000000
namespace Go.Proofs.YthmlndmlnlfhnaaGreatDoor
open Go.RowKit Go.Shelf
theorem ylz (σ:StoreD) (c:Nat→Nat) (g n:Nat) (vs:List Value) (vl:Value) (m:Int) (name text:ByteArray) (inp:List Int) (va:Value) (w:World) (h:StoreC w c g σ vs vl) (hv:VarsOk w) (hvc:jc0 c) (hn:n<4) (ha:jgy w (fun b=>b<w.heap.size∧c b=0) ⟨2,m,name,text,inp⟩ va)
  (hs2:text.size≤140737488355328) (hI:Inv (ja8 σ n ⟨2,m,name,text,inp⟩).1) :
  Calls Tryz.prog 44 #[.pointer (some ⟨g,0,none⟩),.pointer (some ⟨g,1+n*7,none⟩),va] w (jam w c g (ja8 σ n ⟨2,m,name,text,inp⟩)):=by
 have HH:=Lib.hid h
 have HCL:=Lib.hid h.lt
 have HV:=Lib.hid hv
 have HVC:=Lib.hid hvc
 have HX:Hid (σ.sess[n]? = some (σ.sessN n)):=je5 h.inv hn
 have HSO:=Lib.hid (h.inv.at n)
 have HIV:=Lib.hid h.inv
 have hcg:c g≠0:=by rw [h.col];decide
 have hgw:g<w.heap.size:=h.cs.1
 obtain ⟨vi,rfl,hi⟩:=ha
 simp only at hi
 have HIN:=Lib.hid hi
 obtain ⟨Ai,ci,rfl,-,-⟩:=hi.form
 clear h hv hvc hi
 have HI:=Lib.hid hI
 clear hI
 have HE:Hid (ja8 σ n ⟨2,m,name,text,inp⟩=(jaq σ n (putV (σ.sessN n) text).1,(putV (σ.sessN n) text).2)):=by show _=_;rfl
 have HI2:Hid (Inv ((jaq σ n (putV (σ.sessN n) text).1,(putV (σ.sessN n) text).2)).1):=by have:=HI.out;rw [HE.out] at this;exact this
 generalize ja8 σ n ⟨2,m,name,text,inp⟩=PV at *
 have hb0:=jac w (.cells #[.int .i64 2,.int .i64 m,.string name,.string text,.slice Ai inp.length ci] 24)
 have B0:=Lib.hid (Cs.new w [.int .i64 2,.int .i64 m,.string name,.string text,.slice Ai inp.length ci] 24)
 have hz0:(w.alloc (.cells #[.int .i64 2,.int .i64 m,.string name,.string text,.slice Ai inp.length ci] 24)).heap.size=w.heap.size+1:=by simp
 change Hid (Cs (w.alloc (.cells #[.int .i64 2,.int .i64 m,.string name,.string text,.slice Ai inp.length ci] 24)) _ _) at B0
 generalize hw0:w.alloc (.cells #[.int .i64 2,.int .i64 m,.string name,.string text,.slice Ai inp.length ci] 24)=w0 at *
 have hb1:=jac w0 (.cells #[.int .i64 0,.int .i64 0,.string ⟨#[]⟩,.slice none 0 0,.slice none 0 0] 30)
 have C1:=Lib.hid (Cs.new w0 zeroRL 30)
 have hz1:(w0.alloc (.cells #[.int .i64 0,.int .i64 0,.string ⟨#[]⟩,.slice none 0 0,.slice none 0 0] 30)).heap.size=w.heap.size+2:=by simp;omega
 change Hid (Cs (w0.alloc (.cells #[.int .i64 0,.int .i64 0,.string ⟨#[]⟩,.slice none 0 0,.slice none 0 0] 30)) _ _) at C1
 rw [hz0] at C1
 have B1:=Lib.hid (B0.out.next hb1)
 have hb01:=bx hb0 hb1
 generalize hw1:w0.alloc (.cells #[.int .i64 0,.int .i64 0,.string ⟨#[]⟩,.slice none 0 0,.slice none 0 0] 30)=w1 at *
 have H1:=Lib.hid (HH.out.next hb01)
 have HV1:=Lib.hid (HV.out.next hb01)
 have k0:=B1.out.at 0 rfl
 have k1:=B1.out.at 1 rfl
 have k2:=B1.out.at 2 rfl
 have k3:=B1.out.at 3 rfl
 have k4:=B1.out.at 4 rfl
 have hIN1:Hid (Sl Enc.int w1 (fun b=>b<w1.heap.size∧c b=0) inp (.slice Ai inp.length ci)):=(HIN.out.keep (w':=w1) fun p hp=>World.cell?_of_block (hb01.block _ hp.1)).more fun q hq=>⟨by have:=hq.1;omega,hq.2⟩
 have hc1:c (w.heap.size+1)=0:=jb1 HCL.out (by omega)
 go_enter Tryz.func44,Tryz.ntmps44
 go_wp2_with fail
 clear hw0 hw1 k0 k1 k2 k3 k4
 refine (ym3 σ c g n vs vl (σ.sessN n) text _ H1.out HV1.out HX.out hs2 HI2.out).mono ?_
 rintro e w3 hP
 rw [← HE.out] at hP
 obtain ⟨A1,q1,A2,q2,rfl,hC3,hP3⟩:=hP.up (Fr.below hb01) (b0:=w.heap.size+1) (by omega) (by omega) hc1 C1.out
 have C3:=Lib.hid hC3
 have HP3:=Lib.hid hP3
 clear hP hC3 hP3
 have r0:=C3.out.at 0 rfl
 have r1:=C3.out.at 1 rfl
 have r2:=C3.out.at 2 rfl
 have r3:=C3.out.at 3 rfl
 have r4:=C3.out.at 4 rfl
 have f0:=C3.out.2.2 0 (by simp)
 have f1:=C3.out.2.2 1 (by simp)
 have f2:=C3.out.2.2 2 (by simp)
 have f3:=C3.out.2.2 3 (by simp)
 have f4:=C3.out.2.2 4 (by simp)
 go_wp2
 (try simp only [Exit.inBlock,Exit.then])
 exact bodyPost_ret (jaz (b:=w.heap.size+1) rfl rfl (jbs C3.out _ _ _ _ _)) rfl HP3.out
theorem yl0 (σ:StoreD) (c:Nat→Nat) (g n:Nat) (vs:List Value) (vl:Value) (m:Int) (name text:ByteArray) (inp:List Int) (va:Value) (w:World) (h:StoreC w c g σ vs vl) (hv:VarsOk w) (hvc:jc0 c) (hn:n<4) (ha:jgy w (fun b=>b<w.heap.size∧c b=0) ⟨3,m,name,text,inp⟩ va)
  (hs1:name.size≤140737488355328) (hI:Inv (ja8 σ n ⟨3,m,name,text,inp⟩).1) :
  Calls Tryz.prog 44 #[.pointer (some ⟨g,0,none⟩),.pointer (some ⟨g,1+n*7,none⟩),va] w (jam w c g (ja8 σ n ⟨3,m,name,text,inp⟩)):=by
 have HH:=Lib.hid h
 have HCL:=Lib.hid h.lt
 have HV:=Lib.hid hv
 have HVC:=Lib.hid hvc
 have HX:Hid (σ.sess[n]? = some (σ.sessN n)):=je5 h.inv hn
 have HSO:=Lib.hid (h.inv.at n)
 have HIV:=Lib.hid h.inv
 have hcg:c g≠0:=by rw [h.col];decide
 have hgw:g<w.heap.size:=h.cs.1
 obtain ⟨vi,rfl,hi⟩:=ha
 simp only at hi
 have HIN:=Lib.hid hi
 obtain ⟨Ai,ci,rfl,-,-⟩:=hi.form
 clear h hv hvc hi
 have HI:=Lib.hid hI
 clear hI
 have HE:Hid (ja8 σ n ⟨3,m,name,text,inp⟩=(jaq σ n (jky (σ.sessN n) name).1,(jky (σ.sessN n) name).2)):=by show _=_;rfl
 have HI2:Hid (Inv ((jaq σ n (jky (σ.sessN n) name).1,(jky (σ.sessN n) name).2)).1):=by have:=HI.out;rw [HE.out] at this;exact this
 generalize ja8 σ n ⟨3,m,name,text,inp⟩=PV at *
 have hb0:=jac w (.cells #[.int .i64 3,.int .i64 m,.string name,.string text,.slice Ai inp.length ci] 24)
 have B0:=Lib.hid (Cs.new w [.int .i64 3,.int .i64 m,.string name,.string text,.slice Ai inp.length ci] 24)
 have hz0:(w.alloc (.cells #[.int .i64 3,.int .i64 m,.string name,.string text,.slice Ai inp.length ci] 24)).heap.size=w.heap.size+1:=by simp
 change Hid (Cs (w.alloc (.cells #[.int .i64 3,.int .i64 m,.string name,.string text,.slice Ai inp.length ci] 24)) _ _) at B0
 generalize hw0:w.alloc (.cells #[.int .i64 3,.int .i64 m,.string name,.string text,.slice Ai inp.length ci] 24)=w0 at *
 have hb1:=jac w0 (.cells #[.int .i64 0,.int .i64 0,.string ⟨#[]⟩,.slice none 0 0,.slice none 0 0] 30)
 have C1:=Lib.hid (Cs.new w0 zeroRL 30)
 have hz1:(w0.alloc (.cells #[.int .i64 0,.int .i64 0,.string ⟨#[]⟩,.slice none 0 0,.slice none 0 0] 30)).heap.size=w.heap.size+2:=by simp;omega
 change Hid (Cs (w0.alloc (.cells #[.int .i64 0,.int .i64 0,.string ⟨#[]⟩,.slice none 0 0,.slice none 0 0] 30)) _ _) at C1
 rw [hz0] at C1
 have B1:=Lib.hid (B0.out.next hb1)
 have hb01:=bx hb0 hb1
 generalize hw1:w0.alloc (.cells #[.int .i64 0,.int .i64 0,.string ⟨#[]⟩,.slice none 0 0,.slice none 0 0] 30)=w1 at *
 have H1:=Lib.hid (HH.out.next hb01)
 have HV1:=Lib.hid (HV.out.next hb01)
 have k0:=B1.out.at 0 rfl
 have k1:=B1.out.at 1 rfl
 have k2:=B1.out.at 2 rfl
 have k3:=B1.out.at 3 rfl
 have k4:=B1.out.at 4 rfl
 have hIN1:Hid (Sl Enc.int w1 (fun b=>b<w1.heap.size∧c b=0) inp (.slice Ai inp.length ci)):=(HIN.out.keep (w':=w1) fun p hp=>World.cell?_of_block (hb01.block _ hp.1)).more fun q hq=>⟨by have:=hq.1;omega,hq.2⟩
 have hc1:c (w.heap.size+1)=0:=jb1 HCL.out (by omega)
 go_enter Tryz.func44,Tryz.ntmps44
 go_wp2_with fail
 clear hw0 hw1 k0 k1 k2 k3 k4
 refine (yil σ c g n vs vl (σ.sessN n) name _ H1.out HX.out hs1 HI2.out).mono ?_
 rintro e w3 hP
 rw [← HE.out] at hP
 obtain ⟨A1,q1,A2,q2,rfl,hC3,hP3⟩:=hP.up (Fr.below hb01) (b0:=w.heap.size+1) (by omega) (by omega) hc1 C1.out
 have C3:=Lib.hid hC3
 have HP3:=Lib.hid hP3
 clear hP hC3 hP3
 have r0:=C3.out.at 0 rfl
 have r1:=C3.out.at 1 rfl
 have r2:=C3.out.at 2 rfl
 have r3:=C3.out.at 3 rfl
 have r4:=C3.out.at 4 rfl
 have f0:=C3.out.2.2 0 (by simp)
 have f1:=C3.out.2.2 1 (by simp)
 have f2:=C3.out.2.2 2 (by simp)
 have f3:=C3.out.2.2 3 (by simp)
 have f4:=C3.out.2.2 4 (by simp)
 go_wp2
 (try simp only [Exit.inBlock,Exit.then])
 exact bodyPost_ret (jaz (b:=w.heap.size+1) rfl rfl (jbs C3.out _ _ _ _ _)) rfl HP3.out
theorem yl1 (σ:StoreD) (c:Nat→Nat) (g n:Nat) (vs:List Value) (vl:Value) (m:Int) (name text:ByteArray) (inp:List Int) (va:Value) (w:World) (h:StoreC w c g σ vs vl) (hv:VarsOk w) (hvc:jc0 c) (hn:n<4) (ha:jgy w (fun b=>b<w.heap.size∧c b=0) ⟨4,m,name,text,inp⟩ va)
  (hs1:name.size≤140737488355328) (hI:Inv (ja8 σ n ⟨4,m,name,text,inp⟩).1) :
  Calls Tryz.prog 44 #[.pointer (some ⟨g,0,none⟩),.pointer (some ⟨g,1+n*7,none⟩),va] w (jam w c g (ja8 σ n ⟨4,m,name,text,inp⟩)):=by
 have HH:=Lib.hid h
 have HCL:=Lib.hid h.lt
 have HV:=Lib.hid hv
 have HVC:=Lib.hid hvc
 have HX:Hid (σ.sess[n]? = some (σ.sessN n)):=je5 h.inv hn
 have HSO:=Lib.hid (h.inv.at n)
 have HIV:=Lib.hid h.inv
 have hcg:c g≠0:=by rw [h.col];decide
 have hgw:g<w.heap.size:=h.cs.1
 obtain ⟨vi,rfl,hi⟩:=ha
 simp only at hi
 have HIN:=Lib.hid hi
 obtain ⟨Ai,ci,rfl,-,-⟩:=hi.form
 clear h hv hvc hi
 have HI:=Lib.hid hI
 clear hI
 have HE:Hid (ja8 σ n ⟨4,m,name,text,inp⟩=(jaq σ n (getV σ (σ.sessN n) name).1,(getV σ (σ.sessN n) name).2)):=by show _=_;rfl
 have HI2:Hid (Inv ((jaq σ n (getV σ (σ.sessN n) name).1,(getV σ (σ.sessN n) name).2)).1):=by have:=HI.out;rw [HE.out] at this;exact this
 generalize ja8 σ n ⟨4,m,name,text,inp⟩=PV at *
 have hb0:=jac w (.cells #[.int .i64 4,.int .i64 m,.string name,.string text,.slice Ai inp.length ci] 24)
 have B0:=Lib.hid (Cs.new w [.int .i64 4,.int .i64 m,.string name,.string text,.slice Ai inp.length ci] 24)
 have hz0:(w.alloc (.cells #[.int .i64 4,.int .i64 m,.string name,.string text,.slice Ai inp.length ci] 24)).heap.size=w.heap.size+1:=by simp
 change Hid (Cs (w.alloc (.cells #[.int .i64 4,.int .i64 m,.string name,.string text,.slice Ai inp.length ci] 24)) _ _) at B0
 generalize hw0:w.alloc (.cells #[.int .i64 4,.int .i64 m,.string name,.string text,.slice Ai inp.length ci] 24)=w0 at *
 have hb1:=jac w0 (.cells #[.int .i64 0,.int .i64 0,.string ⟨#[]⟩,.slice none 0 0,.slice none 0 0] 30)
 have C1:=Lib.hid (Cs.new w0 zeroRL 30)
 have hz1:(w0.alloc (.cells #[.int .i64 0,.int .i64 0,.string ⟨#[]⟩,.slice none 0 0,.slice none 0 0] 30)).heap.size=w.heap.size+2:=by simp;omega
 change Hid (Cs (w0.alloc (.cells #[.int .i64 0,.int .i64 0,.string ⟨#[]⟩,.slice none 0 0,.slice none 0 0] 30)) _ _) at C1
 rw [hz0] at C1
 have B1:=Lib.hid (B0.out.next hb1)
 have hb01:=bx hb0 hb1
 generalize hw1:w0.alloc (.cells #[.int .i64 0,.int .i64 0,.string ⟨#[]⟩,.slice none 0 0,.slice none 0 0] 30)=w1 at *
 have H1:=Lib.hid (HH.out.next hb01)
 have HV1:=Lib.hid (HV.out.next hb01)
 have k0:=B1.out.at 0 rfl
 have k1:=B1.out.at 1 rfl
 have k2:=B1.out.at 2 rfl
 have k3:=B1.out.at 3 rfl
 have k4:=B1.out.at 4 rfl
 have hIN1:Hid (Sl Enc.int w1 (fun b=>b<w1.heap.size∧c b=0) inp (.slice Ai inp.length ci)):=(HIN.out.keep (w':=w1) fun p hp=>World.cell?_of_block (hb01.block _ hp.1)).more fun q hq=>⟨by have:=hq.1;omega,hq.2⟩
 have hc1:c (w.heap.size+1)=0:=jb1 HCL.out (by omega)
 go_enter Tryz.func44,Tryz.ntmps44
 go_wp2_with fail
 clear hw0 hw1 k0 k1 k2 k3 k4
 refine (ym2 σ c g n vs vl (σ.sessN n) name _ H1.out HV1.out HVC.out HX.out hs1 HI2.out).mono ?_
 rintro e w3 hP
 rw [← HE.out] at hP
 obtain ⟨A1,q1,A2,q2,rfl,hC3,hP3⟩:=hP.up (Fr.below hb01) (b0:=w.heap.size+1) (by omega) (by omega) hc1 C1.out
 have C3:=Lib.hid hC3
 have HP3:=Lib.hid hP3
 clear hP hC3 hP3
 have r0:=C3.out.at 0 rfl
 have r1:=C3.out.at 1 rfl
 have r2:=C3.out.at 2 rfl
 have r3:=C3.out.at 3 rfl
 have r4:=C3.out.at 4 rfl
 have f0:=C3.out.2.2 0 (by simp)
 have f1:=C3.out.2.2 1 (by simp)
 have f2:=C3.out.2.2 2 (by simp)
 have f3:=C3.out.2.2 3 (by simp)
 have f4:=C3.out.2.2 4 (by simp)
 go_wp2
 (try simp only [Exit.inBlock,Exit.then])
 exact bodyPost_ret (jaz (b:=w.heap.size+1) rfl rfl (jbs C3.out _ _ _ _ _)) rfl HP3.out
theorem yl2 (σ:StoreD) (c:Nat→Nat) (g n:Nat) (vs:List Value) (vl:Value) (m:Int) (name text:ByteArray) (inp:List Int) (va:Value) (w:World) (h:StoreC w c g σ vs vl) (hv:VarsOk w) (hvc:jc0 c) (hn:n<4) (ha:jgy w (fun b=>b<w.heap.size∧c b=0) ⟨5,m,name,text,inp⟩ va)
  (hI:Inv (ja8 σ n ⟨5,m,name,text,inp⟩).1) (hrs:(σ.sessN n).read.length+1000≤1000 * σ.acts) :
  Calls Tryz.prog 44 #[.pointer (some ⟨g,0,none⟩),.pointer (some ⟨g,1+n*7,none⟩),va] w (jam w c g (ja8 σ n ⟨5,m,name,text,inp⟩)):=by
 have HH:=Lib.hid h
 have HCL:=Lib.hid h.lt
 have HV:=Lib.hid hv
 have HVC:=Lib.hid hvc
 have HX:Hid (σ.sess[n]? = some (σ.sessN n)):=je5 h.inv hn
 have HSO:=Lib.hid (h.inv.at n)
 have HIV:=Lib.hid h.inv
 have hcg:c g≠0:=by rw [h.col];decide
 have hgw:g<w.heap.size:=h.cs.1
 obtain ⟨vi,rfl,hi⟩:=ha
 simp only at hi
 have HIN:=Lib.hid hi
 obtain ⟨Ai,ci,rfl,-,-⟩:=hi.form
 clear h hv hvc hi
 have HI:=Lib.hid hI
 clear hI
 have HE:Hid (ja8 σ n ⟨5,m,name,text,inp⟩=(jaq σ n (jpi σ (σ.sessN n) inp).1,(jpi σ (σ.sessN n) inp).2)):=by show _=_;rfl
 have HI2:Hid (Inv ((jaq σ n (jpi σ (σ.sessN n) inp).1,(jpi σ (σ.sessN n) inp).2)).1):=by have:=HI.out;rw [HE.out] at this;exact this
 generalize ja8 σ n ⟨5,m,name,text,inp⟩=PV at *
 have hb0:=jac w (.cells #[.int .i64 5,.int .i64 m,.string name,.string text,.slice Ai inp.length ci] 24)
 have B0:=Lib.hid (Cs.new w [.int .i64 5,.int .i64 m,.string name,.string text,.slice Ai inp.length ci] 24)
 have hz0:(w.alloc (.cells #[.int .i64 5,.int .i64 m,.string name,.string text,.slice Ai inp.length ci] 24)).heap.size=w.heap.size+1:=by simp
 change Hid (Cs (w.alloc (.cells #[.int .i64 5,.int .i64 m,.string name,.string text,.slice Ai inp.length ci] 24)) _ _) at B0
 generalize hw0:w.alloc (.cells #[.int .i64 5,.int .i64 m,.string name,.string text,.slice Ai inp.length ci] 24)=w0 at *
 have hb1:=jac w0 (.cells #[.int .i64 0,.int .i64 0,.string ⟨#[]⟩,.slice none 0 0,.slice none 0 0] 30)
 have C1:=Lib.hid (Cs.new w0 zeroRL 30)
 have hz1:(w0.alloc (.cells #[.int .i64 0,.int .i64 0,.string ⟨#[]⟩,.slice none 0 0,.slice none 0 0] 30)).heap.size=w.heap.size+2:=by simp;omega
 change Hid (Cs (w0.alloc (.cells #[.int .i64 0,.int .i64 0,.string ⟨#[]⟩,.slice none 0 0,.slice none 0 0] 30)) _ _) at C1
 rw [hz0] at C1
 have B1:=Lib.hid (B0.out.next hb1)
 have hb01:=bx hb0 hb1
 generalize hw1:w0.alloc (.cells #[.int .i64 0,.int .i64 0,.string ⟨#[]⟩,.slice none 0 0,.slice none 0 0] 30)=w1 at *
 have H1:=Lib.hid (HH.out.next hb01)
 have HV1:=Lib.hid (HV.out.next hb01)
 have k0:=B1.out.at 0 rfl
 have k1:=B1.out.at 1 rfl
 have k2:=B1.out.at 2 rfl
 have k3:=B1.out.at 3 rfl
 have k4:=B1.out.at 4 rfl
 have hIN1:Hid (Sl Enc.int w1 (fun b=>b<w1.heap.size∧c b=0) inp (.slice Ai inp.length ci)):=(HIN.out.keep (w':=w1) fun p hp=>World.cell?_of_block (hb01.block _ hp.1)).more fun q hq=>⟨by have:=hq.1;omega,hq.2⟩
 have hc1:c (w.heap.size+1)=0:=jb1 HCL.out (by omega)
 go_enter Tryz.func44,Tryz.ntmps44
 go_wp2_with fail
 clear hw0 hw1 k0 k1 k2 k3 k4
 refine (ym1 σ c g n vs vl (σ.sessN n) inp _ _ H1.out HX.out hIN1.out hrs HI2.out).mono ?_
 rintro e w3 hP
 rw [← HE.out] at hP
 obtain ⟨A1,q1,A2,q2,rfl,hC3,hP3⟩:=hP.up (Fr.below hb01) (b0:=w.heap.size+1) (by omega) (by omega) hc1 C1.out
 have C3:=Lib.hid hC3
 have HP3:=Lib.hid hP3
 clear hP hC3 hP3
 have r0:=C3.out.at 0 rfl
 have r1:=C3.out.at 1 rfl
 have r2:=C3.out.at 2 rfl
 have r3:=C3.out.at 3 rfl
 have r4:=C3.out.at 4 rfl
 have f0:=C3.out.2.2 0 (by simp)
 have f1:=C3.out.2.2 1 (by simp)
 have f2:=C3.out.2.2 2 (by simp)
 have f3:=C3.out.2.2 3 (by simp)
 have f4:=C3.out.2.2 4 (by simp)
 go_wp2
 (try simp only [Exit.inBlock,Exit.then])
 exact bodyPost_ret (jaz (b:=w.heap.size+1) rfl rfl (jbs C3.out _ _ _ _ _)) rfl HP3.out
open Go.RowKit Go.Shelf
theorem VarsOk.drewS {w:World} (h:VarsOk w):VarsOk w.drew:=h.next ((Below.refl _ _).drew)
theorem yq9 (σ:StoreD) (c:Nat→Nat) (g:Nat) (vs:List Value) (vl:Value) (a:ActD) (va:Value) (w:World) (h:StoreC w c g σ vs vl) (hv:VarsOk w) (hvc:jc0 c) (ha:jgy w (fun b=>b<w.heap.size∧c b=0) a va)
  (hr:200 ≤ σ.acts∨¬ (2≤a.kind∧a.kind≤7)) :
  Calls Tryz.prog 15 #[.pointer (some ⟨g,0,none⟩),va] w (jam w c g (doV σ a)):=by
 have HH:=Lib.hid h
 have HCL:=Lib.hid h.lt
 have HV:=Lib.hid hv
 have HVC:=Lib.hid hvc
 have HIV:=Lib.hid h.inv
 have hcg:c g≠0:=by rw [h.col];decide
 have hgw:g<w.heap.size:=h.cs.1
 have hac:=h.inv.acts
 obtain ⟨kind,m,name,text,inp⟩:=a
 obtain ⟨vi,rfl,hi⟩:=ha
 simp only at hi hr
 have HIN:=Lib.hid hi
 obtain ⟨Ai,ci,rfl,-,-⟩:=hi.form
 clear h hv hvc hi
 have hb0:=jac w (.cells #[.int .i64 kind,.int .i64 m,.string name,.string text,.slice Ai inp.length ci] 24)
 have B0:=Lib.hid (Cs.new w [.int .i64 kind,.int .i64 m,.string name,.string text,.slice Ai inp.length ci] 24)
 have hz0:(w.alloc (.cells #[.int .i64 kind,.int .i64 m,.string name,.string text,.slice Ai inp.length ci] 24)).heap.size=w.heap.size+1:=by simp
 change Hid (Cs (w.alloc (.cells #[.int .i64 kind,.int .i64 m,.string name,.string text,.slice Ai inp.length ci] 24)) _ _) at B0
 generalize hw0:w.alloc (.cells #[.int .i64 kind,.int .i64 m,.string name,.string text,.slice Ai inp.length ci] 24)=w0 at *
 have hb1:=jac w0 (.cells #[.int .i64 0,.int .i64 0,.string ⟨#[]⟩,.slice none 0 0,.slice none 0 0] 30)
 have C1:=Lib.hid (Cs.new w0 zeroRL 30)
 have hz1:(w0.alloc (.cells #[.int .i64 0,.int .i64 0,.string ⟨#[]⟩,.slice none 0 0,.slice none 0 0] 30)).heap.size=w.heap.size+2:=by simp;omega
 change Hid (Cs (w0.alloc (.cells #[.int .i64 0,.int .i64 0,.string ⟨#[]⟩,.slice none 0 0,.slice none 0 0] 30)) _ _) at C1
 rw [hz0] at C1
 have B1:=Lib.hid (B0.out.next hb1)
 have hb01:=bx hb0 hb1
 generalize hw1:w0.alloc (.cells #[.int .i64 0,.int .i64 0,.string ⟨#[]⟩,.slice none 0 0,.slice none 0 0] 30)=w1 at *
 have H1:=Lib.hid (HH.out.next hb01)
 have HV1:=Lib.hid (HV.out.next hb01)
 have k0:=B1.out.at 0 rfl
 have k1:=B1.out.at 1 rfl
 have k2:=B1.out.at 2 rfl
 have k3:=B1.out.at 3 rfl
 have k4:=B1.out.at 4 rfl
 have hIN1:Hid (Sl Enc.int w1 (fun b=>b<w1.heap.size∧c b=0) inp (.slice Ai inp.length ci)):=(HIN.out.keep (w':=w1) fun p hp=>World.cell?_of_block (hb01.block _ hp.1)).more fun q hq=>⟨by have:=hq.1;omega,hq.2⟩
 have hc1:c (w.heap.size+1)=0:=jb1 HCL.out (by omega)
 have q29:w1.cell? ⟨g,29,none⟩=some (.int .i64 σ.acts):=H1.out.cs.at 29 H1.out.acts
 have z29:w1.frozen? ⟨g,29,none⟩=false:=H1.out.cs.2.2 29 (by rw [H1.out.len];decide)
 by_cases hfull:200 ≤ σ.acts
 ·have HE:Hid (doV σ ⟨kind,m,name,text,inp⟩=(σ,jb8 11)):=by show _=_;unfold doV;rw [if_pos hfull]
  have hfi:(200:Int)≤(σ.acts:Int):=by omega
  have r0:=C1.out.at 0 rfl
  have r1:=C1.out.at 1 rfl
  have r2:=C1.out.at 2 rfl
  have r3:=C1.out.at 3 rfl
  have r4:=C1.out.at 4 rfl
  have f0:=C1.out.2.2 0 (by simp)
  have f1:=C1.out.2.2 1 (by simp)
  have f2:=C1.out.2.2 2 (by simp)
  have f3:=C1.out.2.2 3 (by simp)
  have f4:=C1.out.2.2 4 (by simp)
  go_enter Tryz.func15,Tryz.ntmps15
  go_wp2
  (try simp only [Exit.inBlock,Exit.then])
  refine bodyPost_ret (jaz (b:=w.heap.size+1) rfl rfl (jbs C1.out _ _ _ _ _)) rfl ?_
  rw [HE.out]
  exact jam.wrote H1.out (fun _ _=>rfl) (by omega) hc1 (Fr.below hb01) (jb0.plain 11 0 _)
 ·have hfi:¬ (200:Int)≤(σ.acts:Int):=by omega
  have hwa:IntKind.i64.wrap ((σ.acts:Int)+1)=(σ.acts:Int)+1:=by rw [IntKind.wrap_i64];omega
  have H2:Hid (∃ vs2,StoreC (w1.setCell ⟨g,29,none⟩ (.int .i64 ((σ.acts:Int)+1))) c g (jbj σ) vs2 vl):=⟨_,H1.out.tick (by omega)⟩
  have hF2:Hid (Fr c w (w1.setCell ⟨g,29,none⟩ (.int .i64 ((σ.acts:Int)+1)))):=(Fr.below hb01).trans (Fr.set c w1 g 29 _ hcg) (fun _ _=>rfl)
  have HV2:=Lib.hid (HV.out.fr HVC.out hF2.out)
  have hne0:w.heap.size≠g:=by omega
  have hne1:w.heap.size+1≠g:=by omega
  have hz2:(w1.setCell ⟨g,29,none⟩ (.int .i64 ((σ.acts:Int)+1))).heap.size=w.heap.size+2:=by simp [World.setCell];exact hz1
  have C2:=Lib.hid (C1.out.keep (w':=w1.setCell ⟨g,29,none⟩ (.int .i64 ((σ.acts:Int)+1))) (RowKit.Below.heap_setCell _ _ _ _ hne1) (by simp [World.setCell]))
  have B2:=Lib.hid (B1.out.keep (w':=w1.setCell ⟨g,29,none⟩ (.int .i64 ((σ.acts:Int)+1))) (RowKit.Below.heap_setCell _ _ _ _ hne0) (by simp [World.setCell]))
  have hIN2:Hid (Sl Enc.int (w1.setCell ⟨g,29,none⟩ (.int .i64 ((σ.acts:Int)+1))) (fun b=>b<(w1.setCell ⟨g,29,none⟩ (.int .i64 ((σ.acts:Int)+1))).heap.size∧c b=0) inp (.slice Ai inp.length ci)):=(hIN1.out.keep (w':=w1.setCell ⟨g,29,none⟩ (.int .i64 ((σ.acts:Int)+1))) fun p hp=>World.cell?_of_block (RowKit.Below.heap_setCell _ _ _ _ (fun e=>hcg (by have e2:p.block=g:=e;rw [← e2];exact hp.2)))).more fun q hq=>⟨by have:=hq.1;omega,hq.2⟩
  have e0:=B2.out.at 0 rfl
  have e1:=B2.out.at 1 rfl
  have e2:=B2.out.at 2 rfl
  have e3:=B2.out.at 3 rfl
  have e4:=B2.out.at 4 rfl
  by_cases k1':kind=1
  ·subst k1'
   have HE:Hid (doV σ ⟨1,m,name,text,inp⟩=jmt (jbj σ) m):=by show _=_;unfold doV;rw [if_neg hfull];rfl
   generalize doV σ ⟨1,m,name,text,inp⟩=PV at *
   go_enter Tryz.func15,Tryz.ntmps15
   go_wp2_with fail
   clear hw0 hw1 k0 k1 k2 k3 k4 e0 e1 e2 e3 e4 q29 z29
   generalize w1.setCell ⟨g,29,none⟩ (.int .i64 ((σ.acts:Int)+1))=w2 at *
   obtain ⟨vs2,hst2⟩:=H2.out
   refine (yim (jbj σ) c g vs2 vl _ hst2 m).mono ?_
   rintro e w3 hP
   rw [← HE.out] at hP
   obtain ⟨A1,q1,A2,q2,rfl,hC3,hP3⟩:=hP.up hF2.out (b0:=w.heap.size+1) (by omega) (by omega) hc1 C2.out
   have C3:=Lib.hid hC3
   have HP3:=Lib.hid hP3
   clear hP hC3 hP3
   have r0:=C3.out.at 0 rfl
   have r1:=C3.out.at 1 rfl
   have r2:=C3.out.at 2 rfl
   have r3:=C3.out.at 3 rfl
   have r4:=C3.out.at 4 rfl
   have f0:=C3.out.2.2 0 (by simp)
   have f1:=C3.out.2.2 1 (by simp)
   have f2:=C3.out.2.2 2 (by simp)
   have f3:=C3.out.2.2 3 (by simp)
   have f4:=C3.out.2.2 4 (by simp)
   go_wp2
   (try simp only [Exit.inBlock,Exit.then])
   exact bodyPost_ret (jaz (b:=w.heap.size+1) rfl rfl (jbs C3.out _ _ _ _ _)) rfl HP3.out
  ·have hk:¬ (2≤kind∧kind≤7):=by
    rcases hr with hr | hr
    ·exact absurd hr hfull
    ·exact hr
   have HE:Hid (doV σ ⟨kind,m,name,text,inp⟩=(jbj σ,jb8 10)):=by show _=_;unfold doV;rw [if_neg hfull,if_neg k1',if_neg hk]
   have n1:(kind == 1)=false:=by rw [beq_eq_false_iff_ne];exact k1'
   have n2:(kind == 2)=false:=by rw [beq_eq_false_iff_ne];omega
   have n3:(kind == 3)=false:=by rw [beq_eq_false_iff_ne];omega
   have n4:(kind == 4)=false:=by rw [beq_eq_false_iff_ne];omega
   have n5:(kind == 5)=false:=by rw [beq_eq_false_iff_ne];omega
   have n6:(kind == 6)=false:=by rw [beq_eq_false_iff_ne];omega
   have n7:(kind == 7)=false:=by rw [beq_eq_false_iff_ne];omega
   generalize doV σ ⟨kind,m,name,text,inp⟩=PV at *
   clear hk k1'
   have r0:=C2.out.at 0 rfl
   have r1:=C2.out.at 1 rfl
   have r2:=C2.out.at 2 rfl
   have r3:=C2.out.at 3 rfl
   have r4:=C2.out.at 4 rfl
   have f0:=C2.out.2.2 0 (by simp)
   have f1:=C2.out.2.2 1 (by simp)
   have f2:=C2.out.2.2 2 (by simp)
   have f3:=C2.out.2.2 3 (by simp)
   have f4:=C2.out.2.2 4 (by simp)
   go_enter Tryz.func15,Tryz.ntmps15
   go_wp2
   (try simp only [Exit.inBlock,Exit.then])
   refine bodyPost_ret (jaz (b:=w.heap.size+1) rfl rfl (jbs C2.out _ _ _ _ _)) rfl ?_
   rw [HE.out]
   obtain ⟨vs2,hst2⟩:=H2.out
   exact jam.wrote hst2 (fun _ _=>rfl) (by omega) hc1 hF2.out (jb0.plain 10 0 _)
open Go.RowKit Go.Shelf
theorem do_2 (σ:StoreD) (c:Nat→Nat) (g:Nat) (vs:List Value) (vl:Value) (m:Int) (name text:ByteArray) (inp:List Int) (va:Value) (w:World) (h:StoreC w c g σ vs vl) (hv:VarsOk w) (hvc:jc0 c) (ha:jgy w (fun b=>b<w.heap.size∧c b=0) ⟨2,m,name,text,inp⟩ va)
  (hs2:text.size≤140737488355328) (hfull:¬ 200 ≤ σ.acts) :
  Calls Tryz.prog 15 #[.pointer (some ⟨g,0,none⟩),va] w (jam w c g (doV σ ⟨2,m,name,text,inp⟩)):=by
 have HH:=Lib.hid h
 have HCL:=Lib.hid h.lt
 have HV:=Lib.hid hv
 have HVC:=Lib.hid hvc
 have HIV:=Lib.hid h.inv
 have hcg:c g≠0:=by rw [h.col];decide
 have hgw:g<w.heap.size:=h.cs.1
 have hac:=h.inv.acts
 have HID:=Lib.hid (h.inv.do_ ⟨2,m,name,text,inp⟩)
 obtain ⟨vi,rfl,hi⟩:=ha
 simp only at hi
 have HIN:=Lib.hid hi
 obtain ⟨Ai,ci,rfl,-,-⟩:=hi.form
 clear h hv hvc hi
 have hb0:=jac w (.cells #[.int .i64 2,.int .i64 m,.string name,.string text,.slice Ai inp.length ci] 24)
 have B0:=Lib.hid (Cs.new w [.int .i64 2,.int .i64 m,.string name,.string text,.slice Ai inp.length ci] 24)
 have hz0:(w.alloc (.cells #[.int .i64 2,.int .i64 m,.string name,.string text,.slice Ai inp.length ci] 24)).heap.size=w.heap.size+1:=by simp
 change Hid (Cs (w.alloc (.cells #[.int .i64 2,.int .i64 m,.string name,.string text,.slice Ai inp.length ci] 24)) _ _) at B0
 generalize hw0:w.alloc (.cells #[.int .i64 2,.int .i64 m,.string name,.string text,.slice Ai inp.length ci] 24)=w0 at *
 have hb1:=jac w0 (.cells #[.int .i64 0,.int .i64 0,.string ⟨#[]⟩,.slice none 0 0,.slice none 0 0] 30)
 have C1:=Lib.hid (Cs.new w0 zeroRL 30)
 have hz1:(w0.alloc (.cells #[.int .i64 0,.int .i64 0,.string ⟨#[]⟩,.slice none 0 0,.slice none 0 0] 30)).heap.size=w.heap.size+2:=by simp;omega
 change Hid (Cs (w0.alloc (.cells #[.int .i64 0,.int .i64 0,.string ⟨#[]⟩,.slice none 0 0,.slice none 0 0] 30)) _ _) at C1
 rw [hz0] at C1
 have B1:=Lib.hid (B0.out.next hb1)
 have hb01:=bx hb0 hb1
 generalize hw1:w0.alloc (.cells #[.int .i64 0,.int .i64 0,.string ⟨#[]⟩,.slice none 0 0,.slice none 0 0] 30)=w1 at *
 have H1:=Lib.hid (HH.out.next hb01)
 have HV1:=Lib.hid (HV.out.next hb01)
 have k0:=B1.out.at 0 rfl
 have k1:=B1.out.at 1 rfl
 have k2:=B1.out.at 2 rfl
 have k3:=B1.out.at 3 rfl
 have k4:=B1.out.at 4 rfl
 have hIN1:Hid (Sl Enc.int w1 (fun b=>b<w1.heap.size∧c b=0) inp (.slice Ai inp.length ci)):=(HIN.out.keep (w':=w1) fun p hp=>World.cell?_of_block (hb01.block _ hp.1)).more fun q hq=>⟨by have:=hq.1;omega,hq.2⟩
 have hc1:c (w.heap.size+1)=0:=jb1 HCL.out (by omega)
 have q29:w1.cell? ⟨g,29,none⟩=some (.int .i64 σ.acts):=H1.out.cs.at 29 H1.out.acts
 have z29:w1.frozen? ⟨g,29,none⟩=false:=H1.out.cs.2.2 29 (by rw [H1.out.len];decide)
 have hfi:¬ (200:Int)≤(σ.acts:Int):=by omega
 have hwa:IntKind.i64.wrap ((σ.acts:Int)+1)=(σ.acts:Int)+1:=by rw [IntKind.wrap_i64];omega
 have H2:Hid (∃ vs2,StoreC (w1.setCell ⟨g,29,none⟩ (.int .i64 ((σ.acts:Int)+1))) c g (jbj σ) vs2 vl):=⟨_,H1.out.tick (by omega)⟩
 have hF2:Hid (Fr c w (w1.setCell ⟨g,29,none⟩ (.int .i64 ((σ.acts:Int)+1)))):=(Fr.below hb01).trans (Fr.set c w1 g 29 _ hcg) (fun _ _=>rfl)
 have HV2:=Lib.hid (HV.out.fr HVC.out hF2.out)
 have hne0:w.heap.size≠g:=by omega
 have hne1:w.heap.size+1≠g:=by omega
 have hz2:(w1.setCell ⟨g,29,none⟩ (.int .i64 ((σ.acts:Int)+1))).heap.size=w.heap.size+2:=by simp [World.setCell];exact hz1
 have C2:=Lib.hid (C1.out.keep (w':=w1.setCell ⟨g,29,none⟩ (.int .i64 ((σ.acts:Int)+1))) (RowKit.Below.heap_setCell _ _ _ _ hne1) (by simp [World.setCell]))
 have B2:=Lib.hid (B1.out.keep (w':=w1.setCell ⟨g,29,none⟩ (.int .i64 ((σ.acts:Int)+1))) (RowKit.Below.heap_setCell _ _ _ _ hne0) (by simp [World.setCell]))
 have hIN2:Hid (Sl Enc.int (w1.setCell ⟨g,29,none⟩ (.int .i64 ((σ.acts:Int)+1))) (fun b=>b<(w1.setCell ⟨g,29,none⟩ (.int .i64 ((σ.acts:Int)+1))).heap.size∧c b=0) inp (.slice Ai inp.length ci)):=(hIN1.out.keep (w':=w1.setCell ⟨g,29,none⟩ (.int .i64 ((σ.acts:Int)+1))) fun p hp=>World.cell?_of_block (RowKit.Below.heap_setCell _ _ _ _ (fun e=>hcg (by have e2:p.block=g:=e;rw [← e2];exact hp.2)))).more fun q hq=>⟨by have:=hq.1;omega,hq.2⟩
 have e0:=B2.out.at 0 rfl
 have e1:=B2.out.at 1 rfl
 have e2:=B2.out.at 2 rfl
 have e3:=B2.out.at 3 rfl
 have e4:=B2.out.at 4 rfl
 have HE0:Hid (doV σ ⟨2,m,name,text,inp⟩=if jcp (jbj σ) m then ja8 (jbj σ) m.toNat ⟨2,m,name,text,inp⟩ else (jbj σ,jb8 3)):=by show _=_;unfold doV;rw [if_neg hfull];rfl
 generalize doV σ ⟨2,m,name,text,inp⟩=PV at *
 go_enter Tryz.func15,Tryz.ntmps15
 go_wp2_with fail
 clear hw0 hw1 k0 k1 k2 k3 k4 q29 z29
 generalize w1.setCell ⟨g,29,none⟩ (.int .i64 ((σ.acts:Int)+1))=w2 at *
 obtain ⟨vs2,hst2⟩:=H2.out
 have H3:=Lib.hid hst2
 clear hst2 H2
 refine (jgh (jbj σ) c g vs2 vl _ H3.out m).mono ?_
 rintro e w3 ⟨rfl,hw3⟩
 replace hw3:=hw3.symm
 subst hw3
 cases hop:jcp (jbj σ) m
 ·have HE:Hid (PV=(jbj σ,jb8 3)):=by show _=_;rw [HE0.out,hop];rfl
  clear hop HE0
  have r0:=C2.out.at 0 rfl
  have r1:=C2.out.at 1 rfl
  have r2:=C2.out.at 2 rfl
  have r3:=C2.out.at 3 rfl
  have r4:=C2.out.at 4 rfl
  have f0:=C2.out.2.2 0 (by simp)
  have f1:=C2.out.2.2 1 (by simp)
  have f2:=C2.out.2.2 2 (by simp)
  have f3:=C2.out.2.2 3 (by simp)
  have f4:=C2.out.2.2 4 (by simp)
  go_wp2
  (try simp only [Exit.inBlock,Exit.then])
  refine bodyPost_ret (jaz (b:=w.heap.size+1) rfl rfl (jbs C2.out _ _ _ _ _)) rfl ?_
  rw [HE.out]
  exact jam.wrote H3.out (fun _ _=>rfl) (by omega) hc1 hF2.out (jb0.plain 3 0 _)
 ·obtain ⟨h0,h4,-⟩:=jd9.1 hop
  have HE:Hid (PV=ja8 (jbj σ) m.toNat ⟨2,m,name,text,inp⟩):=by show _=_;rw [HE0.out,hop];rfl
  have HI:=HID.out
  rw [HE.out] at HI
  obtain ⟨k,rfl⟩:∃ k:Nat,m=k:=⟨m.toNat,by omega⟩
  rw [Int.toNat_natCast] at HI HE
  have HI2:=Lib.hid HI
  have hk4:k<4:=by omega
  clear hop HE0 HI HID
  have H3d:=Lib.hid H3.out.drewS
  have HV2d:=Lib.hid HV2.out.drewS
  have hF2d:=Lib.hid hF2.out.drew
  have C2d:=Lib.hid C2.out.drew
  have hA2d:Hid (jgy w2.drew (fun b=>b<w2.drew.heap.size∧c b=0) ⟨2,k,name,text,inp⟩ (.agg #[.int .i64 2,.int .i64 k,.string name,.string text,.slice Ai inp.length ci])):=⟨_,rfl,hIN2.out.keep (w':=w2.drew) fun _ _=>rfl⟩
  have d0:w2.drew.cell? ⟨w.heap.size,0,none⟩=_:=e0
  have d1:w2.drew.cell? ⟨w.heap.size,1,none⟩=_:=e1
  have d2:w2.drew.cell? ⟨w.heap.size,2,none⟩=_:=e2
  have d3:w2.drew.cell? ⟨w.heap.size,3,none⟩=_:=e3
  have d4:w2.drew.cell? ⟨w.heap.size,4,none⟩=_:=e4
  have hzd:w2.drew.heap.size=w.heap.size+2:=hz2
  have hk0:(0:Int)≤k:=by omega
  have hk4':(k:Int)<4:=by omega
  go_wp2_with fail
  go_region_law (first
   | (go_simp;go_at_call 44;refine (ylz (jbj σ) c g k vs2 vl k name text inp _ _ H3d.out HV2d.out HVC.out hk4 hA2d.out hs2 HI2.out).mono ?_;rintro e w3 hP;rw [← HE.out] at hP;obtain ⟨A1,q1,A2,q2,rfl,hC3,hP3⟩:=hP.up hF2d.out (b0:=w.heap.size+1) (by omega) (by omega) hc1 C2d.out;have C3:=Lib.hid hC3;have HP3:=Lib.hid hP3;clear hP hC3 hP3;have r0:=C3.out.at 0 rfl;have r1:=C3.out.at 1 rfl;have r2:=C3.out.at 2 rfl;have r3:=C3.out.at 3 rfl;have r4:=C3.out.at 4 rfl;have f0:=C3.out.2.2 0 (by simp);have f1:=C3.out.2.2 1 (by simp);have f2:=C3.out.2.2 2 (by simp);have f3:=C3.out.2.2 3 (by simp);have f4:=C3.out.2.2 4 (by simp)))
  all_goals
   go_wp2
   (try simp only [Exit.inBlock,Exit.then])
   exact bodyPost_ret (jaz (b:=w.heap.size+1) rfl rfl (jbs C3.out _ _ _ _ _)) rfl HP3.out
open Go.RowKit Go.Shelf
theorem do_3 (σ:StoreD) (c:Nat→Nat) (g:Nat) (vs:List Value) (vl:Value) (m:Int) (name text:ByteArray) (inp:List Int) (va:Value) (w:World) (h:StoreC w c g σ vs vl) (hv:VarsOk w) (hvc:jc0 c) (ha:jgy w (fun b=>b<w.heap.size∧c b=0) ⟨3,m,name,text,inp⟩ va)
  (hs1:name.size≤140737488355328) (hfull:¬ 200 ≤ σ.acts) :
  Calls Tryz.prog 15 #[.pointer (some ⟨g,0,none⟩),va] w (jam w c g (doV σ ⟨3,m,name,text,inp⟩)):=by
 have HH:=Lib.hid h
 have HCL:=Lib.hid h.lt
 have HV:=Lib.hid hv
 have HVC:=Lib.hid hvc
 have HIV:=Lib.hid h.inv
 have hcg:c g≠0:=by rw [h.col];decide
 have hgw:g<w.heap.size:=h.cs.1
 have hac:=h.inv.acts
 have HID:=Lib.hid (h.inv.do_ ⟨3,m,name,text,inp⟩)
 obtain ⟨vi,rfl,hi⟩:=ha
 simp only at hi
 have HIN:=Lib.hid hi
 obtain ⟨Ai,ci,rfl,-,-⟩:=hi.form
 clear h hv hvc hi
 have hb0:=jac w (.cells #[.int .i64 3,.int .i64 m,.string name,.string text,.slice Ai inp.length ci] 24)
 have B0:=Lib.hid (Cs.new w [.int .i64 3,.int .i64 m,.string name,.string text,.slice Ai inp.length ci] 24)
 have hz0:(w.alloc (.cells #[.int .i64 3,.int .i64 m,.string name,.string text,.slice Ai inp.length ci] 24)).heap.size=w.heap.size+1:=by simp
 change Hid (Cs (w.alloc (.cells #[.int .i64 3,.int .i64 m,.string name,.string text,.slice Ai inp.length ci] 24)) _ _) at B0
 generalize hw0:w.alloc (.cells #[.int .i64 3,.int .i64 m,.string name,.string text,.slice Ai inp.length ci] 24)=w0 at *
 have hb1:=jac w0 (.cells #[.int .i64 0,.int .i64 0,.string ⟨#[]⟩,.slice none 0 0,.slice none 0 0] 30)
 have C1:=Lib.hid (Cs.new w0 zeroRL 30)
 have hz1:(w0.alloc (.cells #[.int .i64 0,.int .i64 0,.string ⟨#[]⟩,.slice none 0 0,.slice none 0 0] 30)).heap.size=w.heap.size+2:=by simp;omega
 change Hid (Cs (w0.alloc (.cells #[.int .i64 0,.int .i64 0,.string ⟨#[]⟩,.slice none 0 0,.slice none 0 0] 30)) _ _) at C1
 rw [hz0] at C1
 have B1:=Lib.hid (B0.out.next hb1)
 have hb01:=bx hb0 hb1
 generalize hw1:w0.alloc (.cells #[.int .i64 0,.int .i64 0,.string ⟨#[]⟩,.slice none 0 0,.slice none 0 0] 30)=w1 at *
 have H1:=Lib.hid (HH.out.next hb01)
 have HV1:=Lib.hid (HV.out.next hb01)
 have k0:=B1.out.at 0 rfl
 have k1:=B1.out.at 1 rfl
 have k2:=B1.out.at 2 rfl
 have k3:=B1.out.at 3 rfl
 have k4:=B1.out.at 4 rfl
 have hIN1:Hid (Sl Enc.int w1 (fun b=>b<w1.heap.size∧c b=0) inp (.slice Ai inp.length ci)):=(HIN.out.keep (w':=w1) fun p hp=>World.cell?_of_block (hb01.block _ hp.1)).more fun q hq=>⟨by have:=hq.1;omega,hq.2⟩
 have hc1:c (w.heap.size+1)=0:=jb1 HCL.out (by omega)
 have q29:w1.cell? ⟨g,29,none⟩=some (.int .i64 σ.acts):=H1.out.cs.at 29 H1.out.acts
 have z29:w1.frozen? ⟨g,29,none⟩=false:=H1.out.cs.2.2 29 (by rw [H1.out.len];decide)
 have hfi:¬ (200:Int)≤(σ.acts:Int):=by omega
 have hwa:IntKind.i64.wrap ((σ.acts:Int)+1)=(σ.acts:Int)+1:=by rw [IntKind.wrap_i64];omega
 have H2:Hid (∃ vs2,StoreC (w1.setCell ⟨g,29,none⟩ (.int .i64 ((σ.acts:Int)+1))) c g (jbj σ) vs2 vl):=⟨_,H1.out.tick (by omega)⟩
 have hF2:Hid (Fr c w (w1.setCell ⟨g,29,none⟩ (.int .i64 ((σ.acts:Int)+1)))):=(Fr.below hb01).trans (Fr.set c w1 g 29 _ hcg) (fun _ _=>rfl)
 have HV2:=Lib.hid (HV.out.fr HVC.out hF2.out)
 have hne0:w.heap.size≠g:=by omega
 have hne1:w.heap.size+1≠g:=by omega
 have hz2:(w1.setCell ⟨g,29,none⟩ (.int .i64 ((σ.acts:Int)+1))).heap.size=w.heap.size+2:=by simp [World.setCell];exact hz1
 have C2:=Lib.hid (C1.out.keep (w':=w1.setCell ⟨g,29,none⟩ (.int .i64 ((σ.acts:Int)+1))) (RowKit.Below.heap_setCell _ _ _ _ hne1) (by simp [World.setCell]))
 have B2:=Lib.hid (B1.out.keep (w':=w1.setCell ⟨g,29,none⟩ (.int .i64 ((σ.acts:Int)+1))) (RowKit.Below.heap_setCell _ _ _ _ hne0) (by simp [World.setCell]))
 have hIN2:Hid (Sl Enc.int (w1.setCell ⟨g,29,none⟩ (.int .i64 ((σ.acts:Int)+1))) (fun b=>b<(w1.setCell ⟨g,29,none⟩ (.int .i64 ((σ.acts:Int)+1))).heap.size∧c b=0) inp (.slice Ai inp.length ci)):=(hIN1.out.keep (w':=w1.setCell ⟨g,29,none⟩ (.int .i64 ((σ.acts:Int)+1))) fun p hp=>World.cell?_of_block (RowKit.Below.heap_setCell _ _ _ _ (fun e=>hcg (by have e2:p.block=g:=e;rw [← e2];exact hp.2)))).more fun q hq=>⟨by have:=hq.1;omega,hq.2⟩
 have e0:=B2.out.at 0 rfl
 have e1:=B2.out.at 1 rfl
 have e2:=B2.out.at 2 rfl
 have e3:=B2.out.at 3 rfl
 have e4:=B2.out.at 4 rfl
 have HE0:Hid (doV σ ⟨3,m,name,text,inp⟩=if jcp (jbj σ) m then ja8 (jbj σ) m.toNat ⟨3,m,name,text,inp⟩ else (jbj σ,jb8 3)):=by show _=_;unfold doV;rw [if_neg hfull];rfl
 generalize doV σ ⟨3,m,name,text,inp⟩=PV at *
 go_enter Tryz.func15,Tryz.ntmps15
 go_wp2_with fail
 clear hw0 hw1 k0 k1 k2 k3 k4 q29 z29
 generalize w1.setCell ⟨g,29,none⟩ (.int .i64 ((σ.acts:Int)+1))=w2 at *
 obtain ⟨vs2,hst2⟩:=H2.out
 have H3:=Lib.hid hst2
 clear hst2 H2
 refine (jgh (jbj σ) c g vs2 vl _ H3.out m).mono ?_
 rintro e w3 ⟨rfl,hw3⟩
 replace hw3:=hw3.symm
 subst hw3
 cases hop:jcp (jbj σ) m
 ·have HE:Hid (PV=(jbj σ,jb8 3)):=by show _=_;rw [HE0.out,hop];rfl
  clear hop HE0
  have r0:=C2.out.at 0 rfl
  have r1:=C2.out.at 1 rfl
  have r2:=C2.out.at 2 rfl
  have r3:=C2.out.at 3 rfl
  have r4:=C2.out.at 4 rfl
  have f0:=C2.out.2.2 0 (by simp)
  have f1:=C2.out.2.2 1 (by simp)
  have f2:=C2.out.2.2 2 (by simp)
  have f3:=C2.out.2.2 3 (by simp)
  have f4:=C2.out.2.2 4 (by simp)
  go_wp2
  (try simp only [Exit.inBlock,Exit.then])
  refine bodyPost_ret (jaz (b:=w.heap.size+1) rfl rfl (jbs C2.out _ _ _ _ _)) rfl ?_
  rw [HE.out]
  exact jam.wrote H3.out (fun _ _=>rfl) (by omega) hc1 hF2.out (jb0.plain 3 0 _)
 ·obtain ⟨h0,h4,-⟩:=jd9.1 hop
  have HE:Hid (PV=ja8 (jbj σ) m.toNat ⟨3,m,name,text,inp⟩):=by show _=_;rw [HE0.out,hop];rfl
  have HI:=HID.out
  rw [HE.out] at HI
  obtain ⟨k,rfl⟩:∃ k:Nat,m=k:=⟨m.toNat,by omega⟩
  rw [Int.toNat_natCast] at HI HE
  have HI2:=Lib.hid HI
  have hk4:k<4:=by omega
  clear hop HE0 HI HID
  have H3d:=Lib.hid H3.out.drewS
  have HV2d:=Lib.hid HV2.out.drewS
  have hF2d:=Lib.hid hF2.out.drew
  have C2d:=Lib.hid C2.out.drew
  have hA2d:Hid (jgy w2.drew (fun b=>b<w2.drew.heap.size∧c b=0) ⟨3,k,name,text,inp⟩ (.agg #[.int .i64 3,.int .i64 k,.string name,.string text,.slice Ai inp.length ci])):=⟨_,rfl,hIN2.out.keep (w':=w2.drew) fun _ _=>rfl⟩
  have d0:w2.drew.cell? ⟨w.heap.size,0,none⟩=_:=e0
  have d1:w2.drew.cell? ⟨w.heap.size,1,none⟩=_:=e1
  have d2:w2.drew.cell? ⟨w.heap.size,2,none⟩=_:=e2
  have d3:w2.drew.cell? ⟨w.heap.size,3,none⟩=_:=e3
  have d4:w2.drew.cell? ⟨w.heap.size,4,none⟩=_:=e4
  have hzd:w2.drew.heap.size=w.heap.size+2:=hz2
  have hk0:(0:Int)≤k:=by omega
  have hk4':(k:Int)<4:=by omega
  go_wp2_with fail
  go_region_law (first
   | (go_simp;go_at_call 44;refine (yl0 (jbj σ) c g k vs2 vl k name text inp _ _ H3d.out HV2d.out HVC.out hk4 hA2d.out hs1 HI2.out).mono ?_;rintro e w3 hP;rw [← HE.out] at hP;obtain ⟨A1,q1,A2,q2,rfl,hC3,hP3⟩:=hP.up hF2d.out (b0:=w.heap.size+1) (by omega) (by omega) hc1 C2d.out;have C3:=Lib.hid hC3;have HP3:=Lib.hid hP3;clear hP hC3 hP3;have r0:=C3.out.at 0 rfl;have r1:=C3.out.at 1 rfl;have r2:=C3.out.at 2 rfl;have r3:=C3.out.at 3 rfl;have r4:=C3.out.at 4 rfl;have f0:=C3.out.2.2 0 (by simp);have f1:=C3.out.2.2 1 (by simp);have f2:=C3.out.2.2 2 (by simp);have f3:=C3.out.2.2 3 (by simp);have f4:=C3.out.2.2 4 (by simp)))
  all_goals
   go_wp2
   (try simp only [Exit.inBlock,Exit.then])
   exact bodyPost_ret (jaz (b:=w.heap.size+1) rfl rfl (jbs C3.out _ _ _ _ _)) rfl HP3.out
open Go.RowKit Go.Shelf
theorem do_4 (σ:StoreD) (c:Nat→Nat) (g:Nat) (vs:List Value) (vl:Value) (m:Int) (name text:ByteArray) (inp:List Int) (va:Value) (w:World) (h:StoreC w c g σ vs vl) (hv:VarsOk w) (hvc:jc0 c) (ha:jgy w (fun b=>b<w.heap.size∧c b=0) ⟨4,m,name,text,inp⟩ va)
  (hs1:name.size≤140737488355328) (hfull:¬ 200 ≤ σ.acts) :
  Calls Tryz.prog 15 #[.pointer (some ⟨g,0,none⟩),va] w (jam w c g (doV σ ⟨4,m,name,text,inp⟩)):=by
 have HH:=Lib.hid h
 have HCL:=Lib.hid h.lt
 have HV:=Lib.hid hv
 have HVC:=Lib.hid hvc
 have HIV:=Lib.hid h.inv
 have hcg:c g≠0:=by rw [h.col];decide
 have hgw:g<w.heap.size:=h.cs.1
 have hac:=h.inv.acts
 have HID:=Lib.hid (h.inv.do_ ⟨4,m,name,text,inp⟩)
 obtain ⟨vi,rfl,hi⟩:=ha
 simp only at hi
 have HIN:=Lib.hid hi
 obtain ⟨Ai,ci,rfl,-,-⟩:=hi.form
 clear h hv hvc hi
 have hb0:=jac w (.cells #[.int .i64 4,.int .i64 m,.string name,.string text,.slice Ai inp.length ci] 24)
 have B0:=Lib.hid (Cs.new w [.int .i64 4,.int .i64 m,.string name,.string text,.slice Ai inp.length ci] 24)
 have hz0:(w.alloc (.cells #[.int .i64 4,.int .i64 m,.string name,.string text,.slice Ai inp.length ci] 24)).heap.size=w.heap.size+1:=by simp
 change Hid (Cs (w.alloc (.cells #[.int .i64 4,.int .i64 m,.string name,.string text,.slice Ai inp.length ci] 24)) _ _) at B0
 generalize hw0:w.alloc (.cells #[.int .i64 4,.int .i64 m,.string name,.string text,.slice Ai inp.length ci] 24)=w0 at *
 have hb1:=jac w0 (.cells #[.int .i64 0,.int .i64 0,.string ⟨#[]⟩,.slice none 0 0,.slice none 0 0] 30)
 have C1:=Lib.hid (Cs.new w0 zeroRL 30)
 have hz1:(w0.alloc (.cells #[.int .i64 0,.int .i64 0,.string ⟨#[]⟩,.slice none 0 0,.slice none 0 0] 30)).heap.size=w.heap.size+2:=by simp;omega
 change Hid (Cs (w0.alloc (.cells #[.int .i64 0,.int .i64 0,.string ⟨#[]⟩,.slice none 0 0,.slice none 0 0] 30)) _ _) at C1
 rw [hz0] at C1
 have B1:=Lib.hid (B0.out.next hb1)
 have hb01:=bx hb0 hb1
 generalize hw1:w0.alloc (.cells #[.int .i64 0,.int .i64 0,.string ⟨#[]⟩,.slice none 0 0,.slice none 0 0] 30)=w1 at *
 have H1:=Lib.hid (HH.out.next hb01)
 have HV1:=Lib.hid (HV.out.next hb01)
 have k0:=B1.out.at 0 rfl
 have k1:=B1.out.at 1 rfl
 have k2:=B1.out.at 2 rfl
 have k3:=B1.out.at 3 rfl
 have k4:=B1.out.at 4 rfl
 have hIN1:Hid (Sl Enc.int w1 (fun b=>b<w1.heap.size∧c b=0) inp (.slice Ai inp.length ci)):=(HIN.out.keep (w':=w1) fun p hp=>World.cell?_of_block (hb01.block _ hp.1)).more fun q hq=>⟨by have:=hq.1;omega,hq.2⟩
 have hc1:c (w.heap.size+1)=0:=jb1 HCL.out (by omega)
 have q29:w1.cell? ⟨g,29,none⟩=some (.int .i64 σ.acts):=H1.out.cs.at 29 H1.out.acts
 have z29:w1.frozen? ⟨g,29,none⟩=false:=H1.out.cs.2.2 29 (by rw [H1.out.len];decide)
 have hfi:¬ (200:Int)≤(σ.acts:Int):=by omega
 have hwa:IntKind.i64.wrap ((σ.acts:Int)+1)=(σ.acts:Int)+1:=by rw [IntKind.wrap_i64];omega
 have H2:Hid (∃ vs2,StoreC (w1.setCell ⟨g,29,none⟩ (.int .i64 ((σ.acts:Int)+1))) c g (jbj σ) vs2 vl):=⟨_,H1.out.tick (by omega)⟩
 have hF2:Hid (Fr c w (w1.setCell ⟨g,29,none⟩ (.int .i64 ((σ.acts:Int)+1)))):=(Fr.below hb01).trans (Fr.set c w1 g 29 _ hcg) (fun _ _=>rfl)
 have HV2:=Lib.hid (HV.out.fr HVC.out hF2.out)
 have hne0:w.heap.size≠g:=by omega
 have hne1:w.heap.size+1≠g:=by omega
 have hz2:(w1.setCell ⟨g,29,none⟩ (.int .i64 ((σ.acts:Int)+1))).heap.size=w.heap.size+2:=by simp [World.setCell];exact hz1
 have C2:=Lib.hid (C1.out.keep (w':=w1.setCell ⟨g,29,none⟩ (.int .i64 ((σ.acts:Int)+1))) (RowKit.Below.heap_setCell _ _ _ _ hne1) (by simp [World.setCell]))
 have B2:=Lib.hid (B1.out.keep (w':=w1.setCell ⟨g,29,none⟩ (.int .i64 ((σ.acts:Int)+1))) (RowKit.Below.heap_setCell _ _ _ _ hne0) (by simp [World.setCell]))
 have hIN2:Hid (Sl Enc.int (w1.setCell ⟨g,29,none⟩ (.int .i64 ((σ.acts:Int)+1))) (fun b=>b<(w1.setCell ⟨g,29,none⟩ (.int .i64 ((σ.acts:Int)+1))).heap.size∧c b=0) inp (.slice Ai inp.length ci)):=(hIN1.out.keep (w':=w1.setCell ⟨g,29,none⟩ (.int .i64 ((σ.acts:Int)+1))) fun p hp=>World.cell?_of_block (RowKit.Below.heap_setCell _ _ _ _ (fun e=>hcg (by have e2:p.block=g:=e;rw [← e2];exact hp.2)))).more fun q hq=>⟨by have:=hq.1;omega,hq.2⟩
 have e0:=B2.out.at 0 rfl
 have e1:=B2.out.at 1 rfl
 have e2:=B2.out.at 2 rfl
 have e3:=B2.out.at 3 rfl
 have e4:=B2.out.at 4 rfl
 have HE0:Hid (doV σ ⟨4,m,name,text,inp⟩=if jcp (jbj σ) m then ja8 (jbj σ) m.toNat ⟨4,m,name,text,inp⟩ else (jbj σ,jb8 3)):=by show _=_;unfold doV;rw [if_neg hfull];rfl
 generalize doV σ ⟨4,m,name,text,inp⟩=PV at *
 go_enter Tryz.func15,Tryz.ntmps15
 go_wp2_with fail
 clear hw0 hw1 k0 k1 k2 k3 k4 q29 z29
 generalize w1.setCell ⟨g,29,none⟩ (.int .i64 ((σ.acts:Int)+1))=w2 at *
 obtain ⟨vs2,hst2⟩:=H2.out
 have H3:=Lib.hid hst2
 clear hst2 H2
 refine (jgh (jbj σ) c g vs2 vl _ H3.out m).mono ?_
 rintro e w3 ⟨rfl,hw3⟩
 replace hw3:=hw3.symm
 subst hw3
 cases hop:jcp (jbj σ) m
 ·have HE:Hid (PV=(jbj σ,jb8 3)):=by show _=_;rw [HE0.out,hop];rfl
  clear hop HE0
  have r0:=C2.out.at 0 rfl
  have r1:=C2.out.at 1 rfl
  have r2:=C2.out.at 2 rfl
  have r3:=C2.out.at 3 rfl
  have r4:=C2.out.at 4 rfl
  have f0:=C2.out.2.2 0 (by simp)
  have f1:=C2.out.2.2 1 (by simp)
  have f2:=C2.out.2.2 2 (by simp)
  have f3:=C2.out.2.2 3 (by simp)
  have f4:=C2.out.2.2 4 (by simp)
  go_wp2
  (try simp only [Exit.inBlock,Exit.then])
  refine bodyPost_ret (jaz (b:=w.heap.size+1) rfl rfl (jbs C2.out _ _ _ _ _)) rfl ?_
  rw [HE.out]
  exact jam.wrote H3.out (fun _ _=>rfl) (by omega) hc1 hF2.out (jb0.plain 3 0 _)
 ·obtain ⟨h0,h4,-⟩:=jd9.1 hop
  have HE:Hid (PV=ja8 (jbj σ) m.toNat ⟨4,m,name,text,inp⟩):=by show _=_;rw [HE0.out,hop];rfl
  have HI:=HID.out
  rw [HE.out] at HI
  obtain ⟨k,rfl⟩:∃ k:Nat,m=k:=⟨m.toNat,by omega⟩
  rw [Int.toNat_natCast] at HI HE
  have HI2:=Lib.hid HI
  have hk4:k<4:=by omega
  clear hop HE0 HI HID
  have H3d:=Lib.hid H3.out.drewS
  have HV2d:=Lib.hid HV2.out.drewS
  have hF2d:=Lib.hid hF2.out.drew
  have C2d:=Lib.hid C2.out.drew
  have hA2d:Hid (jgy w2.drew (fun b=>b<w2.drew.heap.size∧c b=0) ⟨4,k,name,text,inp⟩ (.agg #[.int .i64 4,.int .i64 k,.string name,.string text,.slice Ai inp.length ci])):=⟨_,rfl,hIN2.out.keep (w':=w2.drew) fun _ _=>rfl⟩
  have d0:w2.drew.cell? ⟨w.heap.size,0,none⟩=_:=e0
  have d1:w2.drew.cell? ⟨w.heap.size,1,none⟩=_:=e1
  have d2:w2.drew.cell? ⟨w.heap.size,2,none⟩=_:=e2
  have d3:w2.drew.cell? ⟨w.heap.size,3,none⟩=_:=e3
  have d4:w2.drew.cell? ⟨w.heap.size,4,none⟩=_:=e4
  have hzd:w2.drew.heap.size=w.heap.size+2:=hz2
  have hk0:(0:Int)≤k:=by omega
  have hk4':(k:Int)<4:=by omega
  go_wp2_with fail
  go_region_law (first
   | (go_simp;go_at_call 44;refine (yl1 (jbj σ) c g k vs2 vl k name text inp _ _ H3d.out HV2d.out HVC.out hk4 hA2d.out hs1 HI2.out).mono ?_;rintro e w3 hP;rw [← HE.out] at hP;obtain ⟨A1,q1,A2,q2,rfl,hC3,hP3⟩:=hP.up hF2d.out (b0:=w.heap.size+1) (by omega) (by omega) hc1 C2d.out;have C3:=Lib.hid hC3;have HP3:=Lib.hid hP3;clear hP hC3 hP3;have r0:=C3.out.at 0 rfl;have r1:=C3.out.at 1 rfl;have r2:=C3.out.at 2 rfl;have r3:=C3.out.at 3 rfl;have r4:=C3.out.at 4 rfl;have f0:=C3.out.2.2 0 (by simp);have f1:=C3.out.2.2 1 (by simp);have f2:=C3.out.2.2 2 (by simp);have f3:=C3.out.2.2 3 (by simp);have f4:=C3.out.2.2 4 (by simp)))
  all_goals
   go_wp2
   (try simp only [Exit.inBlock,Exit.then])
   exact bodyPost_ret (jaz (b:=w.heap.size+1) rfl rfl (jbs C3.out _ _ _ _ _)) rfl HP3.out
open Go.RowKit Go.Shelf
theorem do_5 (σ:StoreD) (c:Nat→Nat) (g:Nat) (vs:List Value) (vl:Value) (m:Int) (name text:ByteArray) (inp:List Int) (va:Value) (w:World) (h:StoreC w c g σ vs vl) (hv:VarsOk w) (hvc:jc0 c) (ha:jgy w (fun b=>b<w.heap.size∧c b=0) ⟨5,m,name,text,inp⟩ va)
  (hfull:¬ 200 ≤ σ.acts) :
  Calls Tryz.prog 15 #[.pointer (some ⟨g,0,none⟩),va] w (jam w c g (doV σ ⟨5,m,name,text,inp⟩)):=by
 have HH:=Lib.hid h
 have HCL:=Lib.hid h.lt
 have HV:=Lib.hid hv
 have HVC:=Lib.hid hvc
 have HIV:=Lib.hid h.inv
 have hcg:c g≠0:=by rw [h.col];decide
 have hgw:g<w.heap.size:=h.cs.1
 have hac:=h.inv.acts
 have HID:=Lib.hid (h.inv.do_ ⟨5,m,name,text,inp⟩)
 obtain ⟨vi,rfl,hi⟩:=ha
 simp only at hi
 have HIN:=Lib.hid hi
 obtain ⟨Ai,ci,rfl,-,-⟩:=hi.form
 clear h hv hvc hi
 have hb0:=jac w (.cells #[.int .i64 5,.int .i64 m,.string name,.string text,.slice Ai inp.length ci] 24)
 have B0:=Lib.hid (Cs.new w [.int .i64 5,.int .i64 m,.string name,.string text,.slice Ai inp.length ci] 24)
 have hz0:(w.alloc (.cells #[.int .i64 5,.int .i64 m,.string name,.string text,.slice Ai inp.length ci] 24)).heap.size=w.heap.size+1:=by simp
 change Hid (Cs (w.alloc (.cells #[.int .i64 5,.int .i64 m,.string name,.string text,.slice Ai inp.length ci] 24)) _ _) at B0
 generalize hw0:w.alloc (.cells #[.int .i64 5,.int .i64 m,.string name,.string text,.slice Ai inp.length ci] 24)=w0 at *
 have hb1:=jac w0 (.cells #[.int .i64 0,.int .i64 0,.string ⟨#[]⟩,.slice none 0 0,.slice none 0 0] 30)
 have C1:=Lib.hid (Cs.new w0 zeroRL 30)
 have hz1:(w0.alloc (.cells #[.int .i64 0,.int .i64 0,.string ⟨#[]⟩,.slice none 0 0,.slice none 0 0] 30)).heap.size=w.heap.size+2:=by simp;omega
 change Hid (Cs (w0.alloc (.cells #[.int .i64 0,.int .i64 0,.string ⟨#[]⟩,.slice none 0 0,.slice none 0 0] 30)) _ _) at C1
 rw [hz0] at C1
 have B1:=Lib.hid (B0.out.next hb1)
 have hb01:=bx hb0 hb1
 generalize hw1:w0.alloc (.cells #[.int .i64 0,.int .i64 0,.string ⟨#[]⟩,.slice none 0 0,.slice none 0 0] 30)=w1 at *
 have H1:=Lib.hid (HH.out.next hb01)
 have HV1:=Lib.hid (HV.out.next hb01)
 have k0:=B1.out.at 0 rfl
 have k1:=B1.out.at 1 rfl
 have k2:=B1.out.at 2 rfl
 have k3:=B1.out.at 3 rfl
 have k4:=B1.out.at 4 rfl
 have hIN1:Hid (Sl Enc.int w1 (fun b=>b<w1.heap.size∧c b=0) inp (.slice Ai inp.length ci)):=(HIN.out.keep (w':=w1) fun p hp=>World.cell?_of_block (hb01.block _ hp.1)).more fun q hq=>⟨by have:=hq.1;omega,hq.2⟩
 have hc1:c (w.heap.size+1)=0:=jb1 HCL.out (by omega)
 have q29:w1.cell? ⟨g,29,none⟩=some (.int .i64 σ.acts):=H1.out.cs.at 29 H1.out.acts
 have z29:w1.frozen? ⟨g,29,none⟩=false:=H1.out.cs.2.2 29 (by rw [H1.out.len];decide)
 have hfi:¬ (200:Int)≤(σ.acts:Int):=by omega
 have hwa:IntKind.i64.wrap ((σ.acts:Int)+1)=(σ.acts:Int)+1:=by rw [IntKind.wrap_i64];omega
 have H2:Hid (∃ vs2,StoreC (w1.setCell ⟨g,29,none⟩ (.int .i64 ((σ.acts:Int)+1))) c g (jbj σ) vs2 vl):=⟨_,H1.out.tick (by omega)⟩
 have hF2:Hid (Fr c w (w1.setCell ⟨g,29,none⟩ (.int .i64 ((σ.acts:Int)+1)))):=(Fr.below hb01).trans (Fr.set c w1 g 29 _ hcg) (fun _ _=>rfl)
 have HV2:=Lib.hid (HV.out.fr HVC.out hF2.out)
 have hne0:w.heap.size≠g:=by omega
 have hne1:w.heap.size+1≠g:=by omega
 have hz2:(w1.setCell ⟨g,29,none⟩ (.int .i64 ((σ.acts:Int)+1))).heap.size=w.heap.size+2:=by simp [World.setCell];exact hz1
 have C2:=Lib.hid (C1.out.keep (w':=w1.setCell ⟨g,29,none⟩ (.int .i64 ((σ.acts:Int)+1))) (RowKit.Below.heap_setCell _ _ _ _ hne1) (by simp [World.setCell]))
 have B2:=Lib.hid (B1.out.keep (w':=w1.setCell ⟨g,29,none⟩ (.int .i64 ((σ.acts:Int)+1))) (RowKit.Below.heap_setCell _ _ _ _ hne0) (by simp [World.setCell]))
 have hIN2:Hid (Sl Enc.int (w1.setCell ⟨g,29,none⟩ (.int .i64 ((σ.acts:Int)+1))) (fun b=>b<(w1.setCell ⟨g,29,none⟩ (.int .i64 ((σ.acts:Int)+1))).heap.size∧c b=0) inp (.slice Ai inp.length ci)):=(hIN1.out.keep (w':=w1.setCell ⟨g,29,none⟩ (.int .i64 ((σ.acts:Int)+1))) fun p hp=>World.cell?_of_block (RowKit.Below.heap_setCell _ _ _ _ (fun e=>hcg (by have e2:p.block=g:=e;rw [← e2];exact hp.2)))).more fun q hq=>⟨by have:=hq.1;omega,hq.2⟩
 have e0:=B2.out.at 0 rfl
 have e1:=B2.out.at 1 rfl
 have e2:=B2.out.at 2 rfl
 have e3:=B2.out.at 3 rfl
 have e4:=B2.out.at 4 rfl
 have HE0:Hid (doV σ ⟨5,m,name,text,inp⟩=if jcp (jbj σ) m then ja8 (jbj σ) m.toNat ⟨5,m,name,text,inp⟩ else (jbj σ,jb8 3)):=by show _=_;unfold doV;rw [if_neg hfull];rfl
 generalize doV σ ⟨5,m,name,text,inp⟩=PV at *
 go_enter Tryz.func15,Tryz.ntmps15
 go_wp2_with fail
 clear hw0 hw1 k0 k1 k2 k3 k4 q29 z29
 generalize w1.setCell ⟨g,29,none⟩ (.int .i64 ((σ.acts:Int)+1))=w2 at *
 obtain ⟨vs2,hst2⟩:=H2.out
 have H3:=Lib.hid hst2
 clear hst2 H2
 refine (jgh (jbj σ) c g vs2 vl _ H3.out m).mono ?_
 rintro e w3 ⟨rfl,hw3⟩
 replace hw3:=hw3.symm
 subst hw3
 cases hop:jcp (jbj σ) m
 ·have HE:Hid (PV=(jbj σ,jb8 3)):=by show _=_;rw [HE0.out,hop];rfl
  clear hop HE0
  have r0:=C2.out.at 0 rfl
  have r1:=C2.out.at 1 rfl
  have r2:=C2.out.at 2 rfl
  have r3:=C2.out.at 3 rfl
  have r4:=C2.out.at 4 rfl
  have f0:=C2.out.2.2 0 (by simp)
  have f1:=C2.out.2.2 1 (by simp)
  have f2:=C2.out.2.2 2 (by simp)
  have f3:=C2.out.2.2 3 (by simp)
  have f4:=C2.out.2.2 4 (by simp)
  go_wp2
  (try simp only [Exit.inBlock,Exit.then])
  refine bodyPost_ret (jaz (b:=w.heap.size+1) rfl rfl (jbs C2.out _ _ _ _ _)) rfl ?_
  rw [HE.out]
  exact jam.wrote H3.out (fun _ _=>rfl) (by omega) hc1 hF2.out (jb0.plain 3 0 _)
 ·obtain ⟨h0,h4,-⟩:=jd9.1 hop
  have HE:Hid (PV=ja8 (jbj σ) m.toNat ⟨5,m,name,text,inp⟩):=by show _=_;rw [HE0.out,hop];rfl
  have HI:=HID.out
  rw [HE.out] at HI
  obtain ⟨k,rfl⟩:∃ k:Nat,m=k:=⟨m.toNat,by omega⟩
  rw [Int.toNat_natCast] at HI HE
  have HI2:=Lib.hid HI
  have hk4:k<4:=by omega
  have hrs:((jbj σ).sessN k).read.length+1000≤1000*(jbj σ).acts:=by
   have:=(HIV.out.at k).rs
   show (σ.sessN k).read.length+1000≤1000*(σ.acts+1)
   omega
  have HRS:=Lib.hid hrs
  clear hop HE0 HI hrs HID
  have H3d:=Lib.hid H3.out.drewS
  have HV2d:=Lib.hid HV2.out.drewS
  have hF2d:=Lib.hid hF2.out.drew
  have C2d:=Lib.hid C2.out.drew
  have hA2d:Hid (jgy w2.drew (fun b=>b<w2.drew.heap.size∧c b=0) ⟨5,k,name,text,inp⟩ (.agg #[.int .i64 5,.int .i64 k,.string name,.string text,.slice Ai inp.length ci])):=⟨_,rfl,hIN2.out.keep (w':=w2.drew) fun _ _=>rfl⟩
  have d0:w2.drew.cell? ⟨w.heap.size,0,none⟩=_:=e0
  have d1:w2.drew.cell? ⟨w.heap.size,1,none⟩=_:=e1
  have d2:w2.drew.cell? ⟨w.heap.size,2,none⟩=_:=e2
  have d3:w2.drew.cell? ⟨w.heap.size,3,none⟩=_:=e3
  have d4:w2.drew.cell? ⟨w.heap.size,4,none⟩=_:=e4
  have hzd:w2.drew.heap.size=w.heap.size+2:=hz2
  have hk0:(0:Int)≤k:=by omega
  have hk4':(k:Int)<4:=by omega
  go_wp2_with fail
  go_region_law (first
   | (go_simp;go_at_call 44;refine (yl2 (jbj σ) c g k vs2 vl k name text inp _ _ H3d.out HV2d.out HVC.out hk4 hA2d.out HI2.out HRS.out).mono ?_;rintro e w3 hP;rw [← HE.out] at hP;obtain ⟨A1,q1,A2,q2,rfl,hC3,hP3⟩:=hP.up hF2d.out (b0:=w.heap.size+1) (by omega) (by omega) hc1 C2d.out;have C3:=Lib.hid hC3;have HP3:=Lib.hid hP3;clear hP hC3 hP3;have r0:=C3.out.at 0 rfl;have r1:=C3.out.at 1 rfl;have r2:=C3.out.at 2 rfl;have r3:=C3.out.at 3 rfl;have r4:=C3.out.at 4 rfl;have f0:=C3.out.2.2 0 (by simp);have f1:=C3.out.2.2 1 (by simp);have f2:=C3.out.2.2 2 (by simp);have f3:=C3.out.2.2 3 (by simp);have f4:=C3.out.2.2 4 (by simp)))
  all_goals
   go_wp2
   (try simp only [Exit.inBlock,Exit.then])
   exact bodyPost_ret (jaz (b:=w.heap.size+1) rfl rfl (jbs C3.out _ _ _ _ _)) rfl HP3.out
open Go.RowKit Go.Shelf
theorem yl3 (σ:StoreD) (c:Nat→Nat) (g n:Nat) (vs:List Value) (vl:Value) (m:Int) (name text:ByteArray) (inp:List Int) (va:Value) (w:World) (h:StoreC w c g σ vs vl) (hv:VarsOk w) (hvc:jc0 c) (hn:n<4) (ha:jgy w (fun b=>b<w.heap.size∧c b=0) ⟨6,m,name,text,inp⟩ va)
  (hI:Inv (ja8 σ n ⟨6,m,name,text,inp⟩).1) :
  Calls Tryz.prog 44 #[.pointer (some ⟨g,0,none⟩),.pointer (some ⟨g,1+n*7,none⟩),va] w (jam w c g (ja8 σ n ⟨6,m,name,text,inp⟩)):=by
 have HH:=Lib.hid h
 have HCL:=Lib.hid h.lt
 have HV:=Lib.hid hv
 have HVC:=Lib.hid hvc
 have HX:Hid (σ.sess[n]? = some (σ.sessN n)):=je5 h.inv hn
 have HSO:=Lib.hid (h.inv.at n)
 have HIV:=Lib.hid h.inv
 have hcg:c g≠0:=by rw [h.col];decide
 have hgw:g<w.heap.size:=h.cs.1
 obtain ⟨vi,rfl,hi⟩:=ha
 simp only at hi
 have HIN:=Lib.hid hi
 obtain ⟨Ai,ci,rfl,-,-⟩:=hi.form
 clear h hv hvc hi
 have HI:=Lib.hid hI
 clear hI
 have HE:Hid (ja8 σ n ⟨6,m,name,text,inp⟩=jer (jaq σ n jjn) (σ.sessN n)):=by show _=_;rfl
 generalize ja8 σ n ⟨6,m,name,text,inp⟩=PV at *
 have hb0:=jac w (.cells #[.int .i64 6,.int .i64 m,.string name,.string text,.slice Ai inp.length ci] 24)
 have B0:=Lib.hid (Cs.new w [.int .i64 6,.int .i64 m,.string name,.string text,.slice Ai inp.length ci] 24)
 have hz0:(w.alloc (.cells #[.int .i64 6,.int .i64 m,.string name,.string text,.slice Ai inp.length ci] 24)).heap.size=w.heap.size+1:=by simp
 change Hid (Cs (w.alloc (.cells #[.int .i64 6,.int .i64 m,.string name,.string text,.slice Ai inp.length ci] 24)) _ _) at B0
 generalize hw0:w.alloc (.cells #[.int .i64 6,.int .i64 m,.string name,.string text,.slice Ai inp.length ci] 24)=w0 at *
 have hb1:=jac w0 (.cells #[.int .i64 0,.int .i64 0,.string ⟨#[]⟩,.slice none 0 0,.slice none 0 0] 30)
 have C1:=Lib.hid (Cs.new w0 zeroRL 30)
 have hz1:(w0.alloc (.cells #[.int .i64 0,.int .i64 0,.string ⟨#[]⟩,.slice none 0 0,.slice none 0 0] 30)).heap.size=w.heap.size+2:=by simp;omega
 change Hid (Cs (w0.alloc (.cells #[.int .i64 0,.int .i64 0,.string ⟨#[]⟩,.slice none 0 0,.slice none 0 0] 30)) _ _) at C1
 rw [hz0] at C1
 have B1:=Lib.hid (B0.out.next hb1)
 have hb01:=bx hb0 hb1
 generalize hw1:w0.alloc (.cells #[.int .i64 0,.int .i64 0,.string ⟨#[]⟩,.slice none 0 0,.slice none 0 0] 30)=w1 at *
 have H1:=Lib.hid (HH.out.next hb01)
 have HV1:=Lib.hid (HV.out.next hb01)
 have k0:=B1.out.at 0 rfl
 have k1:=B1.out.at 1 rfl
 have k2:=B1.out.at 2 rfl
 have k3:=B1.out.at 3 rfl
 have k4:=B1.out.at 4 rfl
 have hIN1:Hid (Sl Enc.int w1 (fun b=>b<w1.heap.size∧c b=0) inp (.slice Ai inp.length ci)):=(HIN.out.keep (w':=w1) fun p hp=>World.cell?_of_block (hb01.block _ hp.1)).more fun q hq=>⟨by have:=hq.1;omega,hq.2⟩
 have hc1:c (w.heap.size+1)=0:=jb1 HCL.out (by omega)
 obtain ⟨vd,vt,vg,vr,hC,-,-,hcell⟩:=H1.out.sessAt HX.out
 have HZ:=Lib.hid (HIV.out.set (n:=n) (SessOk.zero _ _))
 generalize hXX:σ.sessN n=X at *
 have HXA:=Lib.hid hC.atX
 have hlt1:=Lib.hid H1.out.lt
 have hcg1:=HH.out.col
 obtain ⟨Ad,cd,rfl,-,-⟩:=hC.doms.form
 obtain ⟨At,ct,rfl,-,-⟩:=hC.tabs.form
 obtain ⟨Ag,cg,rfl,-,-,-⟩:=jah hC.gone
 obtain ⟨Ah,ch,rfl,-,-,-⟩:=jah hC.read
 have a0:w1.cell? ⟨g,1+n*7,none⟩=_:=(hcell 0 _ rfl).1
 have a1:=(hcell 1 _ rfl).1
 have a2:=(hcell 2 _ rfl).1
 have a3:=(hcell 3 _ rfl).1
 have a4:=(hcell 4 _ rfl).1
 have a5:=(hcell 5 _ rfl).1
 have a6:=(hcell 6 _ rfl).1
 have z0:w1.frozen? ⟨g,1+n*7,none⟩=false:=(hcell 0 _ rfl).2
 have z1:=(hcell 1 _ rfl).2
 have z2:=(hcell 2 _ rfl).2
 have z3:=(hcell 3 _ rfl).2
 have z4:=(hcell 4 _ rfl).2
 have z5:=(hcell 5 _ rfl).2
 have z6:=(hcell 6 _ rfl).2
 clear hcell hC hXX
 have hb2:=jac w1 (.cells #[.bool X.opn,.bool X.strict,.int .i64 X.frm,.slice Ad X.mine.doms.length cd,.slice At X.mine.tabs.length ct,.slice Ag X.gone.length cg,.slice Ah X.read.length ch] 41)
 have E2:=Lib.hid (Cs.new w1 [.bool X.opn,.bool X.strict,.int .i64 X.frm,.slice Ad X.mine.doms.length cd,.slice At X.mine.tabs.length ct,.slice Ag X.gone.length cg,.slice Ah X.read.length ch] 41)
 have hz2:(w1.alloc (.cells #[.bool X.opn,.bool X.strict,.int .i64 X.frm,.slice Ad X.mine.doms.length cd,.slice At X.mine.tabs.length ct,.slice Ag X.gone.length cg,.slice Ah X.read.length ch] 41)).heap.size=w.heap.size+3:=by simp;omega
 change Hid (Cs (w1.alloc (.cells #[.bool X.opn,.bool X.strict,.int .i64 X.frm,.slice Ad X.mine.doms.length cd,.slice At X.mine.tabs.length ct,.slice Ag X.gone.length cg,.slice Ah X.read.length ch] 41)) _ _) at E2
 rw [hz1] at E2
 have hg1:g<w1.heap.size:=by omega
 have u0:=(hb2.cell (p:=⟨g,1+n*7,none⟩) hg1).trans a0
 have u1:=(hb2.cell (p:=⟨g,1+n*7+1,none⟩) hg1).trans a1
 have u2:=(hb2.cell (p:=⟨g,1+n*7+2,none⟩) hg1).trans a2
 have u3:=(hb2.cell (p:=⟨g,1+n*7+3,none⟩) hg1).trans a3
 have u4:=(hb2.cell (p:=⟨g,1+n*7+4,none⟩) hg1).trans a4
 have u5:=(hb2.cell (p:=⟨g,1+n*7+5,none⟩) hg1).trans a5
 have u6:=(hb2.cell (p:=⟨g,1+n*7+6,none⟩) hg1).trans a6
 have y0:=(World.frozen?_of_block (a:=⟨g,1+n*7,none⟩) (hb2.block g hg1)).trans z0
 have y1:=(World.frozen?_of_block (a:=⟨g,1+n*7+1,none⟩) (hb2.block g hg1)).trans z1
 have y2:=(World.frozen?_of_block (a:=⟨g,1+n*7+2,none⟩) (hb2.block g hg1)).trans z2
 have y3:=(World.frozen?_of_block (a:=⟨g,1+n*7+3,none⟩) (hb2.block g hg1)).trans z3
 have y4:=(World.frozen?_of_block (a:=⟨g,1+n*7+4,none⟩) (hb2.block g hg1)).trans z4
 have y5:=(World.frozen?_of_block (a:=⟨g,1+n*7+5,none⟩) (hb2.block g hg1)).trans z5
 have y6:=(World.frozen?_of_block (a:=⟨g,1+n*7+6,none⟩) (hb2.block g hg1)).trans z6
 have H2:=Lib.hid (H1.out.next hb2)
 have C2:=Lib.hid (C1.out.next hb2)
 have B2:=Lib.hid (B1.out.next hb2)
 have hb02:=bx hb01 hb2
 generalize hw2:w1.alloc (.cells #[.bool X.opn,.bool X.strict,.int .i64 X.frm,.slice Ad X.mine.doms.length cd,.slice At X.mine.tabs.length ct,.slice Ag X.gone.length cg,.slice Ah X.read.length ch] 41)=w2 at *
 have H3:=Lib.hid (H2.out.putSess hn (SessC.zero w2 c n) HZ.out)
 have hF3:Hid (Fr c w (putS w2 g (1+n*7) (.bool false) (.bool false) (.int .i64 0) (.slice none 0 0) (.slice none 0 0) (.slice none 0 0) (.slice none 0 0))):=(Fr.below hb02).trans (jzd hcg) (fun _ _=>rfl)
 have HV3:=Lib.hid (HV.out.fr HVC.out hF3.out)
 have C3:Hid (Cs (putS w2 g (1+n*7) (.bool false) (.bool false) (.int .i64 0) (.slice none 0 0) (.slice none 0 0) (.slice none 0 0) (.slice none 0 0)) (w.heap.size+1) zeroRL):=C2.out.keep (jea (by omega)) (Nat.le_of_eq jga.symm)
 have B3:Hid (Cs (putS w2 g (1+n*7) (.bool false) (.bool false) (.int .i64 0) (.slice none 0 0) (.slice none 0 0) (.slice none 0 0) (.slice none 0 0)) w.heap.size [.int .i64 6,.int .i64 m,.string name,.string text,.slice Ai inp.length ci]):=B2.out.keep (jea (by omega)) (Nat.le_of_eq jga.symm)
 have E3:Hid (Cs (putS w2 g (1+n*7) (.bool false) (.bool false) (.int .i64 0) (.slice none 0 0) (.slice none 0 0) (.slice none 0 0) (.slice none 0 0)) (w.heap.size+2) [.bool X.opn,.bool X.strict,.int .i64 X.frm,.slice Ad X.mine.doms.length cd,.slice At X.mine.tabs.length ct,.slice Ag X.gone.length cg,.slice Ah X.read.length ch]):=E2.out.keep (jea (by omega)) (Nat.le_of_eq jga.symm)
 have hz3:(putS w2 g (1+n*7) (.bool false) (.bool false) (.int .i64 0) (.slice none 0 0) (.slice none 0 0) (.slice none 0 0) (.slice none 0 0)).heap.size=w.heap.size+3:=by rw [jga];exact hz2
 have hX3:Hid (jhb (putS w2 g (1+n*7) (.bool false) (.bool false) (.int .i64 0) (.slice none 0 0) (.slice none 0 0) (.slice none 0 0) (.slice none 0 0)) (Cd c) X (.agg #[.bool X.opn,.bool X.strict,.int .i64 X.frm,.slice Ad X.mine.doms.length cd,.slice At X.mine.tabs.length ct,.slice Ag X.gone.length cg,.slice Ah X.read.length ch])):=((HXA.out.keepS (w':=w2) (fun k hk=>hb2.block k (hlt1.out k hk.1))).keepS (w':=putS w2 g (1+n*7) (.bool false) (.bool false) (.int .i64 0) (.slice none 0 0) (.slice none 0 0) (.slice none 0 0) (.slice none 0 0)) (fun k hk=>jea (fun e=>hk.2 (by rw [e];exact hcg1)))).moreS (fun k hk=>hk.1)
 have e0:=B3.out.at 0 rfl
 have l0:=E3.out.at 0 rfl
 have l1:=E3.out.at 1 rfl
 have l2:=E3.out.at 2 rfl
 have l3:=E3.out.at 3 rfl
 have l4:=E3.out.at 4 rfl
 have l5:=E3.out.at 5 rfl
 have l6:=E3.out.at 6 rfl
 unfold putS at e0 l0 l1 l2 l3 l4 l5 l6
 go_enter Tryz.func44,Tryz.ntmps44
 go_wp2_with fail
 clear e0 l0 l1 l2 l3 l4 l5 l6 u0 u1 u2 u3 u4 u5 u6 y0 y1 y2 y3 y4 y5 y6 a0 a1 a2 a3 a4 a5 a6 z0 z1 z2 z3 z4 z5 z6 k0 k1 k2 k3 k4 hw0 hw1 hw2
 change Calls _ _ _ (putS w2 g (1+n*7) (.bool false) (.bool false) (.int .i64 0) (.slice none 0 0) (.slice none 0 0) (.slice none 0 0) (.slice none 0 0)) _
 have hds:=HSO.out.ds
 have hts:=HSO.out.ts
 have hac:=HIV.out.acts
 refine (yck (jaq σ n jjn) c g _ vl X _ _ H3.out HV3.out hX3.out HSO.out.mine HSO.out.frm ⟨by omega,by omega⟩).mono ?_
 rintro e w4 hP
 rw [← HE.out] at hP
 obtain ⟨A1,q1,A2,q2,rfl,hC4,hP4⟩:=hP.up hF3.out (b0:=w.heap.size+1) (by omega) (Nat.lt_of_lt_of_eq (by omega:w.heap.size+1<w.heap.size+3) hz3.symm) hc1 C3.out
 have C4:=Lib.hid hC4
 have HP4:=Lib.hid hP4
 clear hP hC4 hP4
 have r0:=C4.out.at 0 rfl
 have r1:=C4.out.at 1 rfl
 have r2:=C4.out.at 2 rfl
 have r3:=C4.out.at 3 rfl
 have r4:=C4.out.at 4 rfl
 have f0:=C4.out.2.2 0 (by simp)
 have f1:=C4.out.2.2 1 (by simp)
 have f2:=C4.out.2.2 2 (by simp)
 have f3:=C4.out.2.2 3 (by simp)
 have f4:=C4.out.2.2 4 (by simp)
 go_wp2
 (try simp only [Exit.inBlock,Exit.then])
 exact bodyPost_ret (jaz (b:=w.heap.size+1) rfl rfl (jbs C4.out _ _ _ _ _)) rfl HP4.out
end Go.Proofs.YthmlndmlnlfhnaaGreatDoor
