import Derived.Test.YthmlndmlnlfhnaaGreatDoorK3f904349
set_option maxRecDepth 100000
set_option maxHeartbeats 16000000
namespace Go.Proofs.YthmlndmlnlfhnaaGreatDoor
open Go.RowKit Go.Shelf
theorem law_TopRefused (l:List ActD) (a:ActD) (v va:Value) (w:World) (hl:Sl Enc.act w (Old w) l v) (ha:jgy w (Old w) a va) (hsz:∀ a∈l,a.name.size≤140737488355328∧a.text.size≤140737488355328) (hsa:a.name.size≤140737488355328∧a.text.size≤140737488355328) (hv:VarsOk w) :
  Calls Tryz.prog 10 #[v,va] w fun e w'=>e = .returned (.bool true)∧Below w.heap.size w w':=by
 have HL:=Lib.hid hl
 have HSZ:=Lib.hid hsz
 have HV:=Lib.hid hv
 obtain ⟨A,cp,rfl,hc1,hc2,-⟩:=hl
 unfold maxLen at hc2
 have HREF:=Lib.hid (fun (σ:StoreD) (h1:Inv σ) (h2:σ.acts<200)=>yel h1 h2 a)
 obtain ⟨kind,m,name,text,inp⟩:=a
 obtain ⟨vi,rfl,hi⟩:=ha
 simp only at hi hsa
 have HIN:=Lib.hid hi
 obtain ⟨Ai,ci,rfl,-,-⟩:=hi.form
 clear hv hsz hi
 have hb0:=jac w (.cells #[.int .i64 kind,.int .i64 m,.string name,.string text,.slice Ai inp.length ci] 24)
 have B0:=Lib.hid (Cs.new w [.int .i64 kind,.int .i64 m,.string name,.string text,.slice Ai inp.length ci] 24)
 change Hid (Cs (w.alloc (.cells #[.int .i64 kind,.int .i64 m,.string name,.string text,.slice Ai inp.length ci] 24)) _ _) at B0
 generalize hw0:w.alloc (.cells #[.int .i64 kind,.int .i64 m,.string name,.string text,.slice Ai inp.length ci] 24)=w0 at *
 have HL0:=Lib.hid (HL.out.onOld hb0)
 have HV0:=Lib.hid (HV.out.next hb0)
 have HP50:=Lib.hid (play_acts' l)
 have HI50:Hid (Inv (runV newV (l.take 50))):=jtj Inv.new
 have hz0:=hb0.size
 go_enter Tryz.func10,Tryz.ntmps10
 go_wp2_with fail
 clear hw0
 refine (jj2 l _ _ HL0.out HSZ.out HV0.out).mono ?_
 rintro e w1 ⟨g,c,vs,vl,rfl,m1⟩
 have M1:=Lib.hid m1
 clear m1
 have HL1:=Lib.hid (HL0.out.onOld M1.out.below)
 have HV1:=Lib.hid (HV0.out.next M1.out.below)
 go_wp2_with fail
 refine (jj2 l _ _ HL1.out HSZ.out HV1.out).mono ?_
 rintro e w2 ⟨g',c',vs',vl',rfl,m2⟩
 have T:=Lib.hid (TwoS.of M1.out m2)
 clear m2 M1 HL1 HV1
 have hac:Hid ((runV newV (l.take 50)).acts<200):=by show _<_;rw [HP50.out];omega
 generalize runV newV (l.take 50) = σ at *
 have HREF2:=Lib.hid (HREF.out σ HI50.out hac.out)
 have hbr:=T.out.one.below
 have hsr:=hbr.size
 have Br:=Lib.hid (B0.out.keep (hbr.block _ B0.out.1) hsr)
 have HA:Hid (jgy w2 (fun b=>b<w2.heap.size∧c b=0) ⟨kind,m,name,text,inp⟩ (.agg #[.int .i64 kind,.int .i64 m,.string name,.string text,.slice Ai inp.length ci])):=⟨_,rfl,(HIN.out.keep fun p hp=>(bx hb0 hbr).cell hp).more fun q hq=>⟨by have:q<w.heap.size:=hq;omega,T.out.one.old q (Nat.lt_of_lt_of_le hq hz0)⟩⟩
 have q0:=Br.out.at 0 rfl
 have q1:=Br.out.at 1 rfl
 have q2:=Br.out.at 2 rfl
 have q3:=Br.out.at 3 rfl
 have q4:=Br.out.at 4 rfl
 go_wp2_with fail
 clear q0 q1 q2 q3 q4
 refine (T.out.one.do_ HV0.out ⟨kind,m,name,text,inp⟩ _ HA.out hsa.1 hsa.2).mono ?_
 rintro e w3 hP
 obtain ⟨A1,k1,A2,k2,d3,us3,ul3,rfl,t3,hb3,-,-,-⟩:=T.out.did hP
 have T3:=Lib.hid t3
 clear hP t3
 generalize hDO:doV σ ⟨kind,m,name,text,inp⟩=D at *
 have hbk:=jac w3 (.cells #[.int .i64 D.2.code,.int .i64 D.2.n,.string D.2.text,.slice A1 D.2.answers.length k1,.slice A2 D.2.at_.length k2] 30)
 have C3:=Lib.hid (Cs.new w3 [.int .i64 D.2.code,.int .i64 D.2.n,.string D.2.text,.slice A1 D.2.answers.length k1,.slice A2 D.2.at_.length k2] 30)
 change Hid (Cs (w3.alloc (.cells #[.int .i64 D.2.code,.int .i64 D.2.n,.string D.2.text,.slice A1 D.2.answers.length k1,.slice A2 D.2.at_.length k2] 30)) _ _) at C3
 have T4:=Lib.hid (T3.out.next hbk)
 have B4:=Lib.hid (B0.out.keep (T4.out.one.below.block _ B0.out.1) T4.out.one.below.size)
 have p0:=C3.out.at 0 rfl
 have p1:=C3.out.at 1 rfl
 have p2:=C3.out.at 2 rfl
 have p3:=C3.out.at 3 rfl
 have p4:=C3.out.at 4 rfl
 have q0:=B4.out.at 0 rfl
 have q1:=B4.out.at 1 rfl
 by_cases hcode:D.2.code=0
 ·have e1:(D.2.code == 0)=true:=by rw [hcode];rfl
  go_wp2
  go_ret
  exact ⟨rfl,bx hb0 (bx hb3 (jac w3 _))⟩
 ·have e1:(D.2.code == 0)=false:=by rw [beq_eq_false_iff_ne];exact hcode
  by_cases h4:kind=4
  ·subst h4
   go_wp2
   go_ret
   exact ⟨rfl,bx hb0 (bx hb3 (jac w3 _))⟩
  ·by_cases h5:kind=5
   ·subst h5
    go_wp2
    go_ret
    exact ⟨rfl,bx hb0 (bx hb3 (jac w3 _))⟩
   ·have e4:(kind == 4)=false:=by rw [beq_eq_false_iff_ne];exact h4
    have e5:(kind == 5)=false:=by rw [beq_eq_false_iff_ne];exact h5
    have HR:=Lib.hid (HREF2.out hcode h4 h5)
    clear hcode h4 h5 HREF HREF2
    generalize hwK:w3.alloc (.cells #[.int .i64 D.2.code,.int .i64 D.2.n,.string D.2.text,.slice A1 D.2.answers.length k1,.slice A2 D.2.at_.length k2] 30)=w4 at *
    rcases HR.out with ⟨k6,hop,hst,hab,hn0⟩ | ⟨hno,hcd,hal⟩
    ·obtain ⟨h0,hm4,ho⟩:=jd9.1 hop
     obtain ⟨mm,rfl⟩:∃ mm:Nat,m=mm:=⟨m.toNat,by omega⟩
     subst k6
     have hi0:(0:Int)≤mm:=by omega
     have hi4:(mm:Int)<4:=by omega
     have HSO:Hid ((jce σ (mm:Int)).opn=true):=by show _=_;rw [jnx];exact hop
     have HAB:=Lib.hid hab
     have HST:=Lib.hid hst
     have HN0:=Lib.hid hn0
     clear hn0
     clear hop ho hab hst h0 hm4
     go_wp2_with fail
     refine (jjx σ c' g' vs' vl' _ T4.out.two.st mm).mono ?_
     rintro e w5 ⟨u5,rfl,hu5,hb5⟩
     obtain ⟨pd,pt,pg,pr,rfl,y1,y2,y3,y4⟩:=hu5
     obtain ⟨Ad,cd,e1,-,-⟩:=y1.form
     obtain ⟨At,ct,e2,-,-⟩:=y2.form
     obtain ⟨Ag,cg,e3,-,-⟩:=y3.form
     obtain ⟨Ah,ch,e4,-,-⟩:=y4.form
     subst e1 e2 e3 e4
     clear y1 y2 y3 y4
     rw [HSO.out]
     generalize jce σ (mm:Int)=X at *
     have hfl:=fun W=>jvb true X.strict X.frm Ad At Ag Ah X.mine.doms.length cd X.mine.tabs.length ct X.gone.length cg X.read.length ch W
     have T5:=Lib.hid (T4.out.next hb5).flip
     have C5:=Lib.hid (C3.out.next hb5)
     have hn5:=(B4.out.next hb5).at 1 rfl
     have hcz:c' w3.heap.size=0:=jb1 T3.out.two.st.lt (Nat.le_refl _)
     have hlt5:w3.heap.size<w5.heap.size:=C5.out.1
     go_wp2_with fail
     clear hn5 hfl p0 p1 p2 p3 p4 q0 q1
     refine (T5.out.one.do_ HV0.out (jz2 mm) _ ⟨_,rfl,Sl.nil⟩ (show noS.size≤140737488355328 by decide) (show noS.size≤140737488355328 by decide)).mono ?_
     rintro e w6 hP
     obtain ⟨E1,x1,E2,x2,d6,us6,ul6,rfl,t6,-,hF6,-,-⟩:=T5.out.did hP
     rw [← HST.out] at t6
     have T6:=Lib.hid t6
     have C6:=Lib.hid (C5.out.keep (w':=w6) (hF6.block _ hlt5 hcz) hF6.size)
     clear hP t6 hF6
     rw [HAB.out]
     simp only [jb8,List.length_nil]
     have hfl:=fun W=>jr1 0 0 noS E1 E2 0 x1 0 x2 W
     go_wp2_with fail
     refine (jov D.1 D.1 (ji6.refl _) _ _ _ _ _ _ _ _ _ T6.out.one.st T6.out.two.st (HV0.out.next T6.out.one.below)).mono ?_
     rintro e w7 ⟨rfl,hb7⟩
     have f1:=(C6.out.next hb7).at 1 rfl
     rw [HN0.out] at f1
     go_wp2
     go_ret
     exact ⟨rfl,bx hb0 (bx T6.out.one.below hb7)⟩
    ·have e2:D.2.n=0:=by rw [hcd];rfl
     have e3:D.2.text = ⟨#[]⟩:=by rw [hcd];rfl
     have e6:D.2.answers.length=0:=by rw [hcd];rfl
     have e7:D.2.at_.length=0:=by rw [hcd];rfl
     rw [e2] at p1
     rw [e3] at p2
     rw [e6] at p3
     rw [e7] at p4
     have HAL:=Lib.hid hal
     have HP1:=Lib.hid p1
     have HP2:=Lib.hid p2
     have HP3:=Lib.hid p3
     have HP4:=Lib.hid p4
     clear hcd hal e2 e3 e6 e7
     by_cases hB:kind=6∧0≤m∧m<4
     ·obtain ⟨k6,h0,hm4⟩:=hB
      subst k6
      obtain ⟨mm,rfl⟩:∃ mm:Nat,m=mm:=⟨m.toNat,by omega⟩
      have HSO:Hid ((jce σ (mm:Int)).opn=false):=by
       show _=_
       rw [jnx]
       cases hq:jcp σ (mm:Int)
       ·rfl
       ·exact absurd ⟨rfl,hq⟩ hno
      clear hno
      have hi0:(0:Int)≤mm:=by omega
      have hi4:(mm:Int)<4:=by omega
      go_wp2_with fail
      refine (jjx σ c' g' vs' vl' _ T4.out.two.st mm).mono ?_
      rintro e w5 ⟨u5,rfl,hu5,hb5⟩
      obtain ⟨pd,pt,pg,pr,rfl,y1,y2,y3,y4⟩:=hu5
      obtain ⟨Ad,cd,e1,-,-⟩:=y1.form
      obtain ⟨At,ct,e2,-,-⟩:=y2.form
      obtain ⟨Ag,cg,e3,-,-⟩:=y3.form
      obtain ⟨Ah,ch,e4,-,-⟩:=y4.form
      subst e1 e2 e3 e4
      clear y1 y2 y3 y4
      rw [HSO.out]
      generalize jce σ (mm:Int)=X at *
      have hfl:=fun W=>jvb false X.strict X.frm Ad At Ag Ah X.mine.doms.length cd X.mine.tabs.length ct X.gone.length cg X.read.length ch W
      have T5:=Lib.hid (T4.out.next hb5)
      have hlw:w3.heap.size<w4.heap.size:=C3.out.1
      have s1:=(hb5.cell (p:=⟨w3.heap.size,1,none⟩) hlw).trans HP1.out
      have s2:=(hb5.cell (p:=⟨w3.heap.size,2,none⟩) hlw).trans HP2.out
      have s3:=(hb5.cell (p:=⟨w3.heap.size,3,none⟩) hlw).trans HP3.out
      have s4:=(hb5.cell (p:=⟨w3.heap.size,4,none⟩) hlw).trans HP4.out
      clear p0 p1 p2 p3 p4 q0 q1
      go_wp2_with fail
      refine (jov σ D.1 ⟨HAL.out.1.symm,HAL.out.2.symm⟩ _ _ _ _ _ _ _ _ _ T5.out.two.st T5.out.one.st (HV0.out.next T5.out.one.below)).mono ?_
      rintro e w7 ⟨rfl,hb7⟩
      go_wp2
      go_ret
      exact ⟨rfl,bx hb0 (bx T5.out.one.below hb7)⟩
     ·clear hno
      by_cases k6:kind=6
      ·subst k6
       by_cases h0:0≤m
       ·have hm4:¬ m<4:=fun e=>hB ⟨rfl,h0,e⟩
        clear hB
        go_wp2_with fail
        refine (jov σ D.1 ⟨HAL.out.1.symm,HAL.out.2.symm⟩ _ _ _ _ _ _ _ _ _ T4.out.two.st T4.out.one.st (HV0.out.next T4.out.one.below)).mono ?_
        rintro e w7 ⟨rfl,hb7⟩
        go_wp2
        go_ret
        exact ⟨rfl,bx hb0 (bx T4.out.one.below hb7)⟩
       ·clear hB
        go_wp2_with fail
        refine (jov σ D.1 ⟨HAL.out.1.symm,HAL.out.2.symm⟩ _ _ _ _ _ _ _ _ _ T4.out.two.st T4.out.one.st (HV0.out.next T4.out.one.below)).mono ?_
        rintro e w7 ⟨rfl,hb7⟩
        go_wp2
        go_ret
        exact ⟨rfl,bx hb0 (bx T4.out.one.below hb7)⟩
      ·have e6:(kind == 6)=false:=by rw [beq_eq_false_iff_ne];exact k6
       clear hB k6
       go_wp2_with fail
       refine (jov σ D.1 ⟨HAL.out.1.symm,HAL.out.2.symm⟩ _ _ _ _ _ _ _ _ _ T4.out.two.st T4.out.one.st (HV0.out.next T4.out.one.below)).mono ?_
       rintro e w7 ⟨rfl,hb7⟩
       go_wp2
       go_ret
       exact ⟨rfl,bx hb0 (bx T4.out.one.below hb7)⟩
end Go.Proofs.YthmlndmlnlfhnaaGreatDoor
