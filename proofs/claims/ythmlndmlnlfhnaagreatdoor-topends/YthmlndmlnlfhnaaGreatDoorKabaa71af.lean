import Derived.Test.YthmlndmlnlfhnaaGreatDoorK3f904349
set_option maxRecDepth 100000
set_option maxHeartbeats 16000000
namespace Go.Proofs.YthmlndmlnlfhnaaGreatDoor
open Go.RowKit Go.Shelf
theorem law_TopEnds (l:List ActD) (a:ActD) (v va:Value) (w:World) (hl:Sl Enc.act w (Old w) l v) (ha:jgy w (Old w) a va) (hsz:∀ a∈l,a.name.size≤140737488355328∧a.text.size≤140737488355328) (hsa:a.name.size≤140737488355328∧a.text.size≤140737488355328) (hv:VarsOk w) :
  Calls Tryz.prog 13 #[v,va] w fun e w'=>e = .returned (.bool true)∧Below w.heap.size w w':=by
 have HL:=Lib.hid hl
 have HSZ:=Lib.hid hsz
 have HV:=Lib.hid hv
 obtain ⟨A,cp,rfl,hc1,hc2,-⟩:=hl
 unfold maxLen at hc2
 obtain ⟨kind,m,name,text,inp⟩:=a
 obtain ⟨vi,rfl,hi⟩:=ha
 simp only at hi hsa
 have HIN:=Lib.hid hi
 obtain ⟨Ai,ci,rfl,-,-⟩:=hi.form
 clear hv hsz hi
 have hb0:=jac w (.cells #[.int .i64 kind,.int .i64 m,.string name,.string text,.slice Ai inp.length ci] 24)
 have B0:=Lib.hid (Cs.new w [.int .i64 kind,.int .i64 m,.string name,.string text,.slice Ai inp.length ci] 24)
 change Hid (Cs (w.alloc (.cells #[.int .i64 kind,.int .i64 m,.string name,.string text,.slice Ai inp.length ci] 24)) _ _) at B0
 generalize hw0:w.alloc (.cells #[.int .i64 kind,.int .i64 m,.string name,.string text,.slice Ai inp.length ci] 24)=w0 at *
 have HL0:=Lib.hid (HL.out.onOld hb0)
 have HV0:=Lib.hid (HV.out.next hb0)
 have HP50:=Lib.hid (play_acts' l)
 have HI50:Hid (Inv (runV newV (l.take 50))):=jtj Inv.new
 have hz0:=hb0.size
 go_enter Tryz.func13,Tryz.ntmps13
 go_wp2_with fail
 clear hw0
 refine (jj2 l _ _ HL0.out HSZ.out HV0.out).mono ?_
 rintro e w1 ⟨g,c,vs,vl,rfl,m1⟩
 have M1:=Lib.hid m1
 clear m1
 have HL1:=Lib.hid (HL0.out.onOld M1.out.below)
 have HV1:=Lib.hid (HV0.out.next M1.out.below)
 go_wp2_with fail
 refine (jj2 l _ _ HL1.out HSZ.out HV1.out).mono ?_
 rintro e w2 ⟨g',c',vs',vl',rfl,m2⟩
 have TW:Hid (TwoS w0 w2 g (jlf (runV newV (l.take 50)) 0) c vs vl g' (jlf (runV newV (l.take 50)) 0) c' vs' vl'):=TwoS.of M1.out m2
 clear m2 M1 HL1 HV1
 generalize runV newV (l.take 50) = σ at *
 obtain ⟨P,hP⟩:∃ P:Nat,P=min l.length 50:=⟨_,rfl⟩
 have hPi:min (l.length:Int) 50=(P:Int):=by omega
 have hPa:Hid (σ.acts=P):=by show _=_;rw [HP50.out,hP]
 have hP50:P≤50:=by omega
 clear HP50 hP
 go_wp2
 go_loopw [9] (fun i wr=>∃ (k:Nat) (d d':Nat→Nat) (us us':List Value) (ul ul':Value),P+k≤200∧i = .int .i64 ((P+k:Nat):Int)∧Hid (TwoS w0 wr g (jlf σ k) d us ul g' (jlf σ k) d' us' ul')) (fun i _=>200-(intOf i).toNat)
 case atStart=>exact ⟨0,c,c',vs,vs',vl,vl',by omega,by simp,TW⟩
 case round =>
  clear TW
  obtain ⟨k,d,d',us,us',ul,ul',hk,rfl,T⟩:=hrel
  by_cases hlt:P+k<200
  ·have hi1:((P+k:Nat):Int)<200:=by omega
   have HD:Hid (doV (jlf σ k) yhd=(jlf σ (k+1),jb8 10)):=yit (by rw [hPa.out];exact hlt)
   go_wp2_with fail
   refine (T.out.one.do_ HV0.out yhd _ ⟨_,rfl,Sl.nil⟩ (by decide) (by decide)).mono ?_
   rintro e w3 hP
   rw [HD.out] at hP
   obtain ⟨A1,k1,A2,k2,d3,us3,ul3,rfl,t3,-,-,-,-⟩:=T.out.did hP
   have T3:=Lib.hid t3.flip
   clear hP t3
   simp only [jb8,List.length_nil]
   have hfl:=fun W=>jr1 10 0 noS A1 A2 0 k1 0 k2 W
   go_wp2_with fail
   refine (T3.out.one.do_ HV0.out yhd _ ⟨_,rfl,Sl.nil⟩ (by decide) (by decide)).mono ?_
   rintro e w4 hP
   rw [HD.out] at hP
   obtain ⟨E1,p1,E2,p2,d4,us4,ul4,rfl,t4,-,-,-,-⟩:=T3.out.did hP
   have T4:=Lib.hid t4.flip
   clear hP t4
   simp only [jb8,List.length_nil]
   have hfl2:=fun W=>jr1 10 0 noS E1 E2 0 p1 0 p2 W
   have hwi:IntKind.i64.wrap (((P+k:Nat):Int)+1)=((P+(k+1):Nat):Int):=by rw [IntKind.wrap_i64];omega
   go_wp2
   exact ⟨⟨k+1,d3,d4,us3,us4,ul3,ul4,by omega,by go_num,T4⟩,by simp [intOf];omega⟩
  ·have hi1:¬ ((P+k:Nat):Int)<200:=by omega
   have HD:Hid (doV (jlf σ k) ⟨kind,m,name,text,inp⟩=(jlf σ k,jb8 11)):=yq7 (by show 200 ≤ σ.acts+k;rw [hPa.out];omega) _
   have hbr:=T.out.one.below
   have hsr:=hbr.size
   have Br:=Lib.hid (B0.out.keep (hbr.block _ B0.out.1) hsr)
   have HA:Hid (jgy wr (fun b=>b<wr.heap.size∧d b=0) ⟨kind,m,name,text,inp⟩ (.agg #[.int .i64 kind,.int .i64 m,.string name,.string text,.slice Ai inp.length ci])):=⟨_,rfl,(HIN.out.keep fun p hp=>(bx hb0 hbr).cell hp).more fun q hq=>⟨by have:q<w.heap.size:=hq;omega,T.out.one.old q (Nat.lt_of_lt_of_le hq hz0)⟩⟩
   have q0:=Br.out.at 0 rfl
   have q1:=Br.out.at 1 rfl
   have q2:=Br.out.at 2 rfl
   have q3:=Br.out.at 3 rfl
   have q4:=Br.out.at 4 rfl
   go_wp2_with fail
   clear q0 q1 q2 q3 q4
   refine (T.out.one.do_ HV0.out ⟨kind,m,name,text,inp⟩ _ HA.out hsa.1 hsa.2).mono ?_
   rintro e w5 hP
   rw [HD.out] at hP
   obtain ⟨A1,k1,A2,k2,d5,us5,ul5,rfl,t5,-,-,r1,r2⟩:=T.out.did hP
   have T5:=Lib.hid t5
   have HR1:Hid (jb0 w5 (Old w5) ⟨11,0,noS,[],[]⟩ (.agg #[.int .i64 11,.int .i64 0,.string noS,.slice A1 0 k1,.slice A2 0 k2])):=⟨_,_,rfl,r1,r2⟩
   clear hP t5 r1 r2
   simp only [jb8]
   go_wp2_with fail
   refine (jq2 ⟨11,0,noS,[],[]⟩ _ _ _ HR1.out (jb0.plain 11 0 noS)).mono ?_
   rintro e w6 ⟨rfl,hb6⟩
   have T6:=Lib.hid (T5.out.next hb6)
   go_wp2_with fail
   refine (jov (jlf σ k) (jlf σ k) (ji6.refl _) _ _ _ _ _ _ _ _ _ T6.out.two.st T6.out.one.st (HV0.out.next T6.out.one.below)).mono ?_
   rintro e w7 ⟨rfl,hb7⟩
   go_wp2
   go_ret
   exact ⟨rfl,bx hb0 (bx T6.out.one.below hb7)⟩
end Go.Proofs.YthmlndmlnlfhnaaGreatDoor
