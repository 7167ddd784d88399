import Derived.Test.YthmlndmlnlfhnaaGreatDoorKcc4f58de
set_option maxRecDepth 100000
set_option maxHeartbeats 16000000
namespace Go.Proofs.YthmlndmlnlfhnaaGreatDoor
open Go.RowKit Go.Shelf
theorem jov (σ τ:StoreD) (hA:ji6 σ τ) (c c':Nat→Nat) (g g':Nat) (vs vs':List Value) (vl vl':Value) (w:World) (h:StoreC w c g σ vs vl) (h':StoreC w c' g' τ vs' vl') (hv:VarsOk w) :
  Calls Tryz.prog 34 #[.pointer (some ⟨g,0,none⟩),.pointer (some ⟨g',0,none⟩)] w fun e w'=>e = .returned (.bool true)∧Below w.heap.size w w':=by
 have HA:=Lib.hid hA
 have HH:=Lib.hid h
 have HK:=Lib.hid h'
 have HV:=Lib.hid hv
 have HI:=Lib.hid h.inv
 have hac:=h.inv.acts
 have HST:Hid (τ.states = σ.states):=hA.states.symm
 have HSN:Hid (∀ n,jce τ n=jce σ n):=fun n=>(hA.session n).symm
 clear h h' hv hA
 go_enter Tryz.func34,Tryz.ntmps34
 go_wp2_with fail
 refine (jhq σ c g vs vl _ HH.out).mono ?_
 rintro e w1 ⟨v1,rfl,hs1,hb1⟩
 have HS1:=Lib.hid hs1
 obtain ⟨A1,k1,rfl,-,-⟩:=hs1.form
 clear hs1
 go_wp2_with fail
 refine (jhq τ c' g' vs' vl' _ (HK.out.next hb1)).mono ?_
 rintro e w2 ⟨v2,rfl,hs2,hb2⟩
 rw [HST.out] at hs2
 have HS2:=Lib.hid hs2
 obtain ⟨A2,k2,rfl,-,-⟩:=hs2.form
 clear hs2
 have hb12:=bx hb1 hb2
 have hz2:=hb2.size
 have hz1:=hb1.size
 generalize hNN:σ.states.length=NN at *
 have hne:((NN:Int) != (NN:Int))=false:=by simp
 have hSL:=jmc σ
 have hl39:σ.last≤39:=HI.out.some_
 rw [hNN] at hSL
 go_wp2
 go_loopw [22] (fun i wr=>∃ k:Nat,k≤NN∧i = .int .i64 k∧Below w2.heap.size w2 wr) (fun i _=>NN-(intOf i).toNat)
 case atStart=>exact ⟨0,Nat.zero_le _,rfl,Below.refl _ _⟩
 case round =>
  obtain ⟨k,hk,rfl,hbl⟩:=hrel
  have hsl:=hbl.size
  by_cases hlt:k<NN
  ·have hi1:(k:Int)<NN:=by omega
   have hi0:(0:Int)≤k:=by omega
   obtain ⟨b,o,x,vd,vt,rfl,-,hx,a0,a1,s1,s2⟩:=(HS1.out.keep (w':=wr) (fun p hp=>(bx hb2 hbl).cell hp.2)).book_at (k:=k) (by rw [hNN];exact hlt)
   obtain ⟨b',o',x',vd',vt',rfl,-,hx',a0',a1',s1',s2'⟩:=(HS2.out.keep (w':=wr) (fun p hp=>hbl.cell hp.2)).book_at (k:=k) (by rw [hNN];exact hlt)
   obtain rfl:x'=x:=Option.some.inj (hx'.out.symm.trans hx.out)
   have hck:Hid ((ja6 x').2.2=0):=jn1 HI.out (List.mem_of_getElem? hx.out)
   have HB:Hid (jar wr (Old wr) x' (.agg #[vd,vt])):=⟨_,_,rfl,s1.more fun q hq=>by have:=hq.2;show q<_;omega,s2.more fun q hq=>by have:=hq.2;show q<_;omega⟩
   have HB':Hid (jar wr (Old wr) x' (.agg #[vd',vt'])):=⟨_,_,rfl,s1'.more fun q hq=>by have:=hq.2;show q<_;omega,s2'.more fun q hq=>by have:=hq.2;show q<_;omega⟩
   obtain ⟨Ad,cd,rfl,-,-⟩:=s1.form
   obtain ⟨At,ct,rfl,-,-⟩:=s2.form
   obtain ⟨Ad',cd',rfl,-,-⟩:=s1'.form
   obtain ⟨At',ct',rfl,-,-⟩:=s2'.form
   clear s1 s2 s1' s2'
   have hbd:Below wr.heap.size wr wr.drew:=(Below.refl _ _).drew
   have HBd:=Lib.hid (HB.out.onOldB hbd)
   have HBd':=Lib.hid (HB'.out.onOldB hbd)
   have HVd:=Lib.hid (HV.out.next (bx hb12 (bx hbl hbd)))
   have d0:wr.drew.cell? ⟨b,o+k*2,none⟩=_:=a0
   have d1:wr.drew.cell? ⟨b,o+k*2+1,none⟩=_:=a1
   have d0':wr.drew.cell? ⟨b',o'+k*2,none⟩=_:=a0'
   have d1':wr.drew.cell? ⟨b',o'+k*2+1,none⟩=_:=a1'
   go_wp2_with fail
   go_region_law (first
    | (go_simp;go_at_call 32;refine (jsr x' _ _ _ HBd.out HBd'.out (jh6 (jnn hck.out)) HVd.out).mono ?_;rintro e w3 ⟨rfl,hb3'⟩;have hb3:Below wr.heap.size wr w3:=jcw hb3';clear hb3'))
   all_goals
    go_wp2
    exact ⟨⟨k+1,by omega,by go_num,bx hbl hb3⟩,by simp [intOf];omega⟩
  ·have hi1:¬ (k:Int)<NN:=by omega
   go_wp2
   go_loopw [36] (fun i w3=>∃ n:Nat,n≤4∧i = .int .i64 n∧Below w2.heap.size w2 w3) (fun i _=>4-(intOf i).toNat)
   case atStart=>exact ⟨0,Nat.zero_le _,rfl,hbl⟩
   case round =>
    clear hbl hi1 hsl hlt hk
    rename World=>w3
    obtain ⟨n,hn,rfl,hb3⟩:=hrel
    have hs3:=hb3.size
    by_cases hlt:n<4
    ·have hi1:(n:Int)<4:=by omega
     have hb03:=bx hb12 hb3
     go_wp2_with fail
     refine (jjx σ c g vs vl _ (HH.out.next hb03) n).mono ?_
     rintro e w4 ⟨u4,rfl,hu4,hb4⟩
     have hb04:=bx hb03 hb4
     obtain ⟨pd,pt,pg,pr,rfl,y1,y2,y3,y4⟩:=hu4
     have hs4:=hb4.size
     have HY1:=Lib.hid y1
     have HY2:=Lib.hid y2
     have HY3:=Lib.hid y3
     have HY4:=Lib.hid y4
     obtain ⟨Ad,cd,e1,-,-⟩:=y1.form
     obtain ⟨At,ct,e2,-,-⟩:=y2.form
     obtain ⟨Ag,cg,e3,-,-⟩:=y3.form
     obtain ⟨Ah,ch,e4,-,-⟩:=y4.form
     subst e1 e2 e3 e4
     clear y1 y2 y3 y4
     go_wp2_with fail
     refine (jjx τ c' g' vs' vl' _ (HK.out.next hb04) n).mono ?_
     rintro e w5 ⟨u5',rfl,hu5,hb5⟩
     rw [HSN.out] at hu5
     obtain ⟨qd,qt,qg,qr,rfl,z1,z2,z3,z4⟩:=hu5
     have hs5:=hb5.size
     have HZ1:=Lib.hid z1
     have HZ2:=Lib.hid z2
     have HZ3:=Lib.hid z3
     have HZ4:=Lib.hid z4
     obtain ⟨Bd,dd,e1,-,-⟩:=z1.form
     obtain ⟨Bt,dt,e2,-,-⟩:=z2.form
     obtain ⟨Bg,dg,e3,-,-⟩:=z3.form
     obtain ⟨Bh,dh,e4,-,-⟩:=z4.form
     subst e1 e2 e3 e4
     clear z1 z2 z3 z4
     have HOK:Hid (SessOk σ.last σ.acts (jce σ n)):=by
      show SessOk _ _ _
      unfold jce
      split
      ·exact HI.out.at _
      ·exact SessOk.zero _ _
     generalize jce σ n=X at *
     have hb6:=jac w5 (.cells #[.bool X.opn,.bool X.strict,.int .i64 X.frm,.slice Ad X.mine.doms.length cd,.slice At X.mine.tabs.length ct,.slice Ag X.gone.length cg,.slice Ah X.read.length ch] 41)
     have C6:=Lib.hid (Cs.new w5 [.bool X.opn,.bool X.strict,.int .i64 X.frm,.slice Ad X.mine.doms.length cd,.slice At X.mine.tabs.length ct,.slice Ag X.gone.length cg,.slice Ah X.read.length ch] 41)
     change Hid (Cs (w5.alloc (.cells #[.bool X.opn,.bool X.strict,.int .i64 X.frm,.slice Ad X.mine.doms.length cd,.slice At X.mine.tabs.length ct,.slice Ag X.gone.length cg,.slice Ah X.read.length ch] 41)) _ _) at C6
     have hz6:(w5.alloc (.cells #[.bool X.opn,.bool X.strict,.int .i64 X.frm,.slice Ad X.mine.doms.length cd,.slice At X.mine.tabs.length ct,.slice Ag X.gone.length cg,.slice Ah X.read.length ch] 41)).heap.size=w5.heap.size+1:=by simp
     have hb7:=jac (w5.alloc (.cells #[.bool X.opn,.bool X.strict,.int .i64 X.frm,.slice Ad X.mine.doms.length cd,.slice At X.mine.tabs.length ct,.slice Ag X.gone.length cg,.slice Ah X.read.length ch] 41)) (.cells #[.bool X.opn,.bool X.strict,.int .i64 X.frm,.slice Bd X.mine.doms.length dd,.slice Bt X.mine.tabs.length dt,.slice Bg X.gone.length dg,.slice Bh X.read.length dh] 41)
     have D7:=Lib.hid (Cs.new (w5.alloc (.cells #[.bool X.opn,.bool X.strict,.int .i64 X.frm,.slice Ad X.mine.doms.length cd,.slice At X.mine.tabs.length ct,.slice Ag X.gone.length cg,.slice Ah X.read.length ch] 41)) [.bool X.opn,.bool X.strict,.int .i64 X.frm,.slice Bd X.mine.doms.length dd,.slice Bt X.mine.tabs.length dt,.slice Bg X.gone.length dg,.slice Bh X.read.length dh] 41)
     change Hid (Cs ((w5.alloc (.cells #[.bool X.opn,.bool X.strict,.int .i64 X.frm,.slice Ad X.mine.doms.length cd,.slice At X.mine.tabs.length ct,.slice Ag X.gone.length cg,.slice Ah X.read.length ch] 41)).alloc (.cells #[.bool X.opn,.bool X.strict,.int .i64 X.frm,.slice Bd X.mine.doms.length dd,.slice Bt X.mine.tabs.length dt,.slice Bg X.gone.length dg,.slice Bh X.read.length dh] 41)) _ _) at D7
     rw [hz6] at D7
     have C7:=Lib.hid (C6.out.next hb7)
     have n1:(X.opn != X.opn)=false:=by simp
     have n2:(X.strict != X.strict)=false:=by simp
     have n3:((X.frm:Int) != (X.frm:Int))=false:=by simp
     have p0:=C7.out.at 0 rfl
     have q0:=D7.out.at 0 rfl
     have p1:=C7.out.at 1 rfl
     have q1:=D7.out.at 1 rfl
     have p2:=C7.out.at 2 rfl
     have q2:=D7.out.at 2 rfl
     have p3:=C7.out.at 3 rfl
     have q3:=D7.out.at 3 rfl
     have p4:=C7.out.at 4 rfl
     have q4:=D7.out.at 4 rfl
     have p5:=C7.out.at 5 rfl
     have q5:=D7.out.at 5 rfl
     have p6:=C7.out.at 6 rfl
     have q6:=D7.out.at 6 rfl
     go_wp2_with fail
     have hb57:=bx hb6 hb7
     clear p0 p1 p2 p3 p4 p5 p6 q0 q1 q2 q3 q4 q5 q6 C6 hb6 hb7 hz6
     generalize (w5.alloc (.cells #[.bool X.opn,.bool X.strict,.int .i64 X.frm,.slice Ad X.mine.doms.length cd,.slice At X.mine.tabs.length ct,.slice Ag X.gone.length cg,.slice Ah X.read.length ch] 41)).alloc (.cells #[.bool X.opn,.bool X.strict,.int .i64 X.frm,.slice Bd X.mine.doms.length dd,.slice Bt X.mine.tabs.length dt,.slice Bg X.gone.length dg,.slice Bh X.read.length dh] 41)=w7 at *
     have hb47:=bx hb5 hb57
     have hs7:=hb57.size
     have hb07:=bx hb04 hb47
     have HBM:Hid (jar w7 (Old w7) X.mine (.agg #[.slice Ad X.mine.doms.length cd,.slice At X.mine.tabs.length ct])):=⟨_,_,rfl,(HY1.out.keep fun p hp=>hb47.cell hp.2).more fun q hq=>by have:=hq.2;show q<_;omega,(HY2.out.keep fun p hp=>hb47.cell hp.2).more fun q hq=>by have:=hq.2;show q<_;omega⟩
     have HBN:Hid (jar w7 (Old w7) X.mine (.agg #[.slice Bd X.mine.doms.length dd,.slice Bt X.mine.tabs.length dt])):=⟨_,_,rfl,(HZ1.out.keep fun p hp=>hb57.cell hp.2).more fun q hq=>by have:=hq.2;show q<_;omega,(HZ2.out.keep fun p hp=>hb57.cell hp.2).more fun q hq=>by have:=hq.2;show q<_;omega⟩
     have HV7:=Lib.hid (HV.out.next hb07)
     refine (jsr X.mine _ _ _ HBM.out HBN.out (jh6 HOK.out.mine) HV7.out).mono ?_
     rintro e w8 ⟨rfl,hb8⟩
     have hs8:=hb8.size
     have p5:=(C7.out.next hb8).at 5 rfl
     have q5:=(D7.out.next hb8).at 5 rfl
     have HG1:Hid (Sl Enc.str w8 (Old w8) X.gone (.slice Ag X.gone.length cg)):=(HY3.out.keep fun p hp=>(bx hb47 hb8).cell hp.2).more fun q hq=>by have:=hq.2;show q<_;omega
     have HG2:Hid (Sl Enc.str w8 (Old w8) X.gone (.slice Bg X.gone.length dg)):=(HZ3.out.keep fun p hp=>(bx hb57 hb8).cell hp.2).more fun q hq=>by have:=hq.2;show q<_;omega
     go_wp2_with fail
     clear p5 q5
     refine (jq3 X.gone _ _ _ HG1.out HG2.out).mono ?_
     rintro e w9 ⟨rfl,hb9⟩
     have hb89:=bx hb8 hb9
     have hs9:=hb9.size
     have p6:=(C7.out.next hb89).at 6 rfl
     have q6:=(D7.out.next hb89).at 6 rfl
     have HR1:Hid (Sl Enc.str w9 (Old w9) X.read (.slice Ah X.read.length ch)):=(HY4.out.keep fun p hp=>(bx hb47 hb89).cell hp.2).more fun q hq=>by have:=hq.2;show q<_;omega
     have HR2:Hid (Sl Enc.str w9 (Old w9) X.read (.slice Bh X.read.length dh)):=(HZ4.out.keep fun p hp=>(bx hb57 hb89).cell hp.2).more fun q hq=>by have:=hq.2;show q<_;omega
     go_wp2_with fail
     clear p6 q6
     refine (jq3 X.read _ _ _ HR1.out HR2.out).mono ?_
     rintro e w10 ⟨rfl,hb10⟩
     go_wp2
     exact ⟨⟨n+1,by omega,by go_num,bx hb3 (bx hb4 (bx hb47 (bx hb89 hb10)))⟩,by simp [intOf];omega⟩
    ·have hi1:¬ (n:Int)<4:=by omega
     go_wp2
     go_ret
     exact ⟨rfl,bx hb12 hb3⟩
end Go.Proofs.YthmlndmlnlfhnaaGreatDoor
