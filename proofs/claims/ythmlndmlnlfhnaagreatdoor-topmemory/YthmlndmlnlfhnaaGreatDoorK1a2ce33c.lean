import Derived.Test.YthmlndmlnlfhnaaGreatDoorKd6f3f10a
set_option maxRecDepth 100000
set_option maxHeartbeats 16000000
namespace Go.Proofs.YthmlndmlnlfhnaaGreatDoor
open Go.RowKit Go.Shelf
def jts (w0:World) (e:Ending) (w':World):Prop:=∃ g,e = .returned (.tuple #[.pointer (some ⟨g,0,none⟩),.bool true])∧Below w0.heap.size w0 w'
theorem jts.of {w0 w':World} (g:Nat) (h:Below w0.heap.size w0 w'):jts w0 (.returned (.tuple #[.pointer (some ⟨g,0,none⟩),.bool true])) w':=⟨g,rfl,h⟩
abbrev Born (W1 W:World) (c:Nat→Nat):Nat→Prop:=fun b=>W1.heap.size≤b∧b<W.heap.size∧c b=0
def ysi (fv:Nat) (cb:Array Value) (J:Nat→World→(Nat→Nat)→Prop) (l:List ActD) (w0:World):Prop :=
 ∀ (k:Nat) (a:ActD) (σ:StoreD) (W1:World) (c1:Nat→Nat) (W:World) (g:Nat) (c:Nat→Nat) (vs:List Value) (vl:Value) (Ai A1 A2:Option Addr) (ci k1 k2:Nat),l[k]? = some a→k<50→Hid (σ=runV newV (l.take k)) →
  J k W1 c1→Fr c1 W1 W→(∀ b,b<W1.heap.size→c b=c1 b)→Mine w0 W g (doV σ a).1 c vs vl→Sl Enc.int W (Old w0) a.inp (.slice Ai a.inp.length ci)→Sl Enc.ans W (Born W1 W c) (doV σ a).2.answers (.slice A1 (doV σ a).2.answers.length k1)→Sl Enc.int W (Born W1 W c) (doV σ a).2.at_ (.slice A2 (doV σ a).2.at_.length k2) →
  Calls Tryz.prog fv (#[.pointer (some ⟨g,0,none⟩),.agg #[.int .i64 a.kind,.int .i64 a.n,.string a.name,.string a.text,.slice Ai a.inp.length ci],.agg #[.int .i64 (doV σ a).2.code,.int .i64 (doV σ a).2.n,.string (doV σ a).2.text,.slice A1 (doV σ a).2.answers.length k1,.slice A2 (doV σ a).2.at_.length k2]] ++ cb) W
   fun e W'=>e = .returned (.bool true)∧Mine w0 W' g (doV σ a).1 c vs vl∧J (k+1) W' c
theorem ys7 (fv:Nat) (cb:Array Value) (J:Nat→World→(Nat→Nat)→Prop) (l:List ActD) (v:Value) (w0 w:World) (hl:Sl Enc.act w0 (Old w0) l v) (hb:Below w0.heap.size w0 w) (hsz:∀ a∈l,a.name.size≤140737488355328∧a.text.size≤140737488355328) (hv:VarsOk w0)
  (eg:∀ args w,(callFunc fv args).run Tryz.prog w = .ok (.enter fv args) w) (h0:J 0 w fun _=>0)
  (hst:∀ k W W' c c',J k W c→Fr c W W'→(∀ b,b<W.heap.size→c' b=c b)→Below w0.heap.size w0 W'→J k W' c') (hf:ysi fv cb J l w0) :
  Calls Tryz.prog 19 #[v,.func (.func fv) #[] cb] w (jts w0):=by
 have HV:=Lib.hid hv
 have HL:=Lib.hid hl
 have HSZ:=Lib.hid hsz
 have HB0:=Lib.hid hb
 have HST:=Lib.hid hst
 have HF:=Lib.hid hf
 have HJ0:=Lib.hid h0
 obtain ⟨A,cp,rfl,hc1,hc2,-⟩:=hl
 unfold maxLen at hc2
 clear hv hsz hst hf h0
 go_enter Tryz.func19,Tryz.ntmps19
 go_wp2_with fail
 refine (jn6 _ (HV.out.next HB0.out)).mono ?_
 rintro e w1 ⟨rfl,hb1⟩
 go_wp2_with fail
 refine (jn3 _).mono ?_
 rintro e w2 ⟨rfl,hw2⟩
 have M2:Hid (Mine w0 w2 w1.heap.size newV (c1 w1.heap.size) new0 (.slice none 0 0)):=by rw [hw2];exact Mine.new w0 w1 _ (bx HB0.out hb1)
 have hb12:Below w1.heap.size w1 w2:=by rw [hw2];exact jac _ _
 have hb02:=bx hb1 hb12
 have hz1:=hb1.size
 have J2:Hid (J 0 w2 (c1 w1.heap.size)):=HST.out 0 w w2 _ _ HJ0.out (Fr.below hb02) (fun b hb=>yqe (Nat.lt_of_lt_of_le hb hz1)) M2.out.below
 clear hw2 hb12 hb02 hz1
 go_wp2
 go_loopw [7] (fun i wr=>∃ (k:Nat) (c:Nat→Nat) (vs:List Value) (vl:Value),k≤l.length∧k≤50∧i = .int .i64 k∧Hid (Mine w0 wr w1.heap.size (runV newV (l.take k)) c vs vl)∧Hid (J k wr c)) (fun i _=>l.length-(intOf i).toNat)
 case atStart=>exact ⟨0,_,_,_,Nat.zero_le _,Nat.zero_le _,rfl,M2,J2⟩
 case round =>
  clear M2 J2
  obtain ⟨k,c,vs,vl,hk,hk5,rfl,M,JK⟩:=hrel
  by_cases hlt:k<l.length
  ·by_cases h50:k<50
   ·have hi1:(k:Int)<l.length:=by omega
    have hi2:(k:Int)<50:=by omega
    have hi0:(0:Int)≤k:=by omega
    have hbr:=M.out.below
    have hsr:=hbr.size
    obtain ⟨b,o,x,vi,rfl,hSb,hx,a0,a1,a2,a3,a4,hin⟩:=(HL.out.keep (w':=wr) (fun p hp=>hbr.cell hp)).act_at hlt
    have hbw:b<w0.heap.size:=hSb
    have HIN:=Lib.hid hin
    obtain ⟨Ai,ci,rfl,-,-⟩:=hin.form
    have hsx:=HSZ.out x (List.mem_of_getElem? hx.out)
    have HT:Hid (runV newV (l.take (k+1))=(doV (runV newV (l.take k)) x).1):=jtk newV hx.out
    clear hin hSb
    have HA:Hid (jgy wr (fun b=>b<wr.heap.size∧c b=0) x (.agg #[.int .i64 x.kind,.int .i64 x.n,.string x.name,.string x.text,.slice Ai x.inp.length ci])):=⟨_,rfl,HIN.out.more fun q hq=>⟨Nat.lt_of_lt_of_le hq hsr,M.out.old q hq⟩⟩
    obtain ⟨RT,hRT⟩:∃ RT,RT=runV newV (l.take k):=⟨_,rfl⟩
    rw [← hRT] at HT M
    have HRT0:=Lib.hid hRT
    clear hRT
    go_wp2_with fail
    refine (M.out.do_ HV.out x _ HA.out hsx.1 hsx.2).mono ?_
    rintro e w3 hP
    obtain ⟨A1,k1,A2,k2,c3,vs3,vl3,rfl,m3,hF3,hold3,hans,hat⟩:=M.out.did hP
    have M3:=Lib.hid m3
    have HF3:=Lib.hid hF3
    have HO3:=Lib.hid hold3
    have HANS:=Lib.hid hans
    have HAT:=Lib.hid hat
    clear hP m3 hF3 hold3 hans hat
    have HFK:=Lib.hid (fun W g c' vs vl=>HF.out k x RT wr c W g c' vs vl Ai A1 A2 ci k1 k2 hx.out h50 HRT0 JK.out)
    generalize hDO:doV RT x=D at *
    obtain ⟨Dσ,R⟩:=D
    simp only at M3 HANS HAT HT HFK
    have hb3:=jac w3 (.cells #[.int .i64 R.code,.int .i64 R.n,.string R.text,.slice A1 R.answers.length k1,.slice A2 R.at_.length k2] 30)
    have C3:=Lib.hid (Cs.new w3 [.int .i64 R.code,.int .i64 R.n,.string R.text,.slice A1 R.answers.length k1,.slice A2 R.at_.length k2] 30)
    change Hid (Cs (w3.alloc (.cells #[.int .i64 R.code,.int .i64 R.n,.string R.text,.slice A1 R.answers.length k1,.slice A2 R.at_.length k2] 30)) _ _) at C3
    have M4:=Lib.hid (M3.out.next hb3)
    have HF4:=Lib.hid (HF3.out.trans (c':=c3) (Fr.below hb3) HO3.out)
    have hz34:=hb3.size
    have HANS4:=Lib.hid ((HANS.out.keep fun p hp=>hb3.cell hp.2.1).more (S':=Born wr (w3.alloc (.cells #[.int .i64 R.code,.int .i64 R.n,.string R.text,.slice A1 R.answers.length k1,.slice A2 R.at_.length k2] 30)) c3) fun q hq=>⟨hq.1,Nat.lt_of_lt_of_le hq.2.1 hb3.size,hq.2.2⟩)
    have HAT4:=Lib.hid ((HAT.out.keep fun p hp=>hb3.cell hp.2.1).more (S':=Born wr (w3.alloc (.cells #[.int .i64 R.code,.int .i64 R.n,.string R.text,.slice A1 R.answers.length k1,.slice A2 R.at_.length k2] 30)) c3) fun q hq=>⟨hq.1,Nat.lt_of_lt_of_le hq.2.1 hb3.size,hq.2.2⟩)
    have hbr4:Below w0.heap.size w0 (w3.alloc (.cells #[.int .i64 R.code,.int .i64 R.n,.string R.text,.slice A1 R.answers.length k1,.slice A2 R.at_.length k2] 30)):=M4.out.below
    have HB:Hid (∀ j,(w3.alloc (.cells #[.int .i64 R.code,.int .i64 R.n,.string R.text,.slice A1 R.answers.length k1,.slice A2 R.at_.length k2] 30)).cell? ⟨b,j,none⟩=wr.cell? ⟨b,j,none⟩):=fun j=>(hbr4.cell (p:=⟨b,j,none⟩) hbw).trans (hbr.cell (p:=⟨b,j,none⟩) hbw).symm
    have HIN4:Hid (Sl Enc.int (w3.alloc (.cells #[.int .i64 R.code,.int .i64 R.n,.string R.text,.slice A1 R.answers.length k1,.slice A2 R.at_.length k2] 30)) (Old w0) x.inp (.slice Ai x.inp.length ci)):=HIN.out.keep fun p hp=>(hbr4.cell hp).trans (hbr.cell hp).symm
    have b0:=(HB.out _).trans a0
    have b1:=(HB.out _).trans a1
    have b2:=(HB.out _).trans a2
    have b3:=(HB.out _).trans a3
    have b4:=(HB.out _).trans a4
    have q0:=C3.out.at 0 rfl
    have q1:=C3.out.at 1 rfl
    have q2:=C3.out.at 2 rfl
    have q3:=C3.out.at 3 rfl
    have q4:=C3.out.at 4 rfl
    go_wp2_with fail
    generalize w3.alloc (.cells #[.int .i64 R.code,.int .i64 R.n,.string R.text,.slice A1 R.answers.length k1,.slice A2 R.at_.length k2] 30)=w4 at *
    have hd4:Below w4.heap.size w4 w4.drew:=(Below.refl _ _).drew
    have M4d:=Lib.hid (M4.out.next hd4)
    have HF4d:=Lib.hid (HF4.out.trans (c':=c3) (Fr.below hd4) HO3.out)
    have HI4d:Hid (Sl Enc.int w4.drew (Old w0) x.inp (.slice Ai x.inp.length ci)):=HIN4.out.keep fun _ _=>rfl
    have HN4d:Hid (Sl Enc.ans w4.drew (Born wr w4.drew c3) R.answers (.slice A1 R.answers.length k1)):=HANS4.out.keep fun _ _=>rfl
    have HT4d:Hid (Sl Enc.int w4.drew (Born wr w4.drew c3) R.at_ (.slice A2 R.at_.length k2)):=HAT4.out.keep fun _ _=>rfl
    have d0:w4.drew.cell? ⟨b,o+k*5,none⟩=_:=b0
    have d1:w4.drew.cell? ⟨b,o+k*5+1,none⟩=_:=b1
    have d2:w4.drew.cell? ⟨b,o+k*5+2,none⟩=_:=b2
    have d3:w4.drew.cell? ⟨b,o+k*5+3,none⟩=_:=b3
    have d4:w4.drew.cell? ⟨b,o+k*5+4,none⟩=_:=b4
    have p0:w4.drew.cell? ⟨w3.heap.size,0,none⟩=_:=q0
    have p1:w4.drew.cell? ⟨w3.heap.size,1,none⟩=_:=q1
    have p2:w4.drew.cell? ⟨w3.heap.size,2,none⟩=_:=q2
    have p3:w4.drew.cell? ⟨w3.heap.size,3,none⟩=_:=q3
    have p4:w4.drew.cell? ⟨w3.heap.size,4,none⟩=_:=q4
    go_region_law (first
     | (go_simp;refine (HFK.out w4.drew w1.heap.size c3 vs3 vl3 HF4d.out HO3.out M4d.out HI4d.out HN4d.out HT4d.out).mono ?_;rintro e w5 ⟨rfl,m5,j5⟩))
    all_goals
     have M5:Hid (Mine w0 w5 w1.heap.size (runV newV (l.take (k+1))) c3 vs3 vl3):=by rw [HT.out];exact m5
     go_wp2
     exact ⟨⟨k+1,c3,vs3,vl3,by omega,by omega,by go_num,M5,j5⟩,by simp [intOf];omega⟩
   ·have h50':¬ (k:Int)<50:=by omega
    have hi1:(k:Int)<l.length:=by omega
    obtain rfl:k=50:=by omega
    go_wp2
    go_ret2
    exact jts.of _ M.out.below
  ·have hlt':¬ (k:Int)<l.length:=by omega
   go_wp2
   go_ret2
   exact jts.of _ M.out.below
end Go.Proofs.YthmlndmlnlfhnaaGreatDoor
