package world

import (
	"fmt"
	"testing"

	"mintvault/api"
)

// tale has each call of a mint and of wallets in it.
func tale() []api.Act {
	l := then(has(0, "a", 2), heard(exchange(0, 1))...)
	l = then(l, send(0, 1, 1), receive(1), toMint(0), toWallet(0))
	l = then(l, heard(pay(1, "s", 1))...)
	return then(l, then(heard(ask(1, "a", 2)), settle())...)
}

// disks are how many bytes lie on each disk at the end of the tale: the mint's, those of the wallets.
func disks(t *testing.T) []int {
	t.Helper()
	s := begun(worldOf(2))
	for _, a := range tale() {
		s.act(a)
	}
	return []int{len(s.mint.Disk()), len(s.owners[0].Disk()), len(s.owners[1].Disk())}
}

// budget is the power of the mint or of a wallet, and how it is opened again.
type budget struct {
	arm, open api.Act
	left      int
}

// budgets are all with which the power goes at some byte of the tale, and one more.
func budgets(t *testing.T) []budget {
	t.Helper()
	var l []budget
	for i, size := range disks(t) {
		for n := range size + 1 {
			b := budget{mintPower(n), mintOpen(), n}
			if i > 0 {
				b.arm, b.open = power(i-1, n), open(i-1)
			}
			l = append(l, b)
		}
	}
	if len(l) < 1000 {
		t.Fatalf("only %d bytes are written", len(l))
	}
	return l
}

// goneAt is the first act behind which someone has no power; -1, if all have.
func goneAt(p *twin, l []api.Act) int {
	for i, a := range l {
		p.act(a)
		off := p.d.bank.off
		for _, purse := range p.d.purses {
			off = off || purse.off
		}
		if off {
			return i
		}
	}
	return -1
}

// The power goes behind any byte. What was done stays done: opened again, all goes on from there, and when all settles nothing is lost.
func TestPower(t *testing.T) {
	whole := story(t, 2, tale()...).s.scene()
	each(t, budgets(t), func(t *testing.T, b budget) {
		p := story(t, 2, b.arm)
		l := tale()
		l = l[:len(l)-1]
		i := goneAt(p, l)
		if i < 0 {
			p.act(settle())
			p.stands(fmt.Sprintf("%+v: power to the end", b.arm), whole)
			return
		}
		before := p.s.scene()
		p.act(b.open)
		p.stands(fmt.Sprintf("%+v: opened again", b.arm), before)
		p.act(again(0), again(1), toMint(0), toWallet(0), toMint(0), toWallet(0))
		p.act(l[i+1:]...)
		p.act(settle())
		if b.left%64 == 0 {
			p.ends()
		}
	})
}

// Without being opened all goes on as far as it does, and then settles.
func TestPowerThatStaysOff(t *testing.T) {
	each(t, budgets(t), func(t *testing.T, b budget) {
		if b.left%11 != 0 {
			return
		}
		p := story(t, 2, then([]api.Act{b.arm}, tale()...)...)
		p.act(fund("z", 3), ask(0, "z", 3), settle())
		p.ends()
	})
}

// Several lose their power, one while another is opened.
func TestPowerOfAll(t *testing.T) {
	var l []int
	for n := 0; n < 500; n += 23 {
		l = append(l, n)
	}
	each(t, l, func(t *testing.T, n int) {
		p := story(t, 2, mintPower(n), power(0, 500-n), power(1, n/2))
		for i, a := range tale() {
			p.act(a)
			switch i % 5 {
			case 2:
				p.act(open(i%2), power(i%2, n))
			case 4:
				p.act(mintOpen(), mintPower(n))
			}
		}
		p.act(settle())
		p.ends()
	})
}

// Arm is gone once it is opened, whether the power is off or not; and a power that is off stays off till then.
func TestArmIsGone(t *testing.T) {
	p := story(t, 2, mintPower(0), mintOpen(), fund("a", 7), power(0, 0), open(0), ask(0, "a", 7), toMint(0), toWallet(0))
	p.has("opened ahead of all", 0, 0, 0, 7, 0)
	p.act(mintPower(3), fund("b", 1), mintPower(-1), fund("b", 1), mintPower(1000), fund("b", 1))
	if got := p.s.scene().Book.Funded; got != 7 {
		t.Errorf("P1: a power that is off: %d", got)
	}
	p.act(mintOpen(), fund("b", 1))
	if got := p.s.scene().Book.Funded; got != 8 {
		t.Errorf("P1: power again: %d", got)
	}
	p.act(power(0, 3), send(0, 1, 1), power(0, -1), send(0, 1, 1), power(0, 1000), send(0, 1, 1))
	p.has("a power that is off", 0, 0, 0, 7, 0)
	p.act(open(1), send(0, 1, 1))
	p.has("another one is opened", 0, 0, 0, 7, 0)
	p.act(open(0), send(0, 1, 1))
	p.has("power again", 0, 0, 1, 6, 0)
	p.act(mintPower(0), power(0, 0), power(1, 0), settle(), send(0, 1, 2), receive(1), toMint(0), toWallet(0))
	p.has("settled", 0, 0, 0, 4, 3)
	p.ends()
}

// Each is armed by itself.
func TestPowerOfOne(t *testing.T) {
	p := story(t, 3, then(has(0, "a", 3), has(1, "b", 3)...)...)
	p.act(power(1, 0), send(0, 2, 1), send(1, 2, 1), fund("c", 1))
	p.has("the power of wallet 1", 0, 0, 1, 2, 3, 0)
	p.act(mintPower(0), fund("d", 1), receive(2), toMint(0), toWallet(0))
	p.has("that of the mint", 0, 0, 0, 2, 3, 0)
	p.isOpen("that of the mint", 2, true)
	if got := p.s.scene().Book.Funded; got != 7 {
		t.Errorf("P1: Funded: %d", got)
	}
	p.ends()
}
