package tests

import (
	"bytes"
	"slices"

	"loop.example/g00003/impl"
)

// This file has chapter 18 once more, on the ends of the tests of chapter 17. Nothing in it runs beside another thing.

// modelComing is a segment, or a copy of one, that is on the way.
type modelComing struct {
	at, number, copied int64
	to                 int
	bytes              []byte
}

type modelPair struct {
	c     impl.PairConfig
	fates []impl.Fate
	// ends are A and B.
	ends             [2]*modelEnd
	now              int64
	coming           []modelComing
	sent, come, bad  int64
	steps            int
	spent            bool
	codes            map[int64]int
	together, turned int
}

func newModelPair(c impl.PairConfig, fates []impl.Fate) *modelPair {
	return &modelPair{c: c, fates: fates, ends: [2]*modelEnd{newModelEnd(c.A), newModelEnd(c.B)}, codes: map[int64]int{}}
}

func (p *modelPair) do(op impl.PairOp) impl.PairOut {
	var out impl.PairOut
	switch {
	case p.spent:
		out.Code = impl.ErrFull
	case op.Side == 0 || op.Side == 1:
		if k := op.Op.Kind; k >= 1 && k <= 6 || k == 9 {
			told := p.does(int(op.Side), func(m *modelEnd) impl.TcpOut { return m.do(op.Op) })
			out.Code, out.Took, out.Data = told.Code, told.Took, told.Data
		} else {
			out.Code = impl.ErrForm
		}
	case op.Side == 2:
		out.Code = p.wait(op.Wait)
	default:
		out.Code = impl.ErrForm
	}
	out.StateA, out.StateB = p.ends[0].state, p.ends[1].state
	out.Sent, out.Come, out.Bad = p.sent, p.come, p.bad
	p.codes[out.Code]++
	return out
}

func (p *modelPair) does(side int, what func(m *modelEnd) impl.TcpOut) impl.TcpOut {
	p.ends[side].now = p.now
	out := what(p.ends[side])
	for _, s := range out.Sent {
		p.send(side, s)
	}
	return out
}

var modelAddrs = []int64{167772161, 167772162}

func (p *modelPair) send(side int, s impl.Segment) {
	fate := impl.Fate{Delay: p.c.Delay}
	if p.sent < int64(len(p.fates)) {
		fate = p.fates[p.sent]
	}
	p.sent++
	if fate.Lose {
		return
	}
	b, code := impl.EncodeSegment(s, modelAddrs[side], modelAddrs[1-side])
	if code != impl.OK {
		panic("a segment without bytes")
	}
	if fate.Spoil > 0 {
		bit := (fate.Spoil - 1) % int64(8*len(b))
		b[bit/8] ^= []byte{128, 64, 32, 16, 8, 4, 2, 1}[bit%8]
		p.turned++
	}
	for n := range fate.Copies + 1 {
		p.coming = append(p.coming, modelComing{p.now + fate.Delay*(n+1), p.sent - 1, n, 1 - side, b})
	}
}

// next is what comes first, by its place in coming, or else the timer that goes off first, by whose it is; when is
// behind all times where there is neither.
func (p *modelPair) next() (when int64, coming, side int) {
	when, coming, side = lastTime+1, -1, -1
	for i, x := range p.coming {
		if x.at < when || coming >= 0 && x.at == when && (x.number < p.coming[coming].number ||
			x.number == p.coming[coming].number && x.copied < p.coming[coming].copied) {
			when, coming = x.at, i
		}
	}
	for i, m := range p.ends {
		if name, at := m.firstDue(); name != "" && at < when {
			when, coming, side = at, -1, i
		}
	}
	return when, coming, side
}

func (p *modelPair) wait(wait int64) int64 {
	if wait < 0 || wait > lastTime-p.now {
		return impl.ErrForm
	}
	end := p.now + wait
	for {
		when, coming, side := p.next()
		if when > end {
			p.now = end
			return impl.OK
		}
		if p.steps == 20000 {
			p.spent = true
			return impl.ErrFull
		}
		p.steps++
		p.together += int(oneIf(when == p.now))
		p.now = when
		if coming >= 0 {
			p.comes(coming)
		} else {
			p.goesOff(side)
		}
	}
}

func (p *modelPair) comes(i int) {
	x := p.coming[i]
	p.coming = slices.Delete(p.coming, i, i+1)
	p.come++
	s, code := impl.DecodeSegment(x.bytes, modelAddrs[1-x.to], modelAddrs[x.to])
	if code != impl.OK {
		p.bad++
		return
	}
	p.does(x.to, func(m *modelEnd) impl.TcpOut { return m.do(impl.TcpOp{Kind: 7, Segment: s}) })
}

func (p *modelPair) goesOff(side int) {
	p.does(side, func(m *modelEnd) impl.TcpOut {
		name, at := m.firstDue()
		m.goesOffAt(name, at)
		sent := m.sent
		m.sent = nil
		return impl.TcpOut{Sent: sent}
	})
}

func samePairOut(a, b impl.PairOut) bool {
	return a.Code == b.Code && a.Took == b.Took && bytes.Equal(a.Data, b.Data) && a.StateA == b.StateA && a.StateB == b.StateB &&
		a.Sent == b.Sent && a.Come == b.Come && a.Bad == b.Bad
}

func samePairOuts(a, b []impl.PairOut) bool { return slices.EqualFunc(a, b, samePairOut) }
