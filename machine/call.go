package machine

import (
	"hackle/api"
	"hackle/help"
)

// The helpers that do not draw.
const (
	look = 1
	put  = 2
	drop = 3
	note = 6
)

// Which registers a helper leaves unset: from this one on, and from that one on not.
const (
	leftFrom = 1
	leftTo   = 6
)

// call does what a helper does, and keeps what it was told, and told.
func (m *Machine) call(id int) api.Errno {
	s, there := help.Sig(id)
	if !there {
		return api.ErrHelper
	}
	c, e := m.told(s)
	if e != api.OK {
		return e
	}
	c.Id = id
	c.Ret, e = m.tells(c)
	if e != api.OK {
		return e
	}
	m.calls = append(m.calls, c)
	clear(m.regs[leftFrom:leftTo])
	m.setReg(0, c.Ret)
	return api.OK
}

// told is what the registers tell a helper, one by one: what is wrong with one is found ahead of what is wrong with the next.
func (m *Machine) told(s api.Sig) (api.Called, api.Errno) {
	var c api.Called
	for i, kind := range s.Told {
		n, e := m.read(uint8(i + 1))
		if e == api.OK {
			e = m.tell(&c, kind, n)
		}
		if e != api.OK {
			return api.Called{}, e
		}
	}
	return c, api.OK
}

// tell adds what a register tells a helper. A map is told ahead of its keys and values.
func (m *Machine) tell(c *api.Called, kind uint8, n uint64) (e api.Errno) {
	switch kind {
	case api.ToldTable:
		// Modulo 2^64: what is below the first word is far above the last one.
		i := n - word(0)
		if i >= uint64(len(m.defs)) {
			return api.ErrTold
		}
		c.Map = int(i)
	case api.ToldKey:
		c.Key, e = m.mem.Read(n, m.defs[c.Map].Key)
	case api.ToldVal:
		c.Val, e = m.mem.Read(n, m.defs[c.Map].Val)
	case api.ToldNum:
		c.N = append(c.N, n)
	}
	return e
}

// tells is what a helper tells.
func (m *Machine) tells(c api.Called) (uint64, api.Errno) {
	switch c.Id {
	case look:
		return m.maps.Look(c.Map, c.Key)
	case put:
		return m.maps.Put(c.Map, c.Key, c.Val, c.N[0])
	case drop:
		return m.maps.Drop(c.Map, c.Key)
	case note:
		return 0, api.OK
	}
	return m.draw(c.Id)
}

// draw is what a helper draws.
func (m *Machine) draw(id int) (uint64, api.Errno) {
	// Draw answers the others as a new list: handed the first one alone, it has none to copy.
	n, _, e := help.Draw(id, m.draws[:min(1, len(m.draws))])
	if e != api.OK {
		return 0, e
	}
	m.draws = m.draws[1:]
	return n, api.OK
}
