package cistern_test

import (
	"math"
	"math/rand/v2"
	"testing"

	"cistern/api"
)

// crowd makes datagrams of clients, some of whom lie. It peeks at the model to lie seldom enough: else no connection would get far.
type crowd struct {
	*rand.Rand
	c       api.Config
	m       *model
	packets int
}

func (r *crowd) one(choices ...int) int { return choices[r.IntN(len(choices))] }

// rare: once in so many times.
func (r *crowd) rare(times int) bool { return r.IntN(times) == 0 }

func randomConfig(r *rand.Rand) api.Config {
	window := 8 + r.IntN(40)
	c := api.Config{
		Conns: 1 + r.IntN(4), Window: window, Piece: 8 + r.IntN(window-7), Streams: 1 + r.IntN(4), Gaps: 1 + r.IntN(4),
		Load: r.IntN(4), Idle: 1 + r.IntN(30), Life: 1 + r.IntN(10), Memory: 100000, Key: r.IntN(1 << 32),
	}
	if r.IntN(4) == 0 {
		c.Memory = r.IntN(600)
	}
	return c
}

func (r *crowd) address() int {
	if r.rare(50) {
		return r.one(-1, 256, 300, 255)
	}
	return r.IntN(2)
}

func (r *crowd) cid() int {
	if r.rare(40) {
		return r.one(63, 64, 16384, 1073741823)
	}
	return r.IntN(4)
}

func (r *crowd) token(address int) []byte {
	switch r.IntN(8) {
	case 0, 1, 2:
		return nil
	case 3:
		return tokenOf(r.c, r.IntN(3), r.m.now+r.IntN(4)-2)
	case 4:
		b := tokenOf(r.c, address, r.m.now)
		b[r.IntN(9)] ^= 1
		return b[:9-r.IntN(2)]
	}
	return tokenOf(r.c, address, r.m.now+r.IntN(20))
}

// text is what the stream's client means to send there; seldom with another byte.
func (r *crowd) text(id, offset, count int) string {
	b := make([]byte, count)
	for i := range b {
		b[i] = byte(7*id + 3*(offset+i))
	}
	if count > 0 && r.rare(100) {
		b[r.IntN(count)]++
	}
	return string(b)
}

// size is how long a stream's client means it to be.
func (r *crowd) size(id int) int { return (5 + 11*id) % (3 * r.c.Piece) }

// stream is one that there may be, mostly, and one of the last ones, mostly.
func (r *crowd) stream(c *modelConn) int {
	switch {
	case r.rare(300):
		return c.limit + r.one(0, 1, 1000)
	case r.rare(10):
		return r.IntN(c.limit)
	}
	return max(0, c.limit-1-r.IntN(r.c.Streams+1))
}

func (r *crowd) frame(address, cid int) []byte {
	switch r.IntN(400) {
	case 0:
		return []byte{byte(r.IntN(256))}
	case 1:
		return shut(r.IntN(100))
	case 2:
		return prove(r.IntN(1 << 30))
	}
	switch r.IntN(20) {
	case 0, 1:
		return prove(proofOf(r.c, address, cid))
	case 2:
		return pads(r.IntN(30))
	case 3:
		return []byte{1}
	}
	return r.streamFrame(cid)
}

// streamFrame goes on with a stream near where something is missing.
func (r *crowd) streamFrame(cid int) []byte {
	c := r.m.conns[cid]
	if c == nil {
		c = &modelConn{credit: r.c.Window, limit: r.c.Streams}
	}
	id := r.stream(c)
	s := c.streams[id]
	if s == nil {
		s = &modelStream{credit: r.c.Piece, final: -1}
	}
	size := r.size(id)
	room := c.credit
	for _, other := range c.streams {
		room -= other.highest
	}
	may := min(size, s.credit, s.highest+room)
	if r.rare(100) {
		may++
	}
	offset := s.read
	for _, filled := s.received[offset]; filled; _, filled = s.received[offset] {
		offset++
	}
	offset = min(max(0, offset+r.one(0, 0, 0, 1, 2, 5, -1, -2, -9, -100)), may)
	end := min(may, offset+r.IntN(9))
	switch {
	case size <= may && r.rare(8):
		return reset(id, size)
	case size <= may && r.rare(8):
		return last(id, size, "")
	case end == size && !r.rare(8), r.rare(200):
		return last(id, offset, r.text(id, offset, end-offset))
	case r.rare(200):
		return reset(id, end)
	}
	return piece(id, offset, r.text(id, offset, end-offset))
}

func (r *crowd) datagram(address int) []byte {
	cid := r.cid()
	var frames [][]byte
	for range r.IntN(4) {
		frames = append(frames, r.frame(address, cid))
	}
	r.packets++
	number := max(0, r.packets-r.one(0, 0, 1, 1, 2, 5, 30))
	b := data(cid, number, frames...)
	if r.m.conns[cid] == nil || r.rare(10) {
		b = hello(cid, r.token(address), frames...)
	}
	if r.rare(300) {
		b[r.IntN(len(b))] = byte(r.IntN(256))
	}
	if r.rare(300) {
		b = b[:r.IntN(len(b)+1)]
	}
	return b
}

// Whatever comes, in whatever order: the server and the model answer the same.
func TestP4ToP8AgainstTheModel(t *testing.T) {
	for seed := range uint64(400) {
		random := rand.New(rand.NewPCG(seed, 5))
		c := randomConfig(random)
		s, m := start(t, c), newModel(c)
		r := &crowd{Rand: random, c: c, m: m}
		for range 500 {
			step(r, s, m)
			compare(s, m)
			bounded(s)
		}
	}
}

// step does one thing to both.
func step(r *crowd, s server, m *model) {
	s.t.Helper()
	switch r.IntN(60) {
	case 0, 1, 2:
		now := m.now + r.IntN(r.c.Idle+1)
		if r.rare(10) {
			now = r.one(-1, 1000000001, m.now-1)
		}
		s.clock(now, m.clock(now))
	case 3, 4, 5:
		got, e := s.Accept()
		if want, f := m.accept(); got != want || e != f {
			s.t.Fatalf("Accept() = %d, %d, want %d, %d", got, e, want, f)
		}
	case 6:
		stepClose(r, s, m)
	default:
		if r.rare(3) {
			stepRead(r, s, m)
			return
		}
		address := r.address()
		b := r.datagram(address)
		s.receives(address, b, m.receive(address, b)...)
	}
}

func stepRead(r *crowd, s server, m *model) {
	s.t.Helper()
	cid, id, most := r.cid(), r.IntN(4), r.one(0, 1, 3, 8, 20, math.MaxInt)
	if c := m.conns[cid]; c != nil {
		id = r.stream(c)
	}
	if r.rare(50) {
		id = r.one(-1, math.MinInt, math.MaxInt)
	}
	if r.rare(50) {
		most = r.one(-1, math.MinInt)
	}
	want, sent, e := m.read(cid, id, most)
	if e != api.OK {
		s.refusesRead(cid, id, most, e)
		return
	}
	s.reads(cid, id, most, want, sent...)
}

func stepClose(r *crowd, s server, m *model) {
	s.t.Helper()
	cid, code := r.cid(), r.one(0, 63, 64, 16384, 1073741823, 1073741824, -1)
	sent, e := m.close(cid, code)
	if e != api.OK {
		s.refusesClose(cid, code, e)
		return
	}
	s.closes(cid, code, sent...)
}

// compare looks at all that is to be seen.
func compare(s server, m *model) {
	s.t.Helper()
	s.memory(m.memory())
	for _, cid := range []int{0, 1, 2, 3, 63, 64, 16384, 1073741823} {
		got, e := s.Look(cid)
		if want, f := m.look(cid); got != want || e != f {
			s.t.Fatalf("Look(%d) = %+v, %d, want %+v, %d", cid, got, e, want, f)
		}
	}
}

// bounded sees to P8: whatever comes, what is kept is within the config's bounds.
func bounded(s server) {
	s.t.Helper()
	count := 0
	for _, cid := range []int{0, 1, 2, 3, 63, 64, 16384, 1073741823} {
		look, e := s.Look(cid)
		if e == api.OK {
			count++
		}
		if look.Buffered > s.c.Window {
			s.t.Fatalf("Look(%d) = %+v, of a window of %d", cid, look, s.c.Window)
		}
	}
	if count > s.c.Conns || s.Memory() > s.c.Memory {
		s.t.Fatalf("%d connections of %d, memory %d of %d", count, s.c.Conns, s.Memory(), s.c.Memory)
	}
}

// Bytes without any sense: nothing panics, and nothing is kept beyond its bounds.
func TestP1AnyBytes(t *testing.T) {
	r := rand.New(rand.NewPCG(1, 2))
	for range 200 {
		c := randomConfig(r)
		s, m := start(t, c), newModel(c)
		for range 300 {
			b := make([]byte, r.IntN(30))
			for i := range b {
				b[i] = byte(r.IntN(256) >> r.IntN(8))
			}
			address := r.IntN(3)
			s.receives(address, b, m.receive(address, b)...)
			s.memory(m.memory())
		}
	}
}
