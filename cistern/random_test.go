package cistern_test

import (
	"math/rand/v2"
	"testing"

	"cistern/api"
)

// crowd makes datagrams of clients, some of whom lie.
type crowd struct {
	*rand.Rand
	c       api.Config
	now     int
	packets int
}

func (r *crowd) one(choices ...int) int { return choices[r.IntN(len(choices))] }

// rare: once in so many times.
func (r *crowd) rare(times int) bool { return r.IntN(times) == 0 }

func randomConfig(r *rand.Rand) api.Config {
	window := 8 + r.IntN(40)
	c := api.Config{
		Conns: 1 + r.IntN(4), Window: window, Piece: 8 + r.IntN(window-7), Streams: 1 + r.IntN(4), Gaps: 1 + r.IntN(4),
		Load: r.IntN(4), Idle: 1 + r.IntN(30), Life: 1 + r.IntN(10), Memory: 100000, Key: r.IntN(1 << 32),
	}
	if r.IntN(4) == 0 {
		c.Memory = r.IntN(600)
	}
	return c
}

func (r *crowd) address() int {
	if r.rare(50) {
		return r.one(-1, 256, 300, 255)
	}
	return r.IntN(2)
}

func (r *crowd) cid() int {
	if r.rare(40) {
		return r.one(63, 64, 16384, 1073741823)
	}
	return r.IntN(4)
}

func (r *crowd) token(address int) []byte {
	switch r.IntN(8) {
	case 0, 1, 2:
		return nil
	case 3:
		return tokenOf(r.c, r.IntN(3), r.now+r.IntN(4)-2)
	case 4:
		b := tokenOf(r.c, address, r.now)
		b[r.IntN(9)] ^= 1
		return b[:9-r.IntN(2)]
	}
	return tokenOf(r.c, address, r.now+r.IntN(20))
}

// text is what the stream's client means to send there; seldom with another byte.
func (r *crowd) text(id, offset, count int) string {
	b := make([]byte, count)
	for i := range b {
		b[i] = byte(7*id + 3*(offset+i))
	}
	if count > 0 && r.rare(100) {
		b[r.IntN(count)]++
	}
	return string(b)
}

// size is how long a stream's client means it to be.
func (r *crowd) size(id int) int {
	if r.rare(40) {
		return r.IntN(r.c.Piece + 3)
	}
	return min(r.c.Piece, r.c.Window/r.c.Streams) - id%3
}

func (r *crowd) frame(address, cid int) []byte {
	id := r.IntN(r.c.Streams)
	if r.rare(80) {
		id = r.one(r.c.Streams, 63, 1000)
	}
	size := r.size(id)
	offset := r.IntN(size + 1)
	count := r.IntN(min(size-offset, 6) + 1)
	switch r.IntN(40) {
	case 0:
		return []byte{byte(r.IntN(256))}
	case 1:
		return shut(r.IntN(100))
	case 2:
		return prove(r.IntN(1 << 30))
	case 3, 4:
		return prove(proofOf(r.c, address, cid))
	case 5, 6:
		return reset(id, size)
	case 7, 8, 9:
		return last(id, offset, r.text(id, offset, size-offset))
	case 10, 11:
		return pads(r.IntN(30))
	case 12:
		return []byte{1}
	case 13:
		return last(id, offset, r.text(id, offset, count))
	}
	return piece(id, offset, r.text(id, offset, count))
}

func (r *crowd) datagram(address int) []byte {
	cid := r.cid()
	var frames [][]byte
	for range r.IntN(4) {
		frames = append(frames, r.frame(address, cid))
	}
	r.packets++
	number := max(0, r.packets-r.IntN(8))
	b := data(cid, number, frames...)
	if r.rare(3) {
		b = hello(cid, r.token(address), frames...)
	}
	if r.rare(60) {
		b[r.IntN(len(b))] = byte(r.IntN(256))
	}
	if r.rare(60) {
		b = b[:r.IntN(len(b)+1)]
	}
	return b
}

// Whatever comes, in whatever order: the server and the model answer the same.
func TestP4P5AgainstTheModel(t *testing.T) {
	for seed := range uint64(400) {
		random := rand.New(rand.NewPCG(seed, 5))
		r := &crowd{Rand: random, c: randomConfig(random)}
		s, m := start(t, r.c), newModel(r.c)
		for range 300 {
			step(r, s, m)
		}
	}
}

// step does one thing to both, and looks at all that is to be seen.
func step(r *crowd, s server, m *model) {
	s.t.Helper()
	switch r.IntN(12) {
	case 0:
		now := r.now + r.IntN(r.c.Idle+1)
		if r.rare(10) {
			now = r.one(-1, 1000000001, r.now-1)
		}
		s.clock(now, m.clock(now))
		r.now = m.now
	case 1:
		got, e := s.Accept()
		if want, f := m.accept(); got != want || e != f {
			s.t.Fatalf("Accept() = %d, %d, want %d, %d", got, e, want, f)
		}
	default:
		address := r.address()
		b := r.datagram(address)
		s.receives(address, b, m.receive(address, b)...)
	}
	s.memory(m.memory())
	for _, cid := range []int{0, 1, 2, 3, 63, 64, 16384, 1073741823} {
		got, e := s.Look(cid)
		if want, f := m.look(cid); got != want || e != f {
			s.t.Fatalf("Look(%d) = %+v, %d, want %+v, %d", cid, got, e, want, f)
		}
	}
}

// Bytes without any sense: nothing panics, and nothing is kept beyond its bounds.
func TestP1AnyBytes(t *testing.T) {
	r := rand.New(rand.NewPCG(1, 2))
	for range 200 {
		c := randomConfig(r)
		s, m := start(t, c), newModel(c)
		for range 300 {
			b := make([]byte, r.IntN(30))
			for i := range b {
				b[i] = byte(r.IntN(256) >> r.IntN(8))
			}
			address := r.IntN(3)
			s.receives(address, b, m.receive(address, b)...)
			s.memory(m.memory())
		}
	}
}
