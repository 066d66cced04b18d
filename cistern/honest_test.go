package cistern_test

import (
	"bytes"
	"math/rand/v2"
	"testing"

	"cistern/api"
)

// honest is a client that keeps to the rules. Of credits and of the limit it knows what it was told; its frames are lost, come late, and come twice.
type honest struct {
	*rand.Rand
	s             server
	credit, limit int
	packet        int
	streams       []*honestStream
	underway      []honestFrame
}

type honestStream struct {
	whole        []byte // what it means to send
	credit, sent int    // sent: the greatest end
	final        int    // below 0: not told yet
	came         map[int]byte
	read         []byte
	done         bool
}

type honestFrame struct {
	id, offset int
	bytes      []byte
	frame      []byte
}

func newHonest(t *testing.T, r *rand.Rand, c api.Config, streams int) *honest {
	t.Helper()
	h := &honest{Rand: r, s: opened(t, c), credit: c.Window, limit: c.Streams}
	for range streams {
		whole := make([]byte, r.IntN(5*c.Piece))
		for i := range whole {
			whole[i] = byte(r.IntN(256))
		}
		h.streams = append(h.streams, &honestStream{whole: whole, credit: c.Piece, final: -1, came: map[int]byte{}})
	}
	return h
}

// may is the greatest end that the client may send of a stream.
func (h *honest) may(x *honestStream) int {
	room := h.credit
	for _, other := range h.streams {
		room -= other.sent
	}
	return min(len(x.whole), x.credit, x.sent+room)
}

// sends lets a piece be under way, from an offset on.
func (h *honest) sends(id, offset, count int) {
	x := h.streams[id]
	end := min(offset+count, h.may(x))
	if x.final >= 0 {
		end = min(offset+count, x.final)
	}
	if end < offset {
		return
	}
	x.sent = max(x.sent, end)
	b := x.whole[offset:end]
	f := honestFrame{id, offset, b, piece(id, offset, string(b))}
	if end == len(x.whole) {
		x.final = end
		f.frame = last(id, offset, string(b))
	}
	h.underway = append(h.underway, f)
}

// givesUp resets a stream at what was sent of it.
func (h *honest) givesUp(id int) {
	x := h.streams[id]
	if x.final < 0 {
		x.final = x.sent
	}
	h.underway = append(h.underway, honestFrame{id: id, frame: reset(id, x.final)})
}

// delivers hands over what is under way at a place; but what would make too many gaps is lost.
func (h *honest) delivers(at int) {
	h.s.t.Helper()
	f := h.underway[at]
	x := h.streams[f.id]
	then := map[int]byte{}
	for i, b := range f.bytes {
		if f.offset+i >= len(x.read) && !x.done {
			then[f.offset+i] = b
		}
	}
	for place, b := range x.came {
		then[place] = b
	}
	if runsOf(then) > h.s.c.Gaps {
		return
	}
	x.came = then
	h.packet++
	h.s.brings(h.packet, f.frame)
}

// reads reads, looks at what is read, and tells the client the news.
func (h *honest) reads(id, most int) {
	h.s.t.Helper()
	x := h.streams[id]
	got, sent, e := h.s.Read(5, id, most)
	x.read = append(x.read, got.Bytes...)
	if e != api.OK || len(got.Bytes) > most || !bytes.HasPrefix(x.whole, x.read) {
		h.s.t.Fatalf("Read(5, %d, %d) = %+v, %d: now %x was read of %x", id, most, got, e, x.read, x.whole)
	}
	for i := range got.Bytes {
		delete(x.came, len(x.read)-1-i)
	}
	if (got.End || got.Reset) && x.final < 0 || got.End && len(x.read) != x.final || got.Reset && len(got.Bytes) > 0 {
		h.s.t.Fatalf("Read(5, %d, %d) = %+v, behind %d of %d bytes", id, most, got, len(x.read), x.final)
	}
	if got.Reset {
		clear(x.came)
	}
	x.done = got.End || got.Reset
	for _, d := range sent {
		h.hears(d)
	}
	if look, _ := h.s.Look(5); look.Buffered > h.s.c.Window || look.Credit != h.credit || look.Limit != h.limit {
		h.s.t.Fatalf("Look(5) = %+v, but the client was told %d and %d", look, h.credit, h.limit)
	}
}

// hears takes up a news. A client is never told less than before.
func (h *honest) hears(d api.Sent) {
	h.s.t.Helper()
	n, rest, _ := takeNumber(d.Bytes[3:])
	known := &h.credit
	switch d.Bytes[2] {
	case 17:
		known = &h.streams[n].credit
		n, _, _ = takeNumber(rest)
	case 18:
		known = &h.limit
	}
	if n <= *known {
		h.s.t.Fatalf("the news %x tell no more than before", d.Bytes)
	}
	*known = n
}

// open is how many of its streams the client may send.
func (h *honest) open() int { return min(h.limit, len(h.streams)) }

// goesOn does one thing or another.
func (h *honest) goesOn() {
	h.s.t.Helper()
	id := h.IntN(h.open())
	x := h.streams[id]
	switch h.IntN(6) {
	case 0, 1:
		h.sends(id, min(len(x.whole), max(0, x.sent-h.IntN(10))), h.IntN(12))
	case 2:
		h.sends(id, h.IntN(x.sent+1), h.IntN(12))
	case 3, 4:
		h.comes()
	default:
		h.reads(id, h.IntN(20))
	}
}

// comes lets something that is under way come, or be lost; it may come once more later.
func (h *honest) comes() {
	h.s.t.Helper()
	if len(h.underway) == 0 {
		return
	}
	at := h.IntN(len(h.underway))
	if h.IntN(5) > 0 {
		h.delivers(at)
	}
	if h.IntN(5) > 0 {
		h.underway = append(h.underway[:at], h.underway[at+1:]...)
	}
}

// finishes sends in order what is missing, till all is read.
func (h *honest) finishes() {
	h.s.t.Helper()
	for id := 0; id < len(h.streams); id++ {
		x := h.streams[id]
		for tries := 0; !x.done; tries++ {
			if tries > 1000 {
				h.s.t.Fatalf("stream %d does not go on: %d of %d bytes were read", id, len(x.read), len(x.whole))
			}
			for other := range h.open() {
				h.underway = nil
				h.sends(other, len(h.streams[other].read), 10000) // as much as may be, so that no gap is left
				if len(h.underway) > 0 {
					h.delivers(0)
				}
				h.reads(other, 5)
			}
		}
	}
}

func randomHonest(t *testing.T, seed uint64) *honest {
	t.Helper()
	r := rand.New(rand.NewPCG(seed, 8))
	c := randomConfig(r)
	c.Memory = 100000
	return newHonest(t, r, c, 3+r.IntN(6))
}

// Streams come in whatever pieces, late, twice or not at all: each is read whole, and in order.
func TestP8StreamsAreReadWhole(t *testing.T) {
	for seed := range uint64(300) {
		h := randomHonest(t, seed)
		for range 300 {
			h.goesOn()
		}
		h.finishes()
		for id, x := range h.streams {
			if !bytes.Equal(x.read, x.whole) {
				t.Fatalf("of stream %d, %x, there was read %x", id, x.whole, x.read)
			}
		}
		h.s.buffers(5, 0)
		h.s.accepts(5)
	}
}

// Some are given up: what was read of them is their front, and the others go on.
func TestP8StreamsThatAreGivenUp(t *testing.T) {
	for seed := range uint64(300) {
		h := randomHonest(t, 1000+seed)
		for range 300 {
			h.goesOn()
			if h.IntN(20) == 0 {
				h.givesUp(h.IntN(h.open()))
			}
		}
		// whoever told a final size below what it meant to send gives up for good
		for range 2 * len(h.streams) {
			for id := range h.open() {
				if x := h.streams[id]; x.final >= 0 && !x.done {
					h.givesUp(id)
					h.delivers(len(h.underway) - 1)
					h.reads(id, 10000)
				}
			}
		}
		h.finishes()
		h.s.buffers(5, 0)
	}
}

// Nobody is proven here: whatever comes, no address gets more than three times what came from it.
func TestP8NoMoreThanThreeTimes(t *testing.T) {
	for seed := range uint64(200) {
		random := rand.New(rand.NewPCG(seed, 9))
		c := randomConfig(random)
		s := start(t, c)
		var came, sent [3]int
		now := 0
		for range 300 {
			address, cid := random.IntN(3), random.IntN(6)
			frames := bytes.Join([][]byte{pads(random.IntN(8)), piece(0, random.IntN(12), "x"), {byte(random.IntN(9))}}[random.IntN(3):], nil)
			var l []api.Sent
			switch random.IntN(8) {
			case 0:
				l, _ = s.Close(cid, 1<<random.IntN(30))
			case 1:
				now += random.IntN(c.Idle)
				s.clock(now, api.OK)
			case 2, 3:
				b := data(cid, random.IntN(50), frames)
				came[address] += len(b)
				l = s.Receive(address, b)
			default:
				b := hello(cid, nil, frames)
				came[address] += len(b)
				l = s.Receive(address, b)
			}
			for _, d := range l {
				sent[d.To] += len(d.Bytes)
			}
			for i := range sent {
				if sent[i] > 3*came[i] {
					t.Fatalf("to the address %d went %d bytes, but only %d came", i, sent[i], came[i])
				}
			}
		}
	}
}
