package cistern_test

import (
	"bytes"
	"testing"

	"cistern/api"
	"cistern/cistern"
)

// What a client sends, written by the document's words.

func hello(cid int, token []byte, frames ...[]byte) []byte {
	return bytes.Join([][]byte{{1}, written(cid), written(len(token)), token, bytes.Join(frames, nil)}, nil)
}

func data(cid, packet int, frames ...[]byte) []byte {
	return bytes.Join([][]byte{{2}, written(cid), written(packet), bytes.Join(frames, nil)}, nil)
}

func piece(id, offset int, text string) []byte { return textFrame(3, id, offset, text) }
func last(id, offset int, text string) []byte  { return textFrame(4, id, offset, text) }
func reset(id, size int) []byte                { return numberFrame(5, id, size) }
func shut(code int) []byte                     { return numberFrame(6, code) }
func prove(proof int) []byte                   { return numberFrame(7, proof) }

func pads(count int) []byte { return make([]byte, count) }

func numberFrame(kind byte, numbers ...int) []byte {
	b := []byte{kind}
	for _, n := range numbers {
		b = append(b, written(n)...)
	}
	return b
}

func textFrame(kind byte, id, offset int, text string) []byte {
	return append(numberFrame(kind, id, offset, len(text)), text...)
}

// What the server sends, written by the document's words.

func tokenOf(c api.Config, address, time int) []byte {
	front := append([]byte{byte(address)}, four(time)...)
	return append(front, four(summed(four(c.Key), front))...)
}

func proofOf(c api.Config, address, cid int) int {
	return summed(four(c.Key), []byte{255, byte(address)}, four(cid)) % 1073741824
}

func retry(c api.Config, address, cid, time int) api.Sent {
	return api.Sent{To: address, Bytes: bytes.Join([][]byte{{3}, written(cid), {9}, tokenOf(c, address, time)}, nil)}
}

func news(address, cid int, frame []byte) api.Sent {
	return api.Sent{To: address, Bytes: bytes.Join([][]byte{{4}, written(cid), frame}, nil)}
}

func closed(address, cid, code int) api.Sent { return news(address, cid, numberFrame(19, code)) }

func welcome(c api.Config, address, cid int) api.Sent {
	return news(address, cid, numberFrame(20, proofOf(c, address, cid), c.Window, c.Piece, c.Streams))
}

func pieceNews(address, cid, id, credit int) api.Sent {
	return news(address, cid, numberFrame(17, id, credit))
}

func dataNews(address, cid, credit int) api.Sent { return news(address, cid, numberFrame(16, credit)) }

func streamsNews(address, cid, limit int) api.Sent {
	return news(address, cid, numberFrame(18, limit))
}

// What is read of a stream.

func text(s string) api.Got  { return api.Got{Bytes: []byte(s)} }
func ended(s string) api.Got { return api.Got{Bytes: []byte(s), End: true} }
func gaveUp() api.Got        { return api.Got{Reset: true} }

// server is a server under test.
type server struct {
	*cistern.Server
	t *testing.T
	c api.Config
}

func start(t *testing.T, c api.Config) server {
	t.Helper()
	s, e := cistern.New(c)
	if s == nil || e != api.OK {
		t.Fatalf("New(%+v) = %v, %d", c, s, e)
	}
	return server{s, t, c}
}

// receives hands in a datagram, and looks at what is sent. Each time it sees to P2, too: what is lent is not written into, and is spoiled behind the call, as is what came out.
func (s server) receives(address int, b []byte, want ...api.Sent) {
	s.t.Helper()
	got := lend(s.t, b, func(lent []byte) []api.Sent { return s.Receive(address, lent) })
	if !sameSent(got, want) {
		s.t.Fatalf("Receive(%d, %x) sent %x, want %x", address, b, got, want)
	}
	spoilSent(got)
}

// lend calls with a copy of b that has spare room.
func lend[R any](t *testing.T, b []byte, call func(lent []byte) R) R {
	t.Helper()
	room := append(bytes.Clone(b), bytes.Repeat([]byte{1}, 20)...)
	before := bytes.Clone(room)
	answer := call(room[:len(b)])
	if !bytes.Equal(room, before) {
		t.Fatalf("what was lent, %x, was made %x", before, room)
	}
	spoil(room)
	return answer
}

func sameSent(a, b []api.Sent) bool {
	same := len(a) == len(b)
	for i := range a {
		same = same && a[i].To == b[i].To && bytes.Equal(a[i].Bytes, b[i].Bytes)
	}
	return same
}

// spoil writes into a list and its spare room.
func spoil(b []byte) {
	b = b[:cap(b)]
	for i := range b {
		b[i] ^= 255
	}
}

func spoilSent(l []api.Sent) {
	l = l[:cap(l)]
	for i := range l {
		spoil(l[i].Bytes)
		l[i] = api.Sent{To: -1}
	}
}

func (s server) looks(cid int, want api.Look) {
	s.t.Helper()
	if l, e := s.Look(cid); l != want || e != api.OK {
		s.t.Fatalf("Look(%d) = %+v, %d, want %+v", cid, l, e, want)
	}
}

// buffers looks at one number of a connection, where the others are not what is tested.
func (s server) buffers(cid, want int) {
	s.t.Helper()
	if l, e := s.Look(cid); l.Buffered != want || e != api.OK {
		s.t.Fatalf("Look(%d) = %+v, %d, want %d buffered", cid, l, e, want)
	}
}

// absent sees to P1, too: beside the error there is nothing.
func (s server) absent(cids ...int) {
	s.t.Helper()
	for _, cid := range cids {
		if l, e := s.Look(cid); l != (api.Look{}) || e != api.ErrNone {
			s.t.Fatalf("Look(%d) = %+v, %d, want ErrNone alone", cid, l, e)
		}
	}
}

func (s server) there(cids ...int) {
	s.t.Helper()
	for _, cid := range cids {
		if _, e := s.Look(cid); e != api.OK {
			s.t.Fatalf("Look(%d): %d, want OK", cid, e)
		}
	}
}

// accepts takes all that wait: they are those of the cids, in this order.
func (s server) accepts(cids ...int) {
	s.t.Helper()
	for _, want := range cids {
		if cid, e := s.Accept(); cid != want || e != api.OK {
			s.t.Fatalf("Accept() = %d, %d, want %d", cid, e, want)
		}
	}
	if cid, e := s.Accept(); cid != 0 || e != api.ErrWait {
		s.t.Fatalf("Accept() = %d, %d, want ErrWait alone", cid, e)
	}
}

func (s server) clock(now int, want api.Errno) {
	s.t.Helper()
	if e := s.Clock(now); e != want {
		s.t.Fatalf("Clock(%d) = %d, want %d", now, e, want)
	}
}

func (s server) memory(want int) {
	s.t.Helper()
	if m := s.Memory(); m != want {
		s.t.Fatalf("Memory() = %d, want %d", m, want)
	}
}

// opens makes a connection that is proven, by a token that holds for long.
func (s server) opens(address, cid int) {
	s.t.Helper()
	s.receives(address, hello(cid, tokenOf(s.c, address, 2000000000)), welcome(s.c, address, cid))
}

// opensUnproven makes one that is not proven; its pads pay for the Welcome.
func (s server) opensUnproven(address, cid int) {
	s.t.Helper()
	s.receives(address, hello(cid, nil, pads(20)), welcome(s.c, address, cid))
}

// reads reads from a stream, and looks at what is sent. What came out is spoiled behind the call (P2).
func (s server) reads(cid, id, most int, want api.Got, news ...api.Sent) {
	s.t.Helper()
	got, sent, e := s.Read(cid, id, most)
	if !bytes.Equal(got.Bytes, want.Bytes) || got.End != want.End || got.Reset != want.Reset || e != api.OK {
		s.t.Fatalf("Read(%d, %d, %d) = %+v, %d, want %+v", cid, id, most, got, e, want)
	}
	if !sameSent(sent, news) {
		s.t.Fatalf("Read(%d, %d, %d) sent %x, want %x", cid, id, most, sent, news)
	}
	spoil(got.Bytes)
	spoilSent(sent)
}

// refusesRead sees to P1, too: beside the error there is nothing, and nothing changes.
func (s server) refusesRead(cid, id, most int, want api.Errno) {
	s.t.Helper()
	before, _ := s.Look(cid)
	got, sent, e := s.Read(cid, id, most)
	if len(got.Bytes) != 0 || got.End || got.Reset || len(sent) != 0 || e != want {
		s.t.Fatalf("Read(%d, %d, %d) = %+v, %x, %d, want the error %d alone", cid, id, most, got, sent, e, want)
	}
	if after, _ := s.Look(cid); after != before {
		s.t.Fatalf("Read(%d, %d, %d) made %+v of %+v", cid, id, most, after, before)
	}
}

func (s server) closes(cid, code int, want ...api.Sent) {
	s.t.Helper()
	if sent, e := s.Close(cid, code); !sameSent(sent, want) || e != api.OK {
		s.t.Fatalf("Close(%d, %d) = %x, %d, want %x", cid, code, sent, e, want)
	} else {
		spoilSent(sent)
	}
}

// refusesClose sees to P1, too.
func (s server) refusesClose(cid, code int, want api.Errno) {
	s.t.Helper()
	before, there := s.Look(cid)
	if sent, e := s.Close(cid, code); len(sent) != 0 || e != want {
		s.t.Fatalf("Close(%d, %d) = %x, %d, want the error %d alone", cid, code, sent, e, want)
	}
	if after, still := s.Look(cid); after != before || still != there {
		s.t.Fatalf("Close(%d, %d) made %+v, %d of %+v, %d", cid, code, after, still, before, there)
	}
}
