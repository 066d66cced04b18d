package cistern_test

import (
	"bytes"
	"encoding/binary"
	"hash/fnv"
	"math"
	"testing"

	"cistern/api"
	"cistern/cistern"
)

// config is the one of the document's examples.
func config() api.Config {
	return api.Config{Conns: 2, Window: 16, Piece: 8, Streams: 2, Gaps: 2, Load: 1, Idle: 10, Life: 5, Memory: 1000}
}

func keyed(key int) api.Config {
	c := config()
	c.Key = key
	return c
}

func four(n int) []byte {
	return binary.LittleEndian.AppendUint32(nil, uint32(n))
}

// summed is the library's FNV-1a of all the parts.
func summed(parts ...[]byte) int {
	h := fnv.New32a()
	for _, p := range parts {
		h.Write(p)
	}
	return int(h.Sum32())
}

func TestP3TokensOfKnownBytes(t *testing.T) {
	for _, x := range []struct {
		key, address, time int
		want               []byte
	}{
		{0, 7, 5, []byte{7, 5, 0, 0, 0, 131, 237, 106, 4}},
		{0, 0, 0, []byte{0, 0, 0, 0, 0, 255, 129, 229, 200}},
		{0x01020304, 7, 0x0a0b0c0d, []byte{7, 13, 12, 11, 10, 26, 82, 99, 8}},
		{1, 255, 0, []byte{255, 0, 0, 0, 0, 49, 254, 2, 211}},
		{4294967295, 0, 4294967295, []byte{0, 255, 255, 255, 255, 111, 239, 22, 176}},
		{4294967295, 255, 4294967295, []byte{255, 255, 255, 255, 255, 6, 189, 250, 183}},
	} {
		b, e := cistern.Token(keyed(x.key), x.address, x.time)
		if !bytes.Equal(b, x.want) || e != api.OK {
			t.Errorf("Token(key %d, %d, %d) = %v, %d, want %v", x.key, x.address, x.time, b, e, x.want)
		}
	}
}

func TestP3ProofsOfKnownNumbers(t *testing.T) {
	for _, x := range []struct {
		key, address, cid, want int
	}{
		{0, 7, 5, 51596542},
		{0, 0, 0, 869463706},
		{0x01020304, 7, 300, 379692060},
		{1, 255, 0, 137765402},
		{1, 0, 1073741823, 1017060095},
		{4294967295, 255, 1073741823, 414703803},
	} {
		p, e := cistern.Proof(keyed(x.key), x.address, x.cid)
		if p != x.want || e != api.OK {
			t.Errorf("Proof(key %d, %d, %d) = %d, %d, want %d", x.key, x.address, x.cid, p, e, x.want)
		}
	}
}

func TestP3ManyTokensAndProofs(t *testing.T) {
	numbers := []int{0, 1, 63, 64, 255, 256, 65535, 65536, 16777215, 16777216, 1073741823}
	times := append([]int{1073741824, 2147483647, 2147483648, 4294967295}, numbers...)
	for _, key := range times {
		for address := range 256 {
			place := []byte{byte(address)}
			for _, time := range times {
				front := append([]byte{byte(address)}, four(time)...)
				want := append(front, four(summed(four(key), front))...)
				if b, e := cistern.Token(keyed(key), address, time); !bytes.Equal(b, want) || e != api.OK {
					t.Fatalf("Token(key %d, %d, %d) = %v, %d, want %v", key, address, time, b, e, want)
				}
			}
			for _, cid := range numbers {
				want := summed(four(key), []byte{255}, place, four(cid)) % 1073741824
				if p, e := cistern.Proof(keyed(key), address, cid); p != want || e != api.OK {
					t.Fatalf("Proof(key %d, %d, %d) = %d, %d, want %d", key, address, cid, p, e, want)
				}
			}
		}
	}
}

func TestP3TokensAndProofsOfTheKeyAlone(t *testing.T) {
	least := api.Config{Conns: 1, Window: 8, Piece: 8, Streams: 1, Gaps: 1, Load: 0, Idle: 1, Life: 1, Memory: 0, Key: 77}
	a, _ := cistern.Token(least, 3, 4)
	b, _ := cistern.Token(keyed(77), 3, 4)
	if len(a) != 9 || !bytes.Equal(a, b) {
		t.Errorf("Token of two configs with one key: %v, %v", a, b)
	}
	p, _ := cistern.Proof(least, 3, 4)
	q, _ := cistern.Proof(keyed(77), 3, 4)
	if p == 0 || p != q {
		t.Errorf("Proof of two configs with one key: %d, %d", p, q)
	}
}

func TestP3TokenAndProofBeyondTheirBounds(t *testing.T) {
	for _, x := range []struct {
		address, number    int
		tokenErr, proofErr api.Errno
	}{
		{0, 0, api.OK, api.OK},
		{255, 1073741823, api.OK, api.OK},
		{255, 1073741824, api.OK, api.ErrArg},
		{255, 4294967295, api.OK, api.ErrArg},
		{255, 4294967296, api.ErrArg, api.ErrArg},
		{0, -1, api.ErrArg, api.ErrArg},
		{-1, 0, api.ErrArg, api.ErrArg},
		{256, 0, api.ErrArg, api.ErrArg},
		{256, -1, api.ErrArg, api.ErrArg},
		{math.MaxInt, 5, api.ErrArg, api.ErrArg},
		{math.MinInt, 5, api.ErrArg, api.ErrArg},
		{5, math.MaxInt, api.ErrArg, api.ErrArg},
		{5, math.MinInt, api.ErrArg, api.ErrArg},
	} {
		checkErrors(t, config(), x.address, x.number, x.tokenErr, x.proofErr)
	}
}

// checkErrors also sees to P1: beside an error there is nothing else.
func checkErrors(t *testing.T, c api.Config, address, number int, tokenErr, proofErr api.Errno) {
	t.Helper()
	b, e := cistern.Token(c, address, number)
	if e != tokenErr || (e == api.OK) != (len(b) == 9) || e != api.OK && len(b) != 0 {
		t.Errorf("Token(%+v, %d, %d) = %v, %d, want the error %d", c, address, number, b, e, tokenErr)
	}
	p, e := cistern.Proof(c, address, number)
	if e != proofErr || e != api.OK && p != 0 {
		t.Errorf("Proof(%+v, %d, %d) = %d, %d, want the error %d", c, address, number, p, e, proofErr)
	}
}

func TestP2TokenAnswersFreshBytes(t *testing.T) {
	checkFresh(t, []byte{7, 5, 0, 0, 0, 131, 237, 106, 4}, func() []byte {
		b, _ := cistern.Token(config(), 7, 5)
		return b
	})
}
