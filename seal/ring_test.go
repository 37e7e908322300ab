package seal_test

import (
	"bytes"
	"math"
	"slices"
	"testing"

	"donjon/api"
	"donjon/seal"
)

// ring is a new one.
func ring(t *testing.T) *seal.Ring {
	t.Helper()
	r := seal.NewRing()
	if r == nil {
		t.Fatal("NewRing: nil")
	}
	return r
}

// adds asks that Add answers this.
func adds(t *testing.T, r *seal.Ring, tenant uint32, gen uint16, key []byte, want api.Errno) {
	t.Helper()
	if e := r.Add(tenant, gen, key); e != want {
		t.Errorf("Add(%d, %d, %d bytes): %v, not %v", tenant, gen, len(key), e, want)
	}
}

// drops asks that Drop answers this.
func drops(t *testing.T, r *seal.Ring, tenant uint32, gen uint16, want api.Errno) {
	t.Helper()
	if e := r.Drop(tenant, gen); e != want {
		t.Errorf("Drop(%d, %d): %v, not %v", tenant, gen, e, want)
	}
}

// hasKey asks that Key answers this key, or, if it is nil, ErrNone.
func hasKey(t *testing.T, r *seal.Ring, tenant uint32, gen uint16, want []byte) {
	t.Helper()
	fault := api.OK
	if want == nil {
		fault = api.ErrNone
	}
	if key, e := r.Key(tenant, gen); !bytes.Equal(key, want) || e != fault {
		t.Errorf("Key(%d, %d): %x, %v, not %x, %v", tenant, gen, key, e, want, fault)
	}
}

// hasGens asks that the tenant has keys of just these generations.
func hasGens(t *testing.T, r *seal.Ring, tenant uint32, want ...uint16) {
	t.Helper()
	if got := r.Gens(tenant); !slices.Equal(got, want) {
		t.Errorf("Gens(%d): %d, not %d", tenant, got, want)
	}
	var newest uint16
	fault := api.ErrNone
	if len(want) > 0 {
		newest, fault = want[len(want)-1], api.OK
	}
	if g, e := r.Newest(tenant); g != newest || e != fault {
		t.Errorf("Newest(%d): %d, %v, not %d, %v", tenant, g, e, newest, fault)
	}
}

// P10.3

func TestExampleOfARing(t *testing.T) {
	r := ring(t)
	adds(t, r, 1, 3, ruled(16, 1), api.OK)
	adds(t, r, 1, 3, ruled(16, 1), api.ErrTwice)
	hasGens(t, r, 1, 3)
	hasGens(t, r, 2)
	drops(t, r, 1, 3, api.OK)
	hasGens(t, r, 1)
}

func TestRingsThatAreNotThere(t *testing.T) {
	for _, r := range []*seal.Ring{nil, {}} {
		for range 2 {
			for _, key := range [][]byte{nil, ruled(15, 1), ruled(16, 1), ruled(32, 1)} {
				adds(t, r, 1, 3, key, api.ErrNil)
			}
			if key, e := r.Key(1, 3); len(key) != 0 || e != api.ErrNil {
				t.Errorf("Key: %x, %v", key, e)
			}
			if g, e := r.Newest(1); g != 0 || e != api.ErrNil {
				t.Errorf("Newest: %d, %v", g, e)
			}
			drops(t, r, 1, 3, api.ErrNil)
			if list := r.Gens(1); len(list) != 0 {
				t.Errorf("Gens: %d", list)
			}
		}
	}
}

func TestANewRingHasNoKeys(t *testing.T) {
	r := ring(t)
	for _, tenant := range []uint32{0, 1, math.MaxUint32} {
		hasGens(t, r, tenant)
		for _, gen := range []uint16{0, 1, math.MaxUint16} {
			hasKey(t, r, tenant, gen, nil)
			drops(t, r, tenant, gen, api.ErrNone)
		}
	}
}

func TestAddRefusesKeys(t *testing.T) {
	r := ring(t)
	adds(t, r, 1, 3, ruled(32, 9), api.OK)
	for _, key := range noKeys() {
		// A key that may not be is told ahead of one that is there already.
		adds(t, r, 1, 3, key, api.ErrArg)
		adds(t, r, 1, 4, key, api.ErrArg)
		adds(t, r, 2, 3, key, api.ErrArg)
	}
	hasGens(t, r, 1, 3)
	hasGens(t, r, 2)
	hasKey(t, r, 1, 3, ruled(32, 9))
}

// What is there stays, whatever is to be put over it.
func TestAddTwice(t *testing.T) {
	r := ring(t)
	adds(t, r, 1, 3, ruled(16, 1), api.OK)
	for _, key := range [][]byte{ruled(16, 1), ruled(16, 2), ruled(32, 1)} {
		adds(t, r, 1, 3, key, api.ErrTwice)
		hasKey(t, r, 1, 3, ruled(16, 1))
	}
	drops(t, r, 1, 3, api.OK)
	hasKey(t, r, 1, 3, nil)
	drops(t, r, 1, 3, api.ErrNone)
	adds(t, r, 1, 3, ruled(32, 1), api.OK)
	hasKey(t, r, 1, 3, ruled(32, 1))
	hasGens(t, r, 1, 3)
}

// Keys at both ends of the tenants and of the generations are each one of their own.
func TestKeysAtTheEdges(t *testing.T) {
	r := ring(t)
	tenants, gens := []uint32{0, 1, 65536, math.MaxUint32}, []uint16{0, 1, 255, 256, math.MaxUint16}
	keyOf := func(i, j int) []byte { return ruled(16+16*((i+j)%2), 10*i+j) }
	for i, tenant := range tenants {
		for j, gen := range gens {
			hasKey(t, r, tenant, gen, nil)
			adds(t, r, tenant, gen, keyOf(i, j), api.OK)
		}
	}
	for i, tenant := range tenants {
		hasGens(t, r, tenant, gens...)
		for j, gen := range gens {
			hasKey(t, r, tenant, gen, keyOf(i, j))
		}
	}
	hasGens(t, r, 2)
	for i, tenant := range tenants {
		drops(t, r, tenant, math.MaxUint16, api.OK)
		hasGens(t, r, tenant, gens[:4]...)
		drops(t, r, tenant, 0, api.OK)
		hasGens(t, r, tenant, gens[1:4]...)
		if i > 0 {
			hasGens(t, r, tenants[i-1], gens[1:4]...)
		}
	}
}

// A key of the generation 0 is one, too.
func TestTheGenerationNought(t *testing.T) {
	r := ring(t)
	adds(t, r, 4, 0, ruled(16, 1), api.OK)
	hasGens(t, r, 4, 0)
	adds(t, r, 4, 0, ruled(16, 1), api.ErrTwice)
	drops(t, r, 4, 0, api.OK)
	hasGens(t, r, 4)
}

func TestGensRise(t *testing.T) {
	for seed := range uint64(20) {
		next, r := chance(seed), ring(t)
		var want []uint16
		for range 200 {
			gen := uint16(next(65536))
			if !slices.Contains(want, gen) {
				want = append(want, gen)
				adds(t, r, 7, gen, ruled(16, int(gen)), api.OK)
			}
		}
		slices.Sort(want)
		hasGens(t, r, 7, want...)
	}
}

func TestRingsAreApart(t *testing.T) {
	a, b := ring(t), ring(t)
	adds(t, a, 1, 3, ruled(16, 1), api.OK)
	hasGens(t, b, 1)
	adds(t, b, 1, 3, ruled(32, 2), api.OK)
	drops(t, a, 1, 3, api.OK)
	hasKey(t, b, 1, 3, ruled(32, 2))
}

// R3

func TestARingKeepsItsKeysAlone(t *testing.T) {
	r, key := ring(t), ruled(40, 1)
	adds(t, r, 1, 3, key[:16], api.OK)
	adds(t, r, 1, 4, key[:32], api.OK)
	if !bytes.Equal(key, ruled(40, 1)) {
		t.Errorf("the key was changed: %x", key)
	}
	clear(key)
	hasKey(t, r, 1, 3, ruled(16, 1))
	told, _ := r.Key(1, 3)
	again, _ := r.Key(1, 3)
	clear(told[:cap(told)])
	if !bytes.Equal(again, ruled(16, 1)) {
		t.Errorf("answers share memory: %x", again)
	}
	hasKey(t, r, 1, 3, ruled(16, 1))
	gens, others := r.Gens(1), r.Gens(1)
	clear(gens[:cap(gens)])
	if !slices.Equal(others, []uint16{3, 4}) {
		t.Errorf("answers share memory: %d", others)
	}
	hasGens(t, r, 1, 3, 4)
	hasKey(t, r, 1, 4, ruled(32, 1))
	told, _ = r.Key(1, 4)
	drops(t, r, 1, 4, api.OK)
	if !bytes.Equal(told, ruled(32, 1)) {
		t.Errorf("a key that was told was changed: %x", told)
	}
}

// All calls in any order, against the chapter's words.

// named is what a key is known by.
type named struct {
	tenant uint32
	gen    uint16
}

// gensOf is the tenant's generations, rising.
func gensOf(keys map[named]string, tenant uint32) []uint16 {
	var list []uint16
	for n := range keys {
		if n.tenant == tenant {
			list = append(list, n.gen)
		}
	}
	slices.Sort(list)
	return list
}

func TestManyCallsOfARing(t *testing.T) {
	for seed := range uint64(50) {
		next, r, keys := chance(seed), ring(t), map[named]string{}
		for range 1000 {
			n := named{uint32(next(4)), uint16(next(6))}
			held, there := keys[n]
			switch next(6) {
			case 0, 1:
				key := ruled([]int{16, 32, 16, 32, 24}[next(5)], next(256))
				switch {
				case len(key) == 24:
					adds(t, r, n.tenant, n.gen, key, api.ErrArg)
				case there:
					adds(t, r, n.tenant, n.gen, key, api.ErrTwice)
				default:
					adds(t, r, n.tenant, n.gen, key, api.OK)
					keys[n] = string(key)
				}
			case 2, 3:
				want := api.OK
				if !there {
					want = api.ErrNone
				}
				drops(t, r, n.tenant, n.gen, want)
				delete(keys, n)
			case 4:
				if there {
					hasKey(t, r, n.tenant, n.gen, []byte(held))
				} else {
					hasKey(t, r, n.tenant, n.gen, nil)
				}
			default:
				hasGens(t, r, n.tenant, gensOf(keys, n.tenant)...)
			}
			if t.Failed() {
				t.Fatalf("seed %d", seed)
			}
		}
	}
}
