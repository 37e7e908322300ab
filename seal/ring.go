package seal

import (
	"bytes"
	"maps"
	"slices"

	"donjon/api"
)

// Ring has keys.
type Ring struct {
	keys map[uint32]map[uint16][]byte // by tenant, and by generation; a tenant without any is not in it
}

// NewRing is a ring without keys.
func NewRing() *Ring { return &Ring{keys: map[uint32]map[uint16][]byte{}} }

// missing tells whether there is no ring; one that NewRing did not make is none either.
func (r *Ring) missing() bool { return r == nil || r.keys == nil }

// Add puts a copy of the key into the ring.
func (r *Ring) Add(tenant uint32, gen uint16, key []byte) api.Errno {
	if r.missing() {
		return api.ErrNil
	}
	if !isKey(key) {
		return api.ErrArg
	}
	if _, ok := r.keys[tenant][gen]; ok {
		return api.ErrTwice
	}
	if r.keys[tenant] == nil {
		r.keys[tenant] = map[uint16][]byte{}
	}
	r.keys[tenant][gen] = bytes.Clone(key)
	return api.OK
}

// Key is the tenant's key of that generation.
func (r *Ring) Key(tenant uint32, gen uint16) ([]byte, api.Errno) {
	if r.missing() {
		return nil, api.ErrNil
	}
	key, ok := r.keys[tenant][gen]
	if !ok {
		return nil, api.ErrNone
	}
	return bytes.Clone(key), api.OK
}

// Newest is the greatest generation of the tenant's keys.
func (r *Ring) Newest(tenant uint32) (uint16, api.Errno) {
	if r.missing() {
		return 0, api.ErrNil
	}
	gens := r.Gens(tenant)
	if len(gens) == 0 {
		return 0, api.ErrNone
	}
	return gens[len(gens)-1], api.OK
}

// Drop takes the tenant's key of that generation out of the ring.
func (r *Ring) Drop(tenant uint32, gen uint16) api.Errno {
	if r.missing() {
		return api.ErrNil
	}
	if _, ok := r.keys[tenant][gen]; !ok {
		return api.ErrNone
	}
	delete(r.keys[tenant], gen)
	if len(r.keys[tenant]) == 0 {
		delete(r.keys, tenant)
	}
	return api.OK
}

// Gens is the generations of the tenant's keys, rising.
func (r *Ring) Gens(tenant uint32) []uint16 {
	if r.missing() {
		return nil
	}
	return slices.Sorted(maps.Keys(r.keys[tenant]))
}
