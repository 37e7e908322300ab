package seal

import (
	"slices"

	"donjon/api"
)

// page is the bytes of a sealed one.
type page [api.Block]byte

// use is what a page was sealed with. Its payload need not be kept: under one key and label each page has one alone.
type use struct {
	key   string
	label api.Label
}

// Log knows what was sealed through it.
type Log struct {
	count  int
	uses   map[page][]use // of each page, none of them twice: keys can be found under which unlike payloads become one page
	unlike map[string]int // of each nonce, how many things were sealed under it that differ
	twice  []api.Label
}

// NewLog is a log that knows of nothing.
func NewLog() *Log { return &Log{uses: map[page][]use{}, unlike: map[string]int{}} }

// missing tells whether there is no log; one that NewLog did not make is none either.
func (g *Log) missing() bool { return g == nil || g.uses == nil }

// Seal is the payload's sealed page, which the log knows of from now on.
func (g *Log) Seal(key []byte, l api.Label, payload []byte) ([]byte, api.Errno) {
	if g.missing() {
		return nil, api.ErrNil
	}
	block, e := Seal(key, l, payload)
	if e != api.OK {
		return nil, e
	}
	g.note(page(block), use{string(key), l})
	return block, api.OK
}

// note makes the log know of a page that was sealed.
func (g *Log) note(p page, u use) {
	g.count++
	nonce := string(NonceOf(u.label))
	if !slices.Contains(g.uses[p], u) {
		g.uses[p] = append(g.uses[p], u)
		g.unlike[nonce]++
	}
	// This one is among those that differ: where there are more, some other one was earlier.
	if g.unlike[nonce] > 1 {
		g.twice = append(g.twice, u.label)
	}
}

// of is what the block was sealed with, of all that the log knows.
func (g *Log) of(block []byte) []use {
	if g.missing() || len(block) != api.Block {
		return nil
	}
	return g.uses[page(block)]
}

// Has tells whether the block is one that the log's Seal answered.
func (g *Log) Has(block []byte) bool { return len(g.of(block)) > 0 }

// Knows tells whether the block is one that the log's Seal answered for just this label.
func (g *Log) Knows(l api.Label, block []byte) bool {
	return slices.ContainsFunc(g.of(block), func(u use) bool { return u.label == l })
}

// Count is how many pages were sealed.
func (g *Log) Count() int {
	if g.missing() {
		return 0
	}
	return g.count
}

// Twice is the labels under whose nonce something else was sealed earlier.
func (g *Log) Twice() []api.Label {
	if g.missing() {
		return nil
	}
	return slices.Clone(g.twice)
}
