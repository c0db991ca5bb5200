package voyage_test

import (
	"math/rand"
	"slices"
	"testing"

	"bathyal/api"
	"bathyal/voyage"
)

// copied returns a chart that shares no memory with another one.
func copied(c api.VoyageChart) api.VoyageChart {
	c.Next, c.Ports, c.Passages = slices.Clone(c.Next), slices.Clone(c.Ports), slices.Clone(c.Passages)
	return c
}

// The ways in which a chart can be better.
const (
	longerLicences = iota
	laterEnd
	greaterCask
	springs
	fewerWinds
	ways
)

// better returns a chart that is better in some way.
func better(r *rand.Rand, c api.VoyageChart, way int) api.VoyageChart {
	c = copied(c)
	port := &c.Ports[anyOf(r, 1, len(c.Ports)-1)]
	switch way {
	case longerLicences:
		port.First, port.Last = anyOf(r, 0, port.First), anyOf(r, port.Last, api.VoyageDays)
	case laterEnd:
		c.End = anyOf(r, c.End, api.VoyageDays)
	case greaterCask:
		c.Cask = anyOf(r, c.Cask, api.VoyageCask)
	case springs:
		port.Fresh = true
	case fewerWinds:
		for i, set := range c.Next {
			if fewer := set & anyOf(r, 1, 7); fewer > 0 {
				c.Next[i] = fewer
			}
		}
	}
	return c
}

// P7.9: what is better never makes a safe state unsafe, nor what is surely caught less
func TestBetter(t *testing.T) {
	r := source(11)
	met := map[any]int{}
	for range 30000 {
		c := anyChart(r, anyOf(r, 3, 12), api.VoyagePassages)
		s, way := anyState(r, c), r.Intn(ways)
		d := better(r, c, way)
		safe, _ := voyage.Home(c, s)
		sure, _ := voyage.Sure(c, s)
		still, e := voyage.Home(d, s)
		more, _ := voyage.Sure(d, s)
		if e != api.OK || safe && !still || more < sure {
			t.Fatal(way, c, d, s, safe, still, sure, more)
		}
		if !safe && still {
			met[way]++
		}
		if safe && more > sure {
			met[ways+way]++
		}
	}
	for way := range ways {
		wantAll(t, met, any(way), any(ways+way))
	}
}
