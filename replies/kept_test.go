package replies

import (
	"math/rand"
	"testing"

	"sublet/api"
)

// What has been forgotten would show in no answer, if it stayed where nobody may
// ask for it, but it would be kept for nothing.
func TestWhatIsForgottenIsNotKept(t *testing.T) {
	dice := rand.New(rand.NewSource(163))
	r := New()
	for range 20000 {
		from, to := dice.Intn(4), 4+dice.Intn(4)
		now := r.clients[from].span
		seq := 1 + now.low + dice.Intn(10)
		m := api.Message{Kind: api.Ask, From: from, To: to, Boot: 1 + now.boot, Seq: seq, Low: 1, Verb: api.Release, Id: 5}
		if now.boot > 0 && dice.Intn(30) > 0 {
			m.Boot = now.boot
		}
		if dice.Intn(4) == 0 {
			m.Low = max(1, seq-dice.Intn(7))
		}
		r.Keep(m, api.Message{Kind: api.Reply, From: to, To: from, Boot: m.Boot, Seq: m.Seq, Id: 1, Term: 9, Stamp: []int{seq}})
		for client, k := range r.clients {
			count := 0
			for place, a := range k.answers {
				if a.Kind == 0 && (a.Seq != 0 || a.Stamp != nil) || a.Kind != 0 && (!k.span.has(a) || a.Seq%api.Window != place) {
					t.Fatalf("of the client %d, %v is kept within %v", client, a, k.span)
				}
				if a.Kind != 0 {
					count++
				}
			}
			if count != r.Len(client) {
				t.Fatalf("of the client %d, %d are kept, and Len tells %d", client, count, r.Len(client))
			}
		}
	}
}
