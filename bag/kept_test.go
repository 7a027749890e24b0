package bag

import (
	"math/rand"
	"testing"

	"sublet/api"
)

// What has come out would show in no answer, if it stayed, but its bytes would
// be kept for nothing.
func TestWhatIsOutIsNotKept(t *testing.T) {
	dice := rand.New(rand.NewSource(70))
	b := New()
	for range 2000 {
		switch dice.Intn(5) {
		case 0, 1:
			b.Send(api.Packet{From: 1, To: 2, Data: []byte("x")})
		case 2:
			b.Double(dice.Intn(api.MaxBag))
		case 3:
			b.Take(dice.Intn(8))
		case 4:
			b.Drop(dice.Intn(8))
		}
		for k, p := range b.packets {
			if out := p.From == 0 && p.To == 0 && p.Data == nil; out != (k >= b.Len()) {
				t.Fatalf("of %d packets, %v stands at %d", b.Len(), p, k)
			}
		}
	}
}
