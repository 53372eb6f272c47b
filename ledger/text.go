package ledger

import "coffer/api"

// metaForm is how metadata stand in their text. Members are written in the order in which they stand here, and read in any.
func metaForm() form[api.Meta] {
	return object([]member[api.Meta]{
		{key: "config", form: within(func(m *api.Meta) *api.Shape { return &m.Shape }, shapeForm())},
		{key: "digest", form: within(func(m *api.Meta) *api.KeyDigest { return &m.Digest }, digestForm())},
		{key: "keyslots", form: numbered(func(m *api.Meta) *[]api.Slot { return &m.Slots }, func(s *api.Slot) *int { return &s.Number }, slotForm())},
		{key: "epochs", form: numbered(func(m *api.Meta) *[]api.Epoch { return &m.Epochs }, func(p *api.Epoch) *uint64 { return &p.Number }, epochForm())},
		{key: "segments", form: list(func(m *api.Meta) *[]api.Segment { return &m.Segments }, segmentForm())},
		{key: "rotation", form: within(func(m *api.Meta) *api.Rotation { return &m.Rotation }, rotationForm())},
		{key: "tokens", form: numbered(func(m *api.Meta) *[]api.Token { return &m.Tokens }, func(t *api.Token) *int { return &t.Number }, tokenForm())},
	})
}

func shapeForm() form[api.Shape] {
	return object([]member[api.Shape]{
		{key: "unit", form: number(func(s *api.Shape) *int { return &s.Unit })},
		{key: "count", form: number(func(s *api.Shape) *uint64 { return &s.Count })},
		{key: "head", form: number(func(s *api.Shape) *int { return &s.Head })},
		{key: "keys", form: number(func(s *api.Shape) *int { return &s.Keys })},
	})
}

func digestForm() form[api.KeyDigest] {
	return object([]member[api.KeyDigest]{
		{key: "turns", form: number(func(d *api.KeyDigest) *int { return &d.Turns })},
		{key: "salt", form: base64(func(d *api.KeyDigest) *string { return &d.Salt })},
		{key: "value", form: base64(func(d *api.KeyDigest) *string { return &d.Digest })},
	})
}

func slotForm() form[api.Slot] {
	return object([]member[api.Slot]{
		{key: "priority", form: number(func(s *api.Slot) *int { return &s.Priority })},
		{key: "hash", form: word(func(s *api.Slot) *int { return &s.Hash }, name{number: api.Hash256, word: "sha256"}, name{number: api.Hash512, word: "sha512"})},
		{key: "turns", form: number(func(s *api.Slot) *int { return &s.Turns })},
		{key: "salt", form: base64(func(s *api.Slot) *string { return &s.Salt })},
		{key: "cipher", form: plain(func(s *api.Slot) *string { return &s.Cipher })},
		{key: "stripes", form: number(func(s *api.Slot) *int { return &s.Stripes })},
		{key: "offset", form: number(func(s *api.Slot) *int64 { return &s.Area.Offset })},
		{key: "size", form: number(func(s *api.Slot) *int64 { return &s.Area.Size })},
	})
}

func epochForm() form[api.Epoch] {
	return object([]member[api.Epoch]{
		{key: "cipher", form: plain(func(p *api.Epoch) *string { return &p.Cipher })},
		{key: "nonce", form: base64(func(p *api.Epoch) *string { return &p.Nonce })},
		{key: "sealed", form: base64(func(p *api.Epoch) *string { return &p.Sealed })},
		{key: "check", form: base64(func(p *api.Epoch) *string { return &p.Check })},
	})
}

func segmentForm() form[api.Segment] {
	return object([]member[api.Segment]{
		{key: "start", form: number(func(s *api.Segment) *uint64 { return &s.Start })},
		{key: "count", form: number(func(s *api.Segment) *uint64 { return &s.Count })},
		{key: "epoch", form: number(func(s *api.Segment) *uint64 { return &s.Epoch })},
	})
}

func rotationForm() form[api.Rotation] {
	return perhaps(func(r *api.Rotation) *bool { return &r.On }, object([]member[api.Rotation]{
		{key: "from", form: number(func(r *api.Rotation) *uint64 { return &r.From })},
		{key: "to", form: number(func(r *api.Rotation) *uint64 { return &r.To })},
		{key: "back", form: flag(func(r *api.Rotation) *bool { return &r.Back })},
		{key: "mode", form: word(func(r *api.Rotation) *int { return &r.Mode }, name{number: api.ByJournal, word: "journal"}, name{number: api.ByDigests, word: "digests"})},
		{key: "hot", form: number(func(r *api.Rotation) *uint64 { return &r.Hot })},
		{key: "done", form: number(func(r *api.Rotation) *uint64 { return &r.Done })},
		{key: "offset", form: number(func(r *api.Rotation) *int64 { return &r.Area.Offset })},
		{key: "size", form: number(func(r *api.Rotation) *int64 { return &r.Area.Size })},
		{key: "step", form: stepForm()},
	}))
}

// stepForm is of what a rotation says of its step in the midst.
func stepForm() form[api.Rotation] {
	return perhaps(func(r *api.Rotation) *bool { return &r.Active }, object([]member[api.Rotation]{
		{key: "count", form: number(func(r *api.Rotation) *uint64 { return &r.Count })},
		{key: "sum", form: base64(func(r *api.Rotation) *string { return &r.Sum })},
	}))
}

func tokenForm() form[api.Token] {
	return object([]member[api.Token]{
		{key: "kind", form: plain(func(t *api.Token) *string { return &t.Kind })},
		{key: "slots", form: list(func(t *api.Token) *[]int { return &t.Slots }, number(func(n *int) *int { return n }))},
		{key: "note", form: plain(func(t *api.Token) *string { return &t.Note })},
	})
}
