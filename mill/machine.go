package mill

import (
	"sluice/api"
	"sluice/platter"
	"sluice/stripe"
)

// blank gives a disk of this machine on which nothing lies, without faults.
func (m *Mill) blank() (*drive, api.Errno) {
	d, err := platter.New(m.quota)
	if err != api.OK {
		return nil, err
	}
	return &drive{d, m.power}, api.OK
}

// volumes tells the disks as volumes.
func (m *Mill) volumes() []api.Volume {
	var vs []api.Volume
	for _, d := range m.drives {
		vs = append(vs, d)
	}
	return vs
}

func (m *Mill) format() (*stripe.Stripe, api.Errno) { return stripe.Format(unit, m.volumes()...) }

func (m *Mill) open() (*stripe.Stripe, api.Errno) { return stripe.Open(m.volumes()...) }

// mount makes the volume: the disk, or the stripe over all of them.
func (m *Mill) mount(join func() (*stripe.Stripe, api.Errno)) api.Errno {
	if len(m.drives) == 1 {
		m.volume = m.drives[0]
		return api.OK
	}
	s, err := join()
	m.stripe, m.volume, m.lost = s, s, err
	return err
}

// Restart gives the power back (P19.9).
func (m *Mill) Restart(keep ...api.Keep) api.Errno {
	if !m.made() {
		return api.ErrNil
	}
	m.shut()
	for i, d := range m.drives {
		var kept api.Keep
		if i < len(keep) {
			kept = keep[i]
		}
		d.Restart(kept.Dir, kept.Bytes...)
	}
	for _, d := range m.drives {
		d.Mend()
	}
	m.power.off = false
	return m.mount(m.open)
}

// Swap puts a blank disk in the place of one, and fills it again from the others (P19.9).
func (m *Mill) Swap(disk int) api.Errno {
	if err := m.begin(); err != api.OK {
		return err
	}
	if m.stripe == nil || !m.has(disk) {
		return api.ErrArg
	}
	d, err := m.blank()
	if err != api.OK {
		return err
	}
	if err := m.stripe.Replace(disk, d); err != api.OK {
		return err
	}
	m.drives[disk] = d
	return api.OK
}
